/- Draws of chapter 5: a form and a prime; a prime and a kind; a form and a limit. -/
import Derived.Test.YtambbhldhhlfgaaDoorFkDraw12
import Derived.Test.YtambbhldhhlfgaaDoorFkZ5
import Derived.Test.YtambbhldhhlfgaaDoorFkZ4
import Derived.Test.YtambbhldhhlfgaaDoorFkZ12
import Derived.Test.YtambbhldhhlfgaaDoorFkZ13
namespace Go.Proofs.YtambbhldhhlfgaaDoor
open Go.ChangeShapes Go.WideShapes Go.ChangeAt Go.RowKit

theorem lit_ex5 (w : World) (T : TypeId) (xs : List Int) (cs : Array Value) (n : Nat) (hc : cs = (xs.map (Value.int .i64)).toArray) (hn : n = xs.length) : ∀ i, i < n → ∃ x : Int, (w.alloc (.cells cs T)).cell? ⟨w.heap.size, i, none⟩ = some (.int .i64 x) := fun i hi => by
  subst hn; subst hc
  refine ⟨xs.getD i 0, ?_⟩
  rw [(Bx.new w (xs.map (Value.int .i64)).toArray T).cell i]
  simp [List.getD, hi]

theorem lit_bx {w : World} {b : Nat} {T : TypeId} {cs : Array Value} (h : Bx w b cs T) (xs : List Int) (n : Nat) (hc : cs = (xs.map (Value.int .i64)).toArray) (hn : n = xs.length) : ∀ i, i < n → ∃ x : Int, w.cell? ⟨b, i, none⟩ = some (.int .i64 x) := fun i hi => by
  subst hn; subst hc
  refine ⟨xs.getD i 0, ?_⟩
  rw [h.cell i]
  simp [List.getD, hi]

set_option maxHeartbeats 1000000 in
theorem near_any (k : Nat) (a : Option Addr) (len cap : Nat) (zs : List Int) (n : Int) (w : World) (hS : Src w k a len cap zs) :
    Calls Tryd.prog 151 #[.pointer (some ⟨k, 0, none⟩), .int .i64 n] w (NumPost k a len cap zs w) := by
  have hl := hS.lt
  go_enter Tryd.func151, Tryd.ntmps151
  go_wp2_with fail
  refine (next_any k a len cap zs _ _ hS).mono ?_
  rintro e w1 ⟨x, rfl, _, _, S1', G1⟩
  have S1 := hid S1'
  have hl1 := S1'.lt
  clear hS S1'
  by_cases hx : x = 0
  · have hb : (x == 0) = true := by simpa using hx
    have HL := hid (lit_ex5 w1 2 [-1, wrap64 (n + 1), 1099511627776, -4611686018427387904] #[.int .i64 (-1), .int .i64 (wrap64 (n + 1)), .int .i64 1099511627776, .int .i64 (-4611686018427387904)] 4 rfl rfl)
    have S2 := hid (S1.out.alloc (.cells #[.int .i64 (-1), .int .i64 (wrap64 (n + 1)), .int .i64 1099511627776, .int .i64 (-4611686018427387904)] 2))
    have G2 := G1.alloc (.cells #[.int .i64 (-1), .int .i64 (wrap64 (n + 1)), .int .i64 1099511627776, .int .i64 (-4611686018427387904)] 2)
    subst hx
    go_wp2_with fail
    refine (pick_any k a len cap zs _ 4 _ S2.out (by omega) (by omega) (by simp) (by omega) HL.out).mono ?_
    rintro e w3 ⟨x3, rfl, S3', G3⟩
    have S3 := hid S3'
    have G3' := G2.trans G3
    clear S3' G3 G2 S2 HL
    go_wp2
    go_ret
    exact ⟨_, rfl, S3.out, G3'⟩
  · have hb : (x == 0) = false := by simpa using hx
    clear hx
    go_wp2_with fail
    refine (next_any k a len cap zs _ _ S1.out).mono ?_
    rintro e w3 ⟨x3, rfl, _, _, S3', G3⟩
    have S3 := hid S3'
    have G3' := G1.trans G3
    clear S3' G3 S1
    go_wp2
    go_ret
    exact ⟨_, rfl, S3.out, G3'⟩

set_option maxHeartbeats 1000000 in
theorem prime_any (k : Nat) (a : Option Addr) (len cap : Nat) (zs : List Int) (w : World) (hS : Src w k a len cap zs) :
    Calls Tryd.prog 150 #[.pointer (some ⟨k, 0, none⟩)] w (NumPost k a len cap zs w) := by
  have hl := hS.lt
  go_enter Tryd.func150, Tryd.ntmps150
  go_wp2_with fail
  refine (near_any k a len cap zs _ _ hS).mono ?_
  rintro e w1 ⟨y, rfl, S1', G1⟩
  have hl1 := S1'.lt
  have HL := hid (lit_ex5 w1 2 [2, 2, 3, 3, 5, 5, 7, 7, 11, 13, 23, 31, 97, y] #[.int .i64 2, .int .i64 2, .int .i64 3, .int .i64 3, .int .i64 5, .int .i64 5, .int .i64 7, .int .i64 7, .int .i64 11, .int .i64 13, .int .i64 23, .int .i64 31, .int .i64 97, .int .i64 y] 14 rfl rfl)
  have S2 := hid (S1'.alloc (.cells #[.int .i64 2, .int .i64 2, .int .i64 3, .int .i64 3, .int .i64 5, .int .i64 5, .int .i64 7, .int .i64 7, .int .i64 11, .int .i64 13, .int .i64 23, .int .i64 31, .int .i64 97, .int .i64 y] 2))
  have G2 := G1.alloc (.cells #[.int .i64 2, .int .i64 2, .int .i64 3, .int .i64 3, .int .i64 5, .int .i64 5, .int .i64 7, .int .i64 7, .int .i64 11, .int .i64 13, .int .i64 23, .int .i64 31, .int .i64 97, .int .i64 y] 2)
  clear S1' G1 hS
  go_wp2_with fail
  refine (pick_any k a len cap zs _ 14 _ S2.out (by omega) (by omega) (by simp) (by omega) HL.out).mono ?_
  rintro e w3 ⟨x3, rfl, S3', G3⟩
  have S3 := hid S3'
  have G3' := G2.trans G3
  clear S3' G3 G2 S2 HL
  go_wp2
  go_ret
  exact ⟨_, rfl, S3.out, G3'⟩

/-- A form and a number. -/
def WithOut (w : World) (e : Ending) (w' : World) : Prop := ∃ p q r s n : Int, e = .returned (.tuple #[.agg #[.int .i64 p, .int .i64 q, .int .i64 r, .int .i64 s], .int .i64 n]) ∧ Below w.heap.size w w'
def TwoNum (w : World) (e : Ending) (w' : World) : Prop := ∃ m n : Int, e = .returned (.tuple #[.int .i64 m, .int .i64 n]) ∧ Below w.heap.size w w'
theorem res_AN {P : Program} {fn : Func} {p : Tmp} {s : Tmp} {ty e : TypeId} {tmps : Array Value} {w : World} {b : Nat} {x0 x1 x2 x3 n : Int} (h : fn.results = #[.cell p ty, .tmp s]) (hu : P.underlying ty = some (.array 4 e)) (hi : (P.info? ty).map (·.size) = some 4)
    (hp : tmps.getD p undef = .pointer (some ⟨b, 0, none⟩)) (hs : tmps.getD s undef = .int .i64 n) (hA : Arr w b x0 x1 x2 x3) :
    (results fn tmps).run P w = .ok (.tuple #[.agg #[.int .i64 x0, .int .i64 x1, .int .i64 x2, .int .i64 x3], .int .i64 n]) w := by
  have hq : tmps[p]?.getD undef = .pointer (some ⟨b, 0, none⟩) := by simpa using hp
  have hs' : tmps[s]?.getD undef = .int .i64 n := by simpa using hs
  simp [results, h, hq, hs', asAddr, loadVar4 w b ty e _ _ _ _ hu hi hA.c0 hA.c1 hA.c2 hA.c3]

set_option maxRecDepth 100000 in
set_option maxHeartbeats 4000000 in
theorem with_any (a : Option Addr) (len cap : Nat) (zs : List Int) (w : World) (hR : IsRow .u8 w a len cap zs) (hlen : len ≤ 9223372036854775807) :
    Calls Tryd.prog 141 #[.slice a len cap] w (WithOut w) := by
  have R0 := Arr.new w 0 0 0 0 25
  have U0 := gr_alloc (Below.refl w.heap.size w) (.cells #[.int .i64 0, .int .i64 0, .int .i64 0, .int .i64 0] 25)
  have hR0 := row8_next hR U0
  clear hR
  go_enter Tryd.func141, Tryd.ntmps141
  go_wp2_with fail
  refine (from_any a len cap zs _ hR0 hlen).mono ?_
  rintro e w1 ⟨rfl, S1', hb1⟩
  have S1 := hid S1'
  have R1 := R0.next hb1
  have U1 := gr_trans U0 hb1
  clear S1' hR0 R0 U0 hb1
  simp only [World.size_alloc] at S1 ⊢
  generalize hk : w.heap.size + 1 = k at S1 ⊢
  go_wp2_with fail
  refine (spoil_any _ a len cap zs _ S1.out).mono ?_
  rintro e w2 ⟨p, q, r, s, rfl, S2', G2⟩
  have R2 := R1.gk G2 (by omega)
  have U2 := Gk.out U1 G2 (by omega)
  have hk2 := S2'.lt
  have hR2 := R2.lt
  have X3 := Arr.new w2 p q r s 25
  have S3 := hid (S2'.alloc (.cells #[.int .i64 p, .int .i64 q, .int .i64 r, .int .i64 s] 25))
  have R3 := R2.alloc (.cells #[.int .i64 p, .int .i64 q, .int .i64 r, .int .i64 s] 25)
  have U3 := gr_alloc U2 (.cells #[.int .i64 p, .int .i64 q, .int .i64 r, .int .i64 s] 25)
  clear S1 R1 U1 G2 S2' R2 U2
  obtain ⟨j, hj⟩ : ∃ j, j = w2.heap.size := ⟨_, rfl⟩
  rw [← hj] at X3 hk2 hR2
  go_wp2_with fail
  rw [← hj]
  generalize w2.alloc (.cells #[.int .i64 p, .int .i64 q, .int .i64 r, .int .i64 s] 25) = W3 at X3 S3 R3 U3 ⊢
  clear hj
  refine (prime_any k a len cap zs _ S3.out).mono ?_
  rintro e w4 ⟨n, rfl, S4', G4⟩
  have S4 := hid S4'
  have X4 := X3.gk G4 (by omega)
  have R4 := R3.gk G4 (by omega)
  have U4 := Gk.out U3 G4 (by omega)
  clear S3 R3 U3 X3 G4 S4'
  obtain ⟨_, x0, x1, x2, x3, _⟩ := id X4
  go_upto_region 4 with fail
  go_cut [24] (fun s24 wx => ∃ b : Bool, s24 = .bool b ∧ Hid (Src wx k a len cap zs) ∧ Arr wx j p q r s ∧ Arr wx w.heap.size 0 0 0 0 ∧ Below w.heap.size w wx)
  case first =>
    go_wp2_with fail
    refine (l01Is_any p q r s _).mono ?_
    rintro e w5 ⟨rfl, hb5⟩
    have S5 := hid (S4.out.below hb5)
    have X5 := X4.next hb5
    have R5 := R4.next hb5
    have U5 := gr_trans U4 hb5
    clear S4 X4 R4 U4 x0 x1 x2 x3 hb5
    cases hF : isF p q r s with
    | false =>
      go_wp2_with fail
      go_meet
      exact ⟨false, rfl, S5, X5, R5, U5⟩
    | true =>
      clear hF
      go_wp2_with fail
      refine (next_any k a len cap zs 3 _ S5.out).mono ?_
      rintro e w6 ⟨x, rfl, _, _, S6', G6⟩
      have S6 := hid S6'
      have X6 := X5.gk G6 (by omega)
      have R6 := R5.gk G6 (by omega)
      have U6 := Gk.out U5 G6 (by omega)
      clear S5 X5 R5 U5 S6' G6
      go_wp2_with fail
      go_meet
      exact ⟨_, rfl, S6, X6, R6, U6⟩
  case rest =>
    obtain ⟨b, rfl, S6, X6, R6, U6⟩ := hcut
    clear S4 X4 R4 U4 x0 x1 x2 x3
    go_upto_if 24 with (fail)
    go_cut [6] (fun s6 wx => ∃ n : Int, s6 = .int .i64 n ∧ Hid (Src wx k a len cap zs) ∧ Arr wx j p q r s ∧ Arr wx w.heap.size 0 0 0 0 ∧ Below w.heap.size w wx)
    case first =>
      cases b with
      | false =>
        go_wp2_with fail
        go_meet
        exact ⟨n, rfl, S6, X6, R6, U6⟩
      | true =>
        obtain ⟨_, x0, x1, x2, x3, _⟩ := id X6
        go_wp2_with fail
        refine (sDisc0_any p q r s _).mono ?_
        rintro e w7 ⟨rfl, hb7⟩
        have S7 := hid (S6.out.below hb7)
        have X7 := X6.next hb7
        have R7 := R6.next hb7
        have U7 := gr_trans U6 hb7
        clear S6 X6 R6 U6 x0 x1 x2 x3 hb7
        generalize dsc p q r s = D
        by_cases hD : D = 0
        · have hDb : (D == 0) = true := by simpa using hD
          subst hD
          go_wp2_with fail
          go_meet
          exact ⟨n, rfl, S7, X7, R7, U7⟩
        · have hDb : (D == 0) = false := by simpa using hD
          clear hD
          have hp1 : (prl ((97 : Int).toNat + 1)).length = 25 := by decide +kernel
          have hp2 : ∀ x ∈ prl ((97 : Int).toNat + 1), 2 ≤ x ∧ x ≤ 97 := by decide +kernel
          have hp3 : ∀ i, i < 25 → 2 ≤ (prl ((97 : Int).toNat + 1)).getD i 0 ∧ (prl ((97 : Int).toNat + 1)).getD i 0 ≤ 97 := fun i hi => hp2 _ (by rw [← hp1] at hi; exact getD_mem _ _ _ hi)
          have hL := fun W => l05Primes_any 97 W (by omega) (by omega)
          rw [hp1] at hL
          generalize (prl ((97 : Int).toNat + 1)) = PL at hL hp3
          have HL := hid hL; have HP := hid hp3
          clear hL hp1 hp2 hp3
          go_wp2_with fail
          refine (HL.out _).mono ?_
          rintro e w8 ⟨v, rfl, hV, hb8⟩
          have S8 := hid (S7.out.below hb8)
          have X8 := X7.next hb8
          have R8 := R7.next hb8
          have U8 := gr_trans U7 hb8
          have hk8 := S8.out.lt
          have hj8 := X8.lt
          have hV8 := hV.rdB
          clear S7 X7 R7 U7 hb8 hV HL
          obtain ⟨h0, h0'⟩ | ⟨bp, cp, rfl, hlc, hcm, hbp, hcell⟩ := hV8
          · omega
          have O0 := hid (owns_empty w8 w8.heap.size 2 1 (Nat.le_refl _))
          have K0 := hid (gr_alloc (Below.refl w8.heap.size w8) (.cells #[] 2))
          have HC := hid hcell
          clear hcell
          unfold maxLen at hcm
          have HS8 := hid S8; have HX8 := hid X8; have HR8 := hid R8; have HU8 := hid U8
          clear S8 X8 R8 U8
          go_wp2_with fail
          go_loopw [9, 10] (fun s9 s10 wr => ∃ (i f : Nat) (xs : List Int), i ≤ 25 ∧ f ≤ i ∧ Hid (xs.length = f) ∧ s10 = .int .i64 ((i : Int)) ∧ wr.ownsRow w8.heap.size 2 1 s9 f (xs.map (Value.int .i64)) ∧ Below w8.heap.size w8 wr) (fun _ s10 _ => 25 - (intOf s10).toNat)
          case atStart => exact ⟨0, 0, [], Nat.zero_le _, Nat.zero_le _, hid rfl, rfl, O0.out, K0.out⟩
          case round =>
            obtain ⟨i, f, xs, hi, hf, hxs, rfl, hO, hK⟩ := hrel
            have HO := hid hO; have HK := hid hK
            have hv := hK.size
            clear hO hK
            by_cases hlt : i < 25
            · have ci : wr.cell? ⟨bp, i, none⟩ = some (.int .i64 (PL.getD i 0)) := (HK.out.cell (p := ⟨bp, i, none⟩) hbp).trans (HC.out i hlt)
              obtain ⟨q1, q2⟩ := HP.out i hlt
              generalize PL.getD i 0 = y at ci q1 q2
              cases hm : (D.tmod y == 0) with
              | true =>
                go_wp2_with (at_builtin; refine app_i64 rfl _ _ rfl w8.heap.size rfl HO.out rfl (by omega) (by omega) ?_)
                intro y1 W1 O1 hg1
                have O2 : W1.ownsRow w8.heap.size 2 1 y1 (f + 1) ((xs ++ [y]).map (Value.int .i64)) := by simpa using O1
                have HO1 := hid O2
                have HK1 := hid (gr_own (gr_alloc HK.out _) hg1 (fun j hj => (HO.out.lt j hj).1))
                clear O1 O2 hg1 ci
                go_wp2_with fail
                go_roundw
                case rel => exact ⟨i + 1, f + 1, xs ++ [y], by omega, by omega, hid (by have := hxs.out; simp; omega), by go_num, HO1.out, HK1.out⟩
                case measure => simp [intOf]; omega
              | false =>
                go_wp2_with fail
                go_roundw
                case rel => exact ⟨i + 1, f, xs, by omega, by omega, hxs, by go_num, HO.out, HK.out⟩
                case measure => simp [intOf]; omega
            · have e : i = 25 := by omega
              subst e
              obtain ⟨va, vc, e1, hc1, hc2, hc3⟩ := owns_form HO.out
              have hlo := HO.out.lt
              subst e1
              have S9 := hid (HS8.out.out.below HK.out)
              have X9 := HX8.out.next HK.out
              have R9 := HR8.out.next HK.out
              have U9 := gr_trans HU8.out HK.out
              clear HS8 HX8 HR8 HU8 HO HK HC O0 K0
              by_cases hf0 : f = 0
              · subst hf0
                clear hc3 hlo
                go_wp2_with fail
                go_meet
                exact ⟨n, rfl, S9, X9, R9, U9⟩
              · obtain ⟨g, rfl, hg, hcl⟩ := hc3 (by omega)
                have hgk := (hlo g rfl).1
                have hfb : (0 : Int) < (f : Int) := by omega
                have HCL := hid hcl
                clear hcl hc3 hlo
                unfold maxLen at hc1
                go_wp2_with fail
                refine (next_any k a len cap zs _ _ S9.out).mono ?_
                rintro e w10 ⟨x, rfl, hx0, hx1, S10', G10⟩
                obtain ⟨z, rfl⟩ : ∃ z : Nat, x = z := ⟨x.toNat, by omega⟩
                have hzf : z < f := by omega
                have cz := (G10.cell (p := ⟨g, z, none⟩) hg (by show g ≠ k; omega)).trans (HCL.out z (.int .i64 (xs.getD z 0)) (by have := hxs.out; simp [List.getD, show z < xs.length by omega]))
                have S10 := hid S10'
                have X10 := X9.gk G10 (by omega)
                have R10 := R9.gk G10 (by omega)
                have U10 := Gk.out U9 G10 (by omega)
                clear S9 X9 R9 U9 S10' G10 HCL hx1
                generalize xs.getD z 0 = y at cz
                go_wp2_with fail
                go_meet
                exact ⟨y, rfl, S10, X10, R10, U10⟩
    case rest =>
      obtain ⟨n2, rfl, S7, X7, R7, U7⟩ := hcut
      clear S6 X6 R6 U6
      go_upto_region 15 with fail
      go_cut [67] (fun s67 wx => ∃ b : Bool, s67 = .bool b ∧ Hid (Src wx k a len cap zs) ∧ Arr wx j p q r s ∧ Arr wx w.heap.size 0 0 0 0 ∧ Below w.heap.size w wx)
      case first =>
        go_wp2_with fail
        refine (l01In_any _ _ _ _).mono ?_
        rintro e w8 ⟨rfl, rfl⟩
        cases hrg : rng 2 9 n2 with
        | false =>
          go_wp2_with fail
          go_meet
          exact ⟨false, rfl, S7, X7, R7, U7⟩
        | true =>
          clear hrg
          go_wp2_with fail
          refine (next_any k a len cap zs 10 _ S7.out).mono ?_
          rintro e w9 ⟨x, rfl, _, _, S8', G8⟩
          have S8 := hid S8'
          have X8 := X7.gk G8 (by omega)
          have R8 := R7.gk G8 (by omega)
          have U8 := Gk.out U7 G8 (by omega)
          clear S7 X7 R7 U7 S8' G8
          go_wp2_with fail
          go_meet
          exact ⟨_, rfl, S8, X8, R8, U8⟩
      case rest =>
        obtain ⟨b, rfl, S8, X8, R8, U8⟩ := hcut
        clear S7 X7 R7 U7
        go_upto_if 67 with (fail)
        go_cut [] (fun wx => Box wx j ∧ Arr wx w.heap.size 0 0 0 0 ∧ Below w.heap.size w wx)
        case first =>
          cases b with
          | false =>
            go_wp2_with fail
            go_meet
            exact ⟨X8.box, R8, U8⟩
          | true =>
            go_wp2_with fail
            refine (small_any k a len cap zs _ S8.out).mono ?_
            rintro e w9 ⟨p', q', r', s', rfl, S9, G9⟩
            have X9 := X8.gk G9 (by omega)
            have R9 := R8.gk G9 (by omega)
            have U9 := Gk.out U8 G9 (by omega)
            clear S8 X8 R8 U8 S9 G9
            have hbel : w.heap.size ≤ j := by omega
            obtain ⟨_, x0, x1, x2, x3, f0, f1, f2, f3⟩ := id X9
            have X10 : Arr _ j p' q' r' s' := Arr.store4 X9.box
            have R10 := R9.oth4 (i := j) (by omega) (x := .int .i64 p') (y := .int .i64 q') (z := .int .i64 r') (u := .int .i64 s')
            have U10 := below_set6 (below_set6 (below_set6 (below_set6 U9 (p := ⟨j, 0, none⟩) hbel (.int .i64 p')) (p := ⟨j, 1, none⟩) hbel (.int .i64 q')) (p := ⟨j, 2, none⟩) hbel (.int .i64 r')) (p := ⟨j, 3, none⟩) hbel (.int .i64 s')
            go_wp2_with fail
            clear x0 x1 x2 x3 f0 f1 f2 f3 X9 R9 U9
            generalize (World.setCell (World.setCell (World.setCell (World.setCell w9 ⟨j, 0, none⟩ (.int .i64 p')) ⟨j, 1, none⟩ (.int .i64 q')) ⟨j, 2, none⟩ (.int .i64 r')) ⟨j, 3, none⟩ (.int .i64 s')) = W9 at X10 R10 U10 ⊢
            go_loopw [11] (fun s11 wr => ∃ (i : Nat), s11 = .int .i64 i ∧ i ≤ 4 ∧ Box wr j ∧ Arr wr w.heap.size 0 0 0 0 ∧ Below w.heap.size w wr) (fun s11 _ => 4 - (intOf s11).toNat)
            case atStart => exact ⟨0, rfl, by omega, X10.box, R10, U10⟩
            case round =>
              obtain ⟨i, rfl, hi, ⟨y0, y1, y2, y3, X6⟩, R6, U6⟩ := hrel
              clear X10 R10 U10
              have hi' : i = 0 ∨ i = 1 ∨ i = 2 ∨ i = 3 ∨ i = 4 := by omega
              obtain ⟨_, c0, c1, c2, c3, g0, g1, g2, g3⟩ := id X6
              rcases hi' with rfl | rfl | rfl | rfl | rfl
              · go_wp2_with fail
                go_roundw
                case rel => exact ⟨1, rfl, by omega, Arr.box (X6.set0 _), R6.oth (by simp; omega) _, below_set6 U6 hbel _⟩
                case measure => simp [intOf]
              · go_wp2_with fail
                go_roundw
                case rel => exact ⟨2, rfl, by omega, Arr.box (X6.set1 _), R6.oth (by simp; omega) _, below_set6 U6 hbel _⟩
                case measure => simp [intOf]
              · go_wp2_with fail
                go_roundw
                case rel => exact ⟨3, rfl, by omega, Arr.box (X6.set2 _), R6.oth (by simp; omega) _, below_set6 U6 hbel _⟩
                case measure => simp [intOf]
              · go_wp2_with fail
                go_roundw
                case rel => exact ⟨4, rfl, by omega, Arr.box (X6.set3 _), R6.oth (by simp; omega) _, below_set6 U6 hbel _⟩
                case measure => simp [intOf]
              · go_wp2_with fail
                go_meet
                exact ⟨X6.box, R6, U6⟩
        case rest =>
          obtain ⟨⟨y0, y1, y2, y3, X9⟩, R9, U9⟩ := hcut
          clear S8 X8 R8 U8
          obtain ⟨_, x0, x1, x2, x3, _⟩ := id X9
          obtain ⟨_, r0, r1, r2, r3, f0, f1, f2, f3⟩ := id R9
          go_wp2_with fail
          refine bodyPost_ret (res_AN (e := 2) rfl Tryd.underlying25 (by kernel_rfl) rfl rfl (by (repeat (first | with_reducible assumption | with_reducible exact Arr.box (by assumption) | with_reducible exact Box.new _ _ _ _ _ _ | with_reducible exact Arr.new _ _ _ _ _ _ | with_reducible refine Arr.drew ?_ | with_reducible refine Arr.drewN ?_ _ | with_reducible refine Arr.store4 ?_ | with_reducible refine Arr.alloc ?_ _ | with_reducible refine Box.drew ?_ | with_reducible refine Box.drewN ?_ _ | with_reducible refine Box.alloc ?_ _ | with_reducible refine Arr.next ?_ (by assumption) | with_reducible refine Box.next ?_ (by assumption) | refine Arr.oth ?_ (by first | (simp; done) | omega | (simp; omega)) _ | refine Box.oth ?_ (by first | (simp; done) | omega | (simp; omega)) _ | with_reducible exact Arr3.box (by assumption) | with_reducible exact Box3.new _ _ _ _ _ | with_reducible exact Arr3.new _ _ _ _ _ | with_reducible refine Arr3.drew ?_ | with_reducible refine Arr3.drewN ?_ _ | with_reducible refine Arr3.store3 ?_ | with_reducible refine Arr3.alloc ?_ _ | with_reducible refine Box3.drew ?_ | with_reducible refine Box3.drewN ?_ _ | with_reducible refine Box3.alloc ?_ _ | with_reducible refine Arr3.next ?_ (by assumption) | with_reducible refine Box3.next ?_ (by assumption) | refine Arr3.oth ?_ (by first | (simp; done) | omega | (simp; omega)) _ | refine Box3.oth ?_ (by first | (simp; done) | omega | (simp; omega)) _)))) rfl ?_
          exact ⟨_, _, _, _, _, rfl, by (repeat' (first | with_reducible exact Below.refl _ _ | with_reducible assumption | with_reducible refine gr_alloc ?_ _ | with_reducible refine gr_drew ?_ | with_reducible refine gr_drewN ?_ _ | with_reducible refine gr_trans ?_ (by assumption) | with_reducible refine gr_set ?_ ?_ _ | (simp; done) | omega | (simp; omega)))⟩

set_option maxHeartbeats 1000000 in
theorem drawKM_any (a : Option Addr) (len cap : Nat) (zs : List Int) (w : World) (hR : IsRow .u8 w a len cap zs) (hlen : len ≤ 9223372036854775807) :
    Calls Tryd.prog 58 #[.slice a len cap] w (WithOut w) := by
  have R0 := Arr.new w 0 0 0 0 25
  have U0 := gr_alloc (Below.refl w.heap.size w) (.cells #[.int .i64 0, .int .i64 0, .int .i64 0, .int .i64 0] 25)
  have hR0 := row8_next hR U0
  clear hR
  go_enter Tryd.func58, Tryd.ntmps58
  go_wp2_with fail
  refine (with_any a len cap zs _ hR0 hlen).mono ?_
  rintro e w1 ⟨p, q, r, s, n, rfl, hb1⟩
  have R1 := R0.next hb1
  have U1 := gr_trans U0 hb1
  have U2 := gr_alloc U1 (.cells #[.int .i64 p, .int .i64 q, .int .i64 r, .int .i64 s] 25)
  have hl := R1.lt
  clear R0 U0 U1
  obtain ⟨_, r0, r1, r2, r3, f0, f1, f2, f3⟩ := id R1
  go_wp2_with fail
  refine bodyPost_ret (res_AN (e := 2) rfl Tryd.underlying25 (by kernel_rfl) rfl rfl (Arr.alloc (Arr.store4 R1.box) _)) rfl ?_
  exact ⟨_, _, _, _, _, rfl, by (repeat' (first | with_reducible exact Below.refl _ _ | with_reducible assumption | with_reducible refine gr_alloc ?_ _ | with_reducible refine gr_drew ?_ | with_reducible refine gr_drewN ?_ _ | with_reducible refine gr_trans ?_ (by assumption) | with_reducible refine gr_set ?_ ?_ _ | (simp; done) | omega | (simp; omega)))⟩

set_option maxHeartbeats 1000000 in
theorem drawRM_any (a : Option Addr) (len cap : Nat) (zs : List Int) (w : World) (hR : IsRow .u8 w a len cap zs) (hlen : len ≤ 9223372036854775807) :
    Calls Tryd.prog 68 #[.slice a len cap] w (WithOut w) := by
  have R0 := Arr.new w 0 0 0 0 25
  have U0 := gr_alloc (Below.refl w.heap.size w) (.cells #[.int .i64 0, .int .i64 0, .int .i64 0, .int .i64 0] 25)
  have hR0 := row8_next hR U0
  clear hR
  go_enter Tryd.func68, Tryd.ntmps68
  go_wp2_with fail
  refine (with_any a len cap zs _ hR0 hlen).mono ?_
  rintro e w1 ⟨p, q, r, s, n, rfl, hb1⟩
  have R1 := R0.next hb1
  have U1 := gr_trans U0 hb1
  have U2 := gr_alloc U1 (.cells #[.int .i64 p, .int .i64 q, .int .i64 r, .int .i64 s] 25)
  have hl := R1.lt
  clear R0 U0 U1
  obtain ⟨_, r0, r1, r2, r3, f0, f1, f2, f3⟩ := id R1
  go_wp2_with fail
  refine bodyPost_ret (res_AN (e := 2) rfl Tryd.underlying25 (by kernel_rfl) rfl rfl (Arr.alloc (Arr.store4 R1.box) _)) rfl ?_
  exact ⟨_, _, _, _, _, rfl, by (repeat' (first | with_reducible exact Below.refl _ _ | with_reducible assumption | with_reducible refine gr_alloc ?_ _ | with_reducible refine gr_drew ?_ | with_reducible refine gr_drewN ?_ _ | with_reducible refine gr_trans ?_ (by assumption) | with_reducible refine gr_set ?_ ?_ _ | (simp; done) | omega | (simp; omega)))⟩





set_option maxHeartbeats 1000000 in
theorem drawCK_any (a : Option Addr) (len cap : Nat) (zs : List Int) (w : World) (hR : IsRow .u8 w a len cap zs) (hlen : len ≤ 9223372036854775807) :
    Calls Tryd.prog 70 #[.slice a len cap] w (TwoNum w) := by
  go_enter Tryd.func70, Tryd.ntmps70
  go_wp2_with fail
  refine (from_any a len cap zs _ hR hlen).mono ?_
  rintro e w1 ⟨rfl, S1', hb1⟩
  have S1 := hid S1'
  clear S1' hR
  have U1 := gr_trans (Below.refl w.heap.size w) hb1
  generalize hk : w.heap.size = k at S1 U1 hb1 ⊢
  clear hb1
  go_wp2_with fail
  refine (prime_any k a len cap zs _ S1.out).mono ?_
  rintro e w2 ⟨m, rfl, S2', G2⟩
  have S2 := hid S2'
  have U2 : Below w.heap.size w w2 := Gk.out (by rw [hk]; exact U1) G2 (by omega)
  clear S1 U1 S2' G2
  go_wp2_with fail
  refine (near_any k a len cap zs _ _ S2.out).mono ?_
  rintro e w3 ⟨n, rfl, S3', G3⟩
  have U3 : Below w.heap.size w w3 := Gk.out U2 G3 (by omega)
  clear S2 U2 S3' G3
  go_wp2
  go_ret2
  exact ⟨_, _, rfl, by first | exact U3 | (rw [← hk]; exact U3)⟩

set_option maxRecDepth 100000 in
set_option maxHeartbeats 4000000 in
theorem drawKU_any (a : Option Addr) (len cap : Nat) (zs : List Int) (w : World) (hR : IsRow .u8 w a len cap zs) (hlen : len ≤ 9223372036854775807) :
    Calls Tryd.prog 63 #[.slice a len cap] w (WithOut w) := by
  have R0 := Arr.new w 0 0 0 0 25
  have U0 := gr_alloc (Below.refl w.heap.size w) (.cells #[.int .i64 0, .int .i64 0, .int .i64 0, .int .i64 0] 25)
  have hR0 := row8_next hR U0
  clear hR
  go_enter Tryd.func63, Tryd.ntmps63
  go_wp2_with fail
  refine (from_any a len cap zs _ hR0 hlen).mono ?_
  rintro e w1 ⟨rfl, S1', hb1⟩
  have S1 := hid S1'
  have R1 := R0.next hb1
  have U1 := gr_trans U0 hb1
  clear S1' hR0 R0 U0 hb1
  simp only [World.size_alloc] at S1 ⊢
  generalize hk : w.heap.size + 1 = k at S1 ⊢
  go_wp2_with fail
  refine (spoil_any _ a len cap zs _ S1.out).mono ?_
  rintro e w2 ⟨p, q, r, s, rfl, S2', G2⟩
  have R2 := R1.gk G2 (by omega)
  have U2 := Gk.out U1 G2 (by omega)
  have hk2 := S2'.lt
  have hR2 := R2.lt
  have X3 := Arr.new w2 p q r s 25
  have S3 := hid (S2'.alloc (.cells #[.int .i64 p, .int .i64 q, .int .i64 r, .int .i64 s] 25))
  have R3 := R2.alloc (.cells #[.int .i64 p, .int .i64 q, .int .i64 r, .int .i64 s] 25)
  have U3 := gr_alloc U2 (.cells #[.int .i64 p, .int .i64 q, .int .i64 r, .int .i64 s] 25)
  clear S1 R1 U1 G2 S2' R2 U2
  obtain ⟨j, hj⟩ : ∃ j, j = w2.heap.size := ⟨_, rfl⟩
  rw [← hj] at X3 hk2 hR2
  go_wp2_with fail
  rw [← hj]
  generalize w2.alloc (.cells #[.int .i64 p, .int .i64 q, .int .i64 r, .int .i64 s] 25) = W3 at X3 S3 R3 U3 ⊢
  clear hj
  have hl3 := X3.lt
  have hk3 := S3.out.lt
  obtain ⟨_, x0, x1, x2, x3, _⟩ := id X3
  obtain ⟨_, r0, r1, r2, r3, f0, f1, f2, f3⟩ := id R3
  go_cut [3] (fun s3 wx => ∃ n : Int, s3 = .int .i64 n ∧ Arr wx w.heap.size p q r s ∧ Below w.heap.size w wx)
  case first =>
    go_region_with ((go_at_call 104; refine (pick_any k a len cap zs W3.heap.size 7 _ ?_ (by omega) (by omega) (by first | (simp; done) | (simp; omega)) (by omega) ?_).mono ?_; (exact S3.out.below (by (repeat' (first | with_reducible exact Below.refl _ _ | with_reducible assumption | with_reducible refine gr_alloc ?_ _ | with_reducible refine gr_drew ?_ | with_reducible refine gr_drewN ?_ _ | with_reducible refine gr_trans ?_ (by assumption) | with_reducible refine gr_set ?_ ?_ _ | (simp; done) | omega | (simp; omega))))); (exact lit_bx (T := 2) (cs := #[.int .i64 2, .int .i64 3, .int .i64 10, .int .i64 30, .int .i64 97, .int .i64 1, .int .i64 98]) (by (repeat (first | with_reducible assumption | with_reducible exact Bx.new _ _ _ | with_reducible refine Bx.drew ?_ | with_reducible refine Bx.drewN ?_ _ | with_reducible refine Bx.alloc ?_ _ | with_reducible refine Bx.next ?_ (by assumption)))) [2, 3, 10, 30, 97, 1, 98] 7 rfl rfl); (rintro e z ⟨x, rfl, Sz, Gz⟩; have Xz := Arr.gk (X3.next (by (repeat' (first | with_reducible exact Below.refl _ _ | with_reducible assumption | with_reducible refine gr_alloc ?_ _ | with_reducible refine gr_drew ?_ | with_reducible refine gr_drewN ?_ _ | with_reducible refine gr_trans ?_ (by assumption) | with_reducible refine gr_set ?_ ?_ _ | (simp; done) | omega | (simp; omega))))) Gz (by omega); have Rz := Arr.gk (R3.next (by (repeat' (first | with_reducible exact Below.refl _ _ | with_reducible assumption | with_reducible refine gr_alloc ?_ _ | with_reducible refine gr_drew ?_ | with_reducible refine gr_drewN ?_ _ | with_reducible refine gr_trans ?_ (by assumption) | with_reducible refine gr_set ?_ ?_ _ | (simp; done) | omega | (simp; omega))))) Gz (by omega); have Uz := Gk.out (gr_trans U3 (by (repeat' (first | with_reducible exact Below.refl _ _ | with_reducible assumption | with_reducible refine gr_alloc ?_ _ | with_reducible refine gr_drew ?_ | with_reducible refine gr_drewN ?_ _ | with_reducible refine gr_trans ?_ (by assumption) | with_reducible refine gr_set ?_ ?_ _ | (simp; done) | omega | (simp; omega))))) Gz (by omega); obtain ⟨_, y0, y1, y2, y3, _⟩ := id Xz; obtain ⟨_, q0, q1, q2, q3, e0, e1, e2, e3⟩ := id Rz)))
    all_goals
      go_wp2
      go_meet
      exact ⟨_, rfl, by (repeat (first | with_reducible assumption | with_reducible exact Arr.box (by assumption) | with_reducible exact Box.new _ _ _ _ _ _ | with_reducible exact Arr.new _ _ _ _ _ _ | with_reducible refine Arr.drew ?_ | with_reducible refine Arr.drewN ?_ _ | with_reducible refine Arr.store4 ?_ | with_reducible refine Arr.alloc ?_ _ | with_reducible refine Box.drew ?_ | with_reducible refine Box.drewN ?_ _ | with_reducible refine Box.alloc ?_ _ | with_reducible refine Arr.next ?_ (by assumption) | with_reducible refine Box.next ?_ (by assumption) | refine Arr.oth ?_ (by first | (simp; done) | omega | (simp; omega)) _ | refine Box.oth ?_ (by first | (simp; done) | omega | (simp; omega)) _ | with_reducible exact Arr3.box (by assumption) | with_reducible exact Box3.new _ _ _ _ _ | with_reducible exact Arr3.new _ _ _ _ _ | with_reducible refine Arr3.drew ?_ | with_reducible refine Arr3.drewN ?_ _ | with_reducible refine Arr3.store3 ?_ | with_reducible refine Arr3.alloc ?_ _ | with_reducible refine Box3.drew ?_ | with_reducible refine Box3.drewN ?_ _ | with_reducible refine Box3.alloc ?_ _ | with_reducible refine Arr3.next ?_ (by assumption) | with_reducible refine Box3.next ?_ (by assumption) | refine Arr3.oth ?_ (by first | (simp; done) | omega | (simp; omega)) _ | refine Box3.oth ?_ (by first | (simp; done) | omega | (simp; omega)) _)), by (repeat' (first | with_reducible exact Below.refl _ _ | with_reducible assumption | with_reducible refine gr_alloc ?_ _ | with_reducible refine gr_drew ?_ | with_reducible refine gr_drewN ?_ _ | with_reducible refine gr_trans ?_ (by assumption) | with_reducible refine gr_set ?_ ?_ _ | (simp; done) | omega | (simp; omega)))⟩
  case rest =>
    obtain ⟨n, rfl, R4, U4⟩ := hcut
    clear X3 S3 R3 U3 x0 x1 x2 x3 r0 r1 r2 r3 f0 f1 f2 f3
    go_wp2_with fail
    refine bodyPost_ret (res_AN (e := 2) rfl Tryd.underlying25 (by kernel_rfl) rfl rfl R4) rfl ?_
    exact ⟨_, _, _, _, _, rfl, U4⟩


end Go.Proofs.YtambbhldhhlfgaaDoor
