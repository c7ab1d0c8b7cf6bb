/- Forms read by the model. -/
import Derived.Test.YtfibeifkmfnehaaDoorPl2
namespace Go.Proofs.YtfibeifkmfnehaaDoor
open Go.RowKit

/-- What the parts spell. -/
def rdL : List (List UInt8) → Option (Int × Int × Int × Int)
  | [p, q, r, s] => if (sgn p).2 && (sgn q).2 && (sgn r).2 && (sgn s).2 then some ((sgn p).1, (sgn q).1, (sgn r).1, (sgn s).1) else none
  | _ => none
theorem rdL_some {p q r s : List UInt8} {a b c d : Int} (h : rdL [p, q, r, s] = some (a, b, c, d)) : sgn p = (a, true) ∧ sgn q = (b, true) ∧ sgn r = (c, true) ∧ sgn s = (d, true) := by
  by_cases h4 : ((sgn p).2 && (sgn q).2 && (sgn r).2 && (sgn s).2) = true
  · have e : rdL [p, q, r, s] = some ((sgn p).1, (sgn q).1, (sgn r).1, (sgn s).1) := by rw [rdL, if_pos h4]
    rw [e] at h
    simp only [Bool.and_eq_true] at h4
    obtain ⟨⟨⟨h1, h2⟩, h3⟩, h4⟩ := h4
    cases h
    exact ⟨Prod.ext rfl h1, Prod.ext rfl h2, Prod.ext rfl h3, Prod.ext rfl h4⟩
  · have e : rdL [p, q, r, s] = none := by rw [rdL, if_neg h4]
    rw [e] at h; cases h
theorem rdL_none {p q r s : List UInt8} (h : (sgn p).2 = false ∨ (sgn q).2 = false ∨ (sgn r).2 = false ∨ (sgn s).2 = false) : rdL [p, q, r, s] = none := by
  rw [rdL, if_neg]
  rcases h with h | h | h | h <;> simp [h]
theorem rdL_mk {p q r s : List UInt8} {a b c d : Int} (h1 : sgn p = (a, true)) (h2 : sgn q = (b, true)) (h3 : sgn r = (c, true)) (h4 : sgn s = (d, true)) : rdL [p, q, r, s] = some (a, b, c, d) := by
  rw [rdL, h1, h2, h3, h4]; rfl
/-- The form whose text it is. -/
def frT (l : List UInt8) : Option (Int × Int × Int × Int) := match rdL (spl l) with
  | some (a, b, c, d) => if isF a b c d then some (a, b, c, d) else none
  | none => none
theorem frT_some {l : List UInt8} {a b c d : Int} (h : frT l = some (a, b, c, d)) : l = txt a b c d ∧ isF a b c d = true := by
  unfold frT at h
  cases hr : rdL (spl l) with
  | none => rw [hr] at h; cases h
  | some t =>
    obtain ⟨a', b', c', d'⟩ := t
    rw [hr] at h
    dsimp only at h
    split at h
    · rename_i hF
      cases h
      refine ⟨?_, hF⟩
      match hs : spl l, hr with
      | [p, q, r, s], hr =>
        obtain ⟨h1, h2, h3, h4⟩ := rdL_some hr
        have e := spl_four hs
        have g : ∀ {x : List UInt8} {n : Int}, sgn x = (n, true) → x = Lib.itoa n := fun {x n} hx => by
          have := sgn_itoa (l := x) (by rw [hx])
          rw [hx] at this; exact this
        rw [g h1, g h2, g h3, g h4] at e
        exact e
    · cases h
theorem frT_txt {a b c d : Int} (h : isF a b c d = true) : frT (txt a b c d) = some (a, b, c, d) := by
  obtain ⟨ha, hb, hc, hd⟩ := isF_t h
  have e : ∀ n, -1000 ≤ n ∧ n ≤ 1000 → sgn (Lib.itoa n) = (n, true) := fun n hn => itoa_sgn (by have := itoa_bd hn; omega)
  unfold frT
  rw [spl_txt]
  simp only [rdL, e a ha, e b hb, e c hc, e d hd, Bool.and_self, if_true, h]
/-- Four texts in a row. -/
structure TC (g : Nat) (p q r s : List UInt8) (W : World) : Prop where
  lt : g < W.heap.size
  c0 : W.cell? ⟨g, 0, none⟩ = some (.string ⟨p.toArray⟩)
  c1 : W.cell? ⟨g, 1, none⟩ = some (.string ⟨q.toArray⟩)
  c2 : W.cell? ⟨g, 2, none⟩ = some (.string ⟨r.toArray⟩)
  c3 : W.cell? ⟨g, 3, none⟩ = some (.string ⟨s.toArray⟩)
theorem TC.next {g : Nat} {p q r s : List UInt8} {W W' : World} (h : TC g p q r s W) (hb : Below W.heap.size W W') : TC g p q r s W' :=
  ⟨Nat.lt_of_lt_of_le h.lt hb.size, (hb.cell (p := ⟨g, 0, none⟩) h.lt).trans h.c0, (hb.cell (p := ⟨g, 1, none⟩) h.lt).trans h.c1, (hb.cell (p := ⟨g, 2, none⟩) h.lt).trans h.c2, (hb.cell (p := ⟨g, 3, none⟩) h.lt).trans h.c3⟩
theorem TC.oth {g : Nat} {p q r s : List UInt8} {W : World} (h : TC g p q r s W) {a : Addr} (ha : g ≠ a.block) (x : Value) : TC g p q r s (W.setCell a x) := by
  have e : ∀ i, (W.setCell a x).cell? ⟨g, i, none⟩ = W.cell? ⟨g, i, none⟩ := fun i => World.cell?_setCell_other _ _ _ _ (fun e => ha (by rw [e]))
  exact ⟨by simpa using h.lt, (e 0).trans h.c0, (e 1).trans h.c1, (e 2).trans h.c2, (e 3).trans h.c3⟩
def f0 (o : Option (Int × Int × Int × Int)) : Int := match o with | some (a, _, _, _) => a | none => 0
def f1 (o : Option (Int × Int × Int × Int)) : Int := match o with | some (_, b, _, _) => b | none => 0
def f2 (o : Option (Int × Int × Int × Int)) : Int := match o with | some (_, _, c, _) => c | none => 0
def f3 (o : Option (Int × Int × Int × Int)) : Int := match o with | some (_, _, _, d) => d | none => 0
theorem res_AB {P : Program} {fn : Func} {p u : Tmp} {ty e : TypeId} {tmps : Array Value} {w : World} {b : Nat} {x0 x1 x2 x3 : Int} {r : Bool} (h : fn.results = #[.cell p ty, .tmp u]) (hu : P.underlying ty = some (.array 4 e)) (hi : (P.info? ty).map (·.size) = some 4)
    (hp : tmps.getD p undef = .pointer (some ⟨b, 0, none⟩)) (h1 : tmps.getD u undef = .bool r) (hA : Arr w b x0 x1 x2 x3) :
    (results fn tmps).run P w = .ok (.tuple #[.agg #[.int .i64 x0, .int .i64 x1, .int .i64 x2, .int .i64 x3], .bool r]) w := by
  have hq : tmps[p]?.getD undef = .pointer (some ⟨b, 0, none⟩) := by simpa using hp
  have hr : tmps[u]?.getD undef = .bool r := by simpa using h1
  simp [results, h, hq, hr, asAddr, loadVar4 w b ty e _ _ _ _ hu hi hA.c0 hA.c1 hA.c2 hA.c3]
/-- What l01Read hands back. -/
def RdOut (l : List UInt8) (w : World) (e : Ending) (w' : World) : Prop := ∃ (a b c d : Int) (ok : Bool), e = .returned (.tuple #[.agg #[.int .i64 a, .int .i64 b, .int .i64 c, .int .i64 d], .bool ok]) ∧ (ok = true → frT l = some (a, b, c, d)) ∧ (ok = false → frT l = none) ∧ Below w.heap.size w w'

set_option maxRecDepth 100000 in
set_option maxHeartbeats 4000000 in
theorem sRead_any (l : List UInt8) (w : World) (hl : l.length ≤ 1048576) : Calls Tryd.prog 18 #[.string ⟨l.toArray⟩] w (RdOut l w) := by
  have hs := fun W => sSplit_any l W hl
  have R0 := Arr.new w 0 0 0 0 25
  have U0 := gr_alloc (Below.refl w.heap.size w) (.cells #[.int .i64 0, .int .i64 0, .int .i64 0, .int .i64 0] 25)
  have HS := hid hs
  clear hs
  unfold RdOut
  go_enter Tryd.func18, Tryd.ntmps18
  go_wp2_with fail
  refine (HS.out _).mono ?_
  rintro e w1 ⟨v, rfl, hT, hb1⟩
  have R1 := R0.next hb1
  have U1 := gr_trans U0 hb1
  have HT := hid hT
  obtain ⟨av, cv, rfl⟩ := hT.val
  clear R0 U0 hT HS
  obtain ⟨L, hL⟩ : ∃ L, L = spl l := ⟨_, rfl⟩
  rw [← hL] at HT ⊢
  have HL := hid hL
  clear hL
  by_cases h4 : L.length = 4
  · have e4 : ((L.length : Int) != 4) = false := by simp; omega
    obtain ⟨p, q, r, s, rfl⟩ : ∃ p q r s, L = [p, q, r, s] := by
      match L, h4 with
      | [p, q, r, s], _ => exact ⟨p, q, r, s, rfl⟩
    obtain ⟨g, cap, hv, hg0, hg1, hcap, hcm, hcell⟩ := HT.out.cell (by simp)
    cases hv
    have hlen : p.length ≤ 1048576 ∧ q.length ≤ 1048576 ∧ r.length ≤ 1048576 ∧ s.length ≤ 1048576 := by
      have := congrArg List.length (spl_four HL.out.symm)
      simp at this
      omega
    have T1 : TC g p q r s w1 := ⟨hg1, hcell 0 (by simp), hcell 1 (by simp), hcell 2 (by simp), hcell 3 (by simp)⟩
    have hcap4 := hcap
    simp only [List.length_cons, List.length_nil] at hcap4
    unfold maxLen at hcm
    have hz := R1.lt
    have T2 := T1.next (gr_alloc (Below.refl _ w1) (.cells #[.int .i64 0, .int .i64 0, .int .i64 0, .int .i64 0] 25))
    have R2 := R1.alloc (.cells #[.int .i64 0, .int .i64 0, .int .i64 0, .int .i64 0] 25)
    have U2 := gr_alloc U1 (.cells #[.int .i64 0, .int .i64 0, .int .i64 0, .int .i64 0] 25)
    have O2 := Arr.new w1 0 0 0 0 25
    have k1 := fun W => sSigned_any p W (by omega)
    have k2 := fun W => sSigned_any q W (by omega)
    have k3 := fun W => sSigned_any r W (by omega)
    have k4 := fun W => sSigned_any s W (by omega)
    have HK : Hid (∀ a b c d : Int, sgn p = (a, true) → sgn q = (b, true) → sgn r = (c, true) → sgn s = (d, true) → frT l = if isF a b c d then some (a, b, c, d) else none) := hid (fun a b c d h1 h2 h3 h4 => by unfold frT; rw [← HL.out, rdL_mk h1 h2 h3 h4])
    have HN : Hid ((sgn p).2 = false ∨ (sgn q).2 = false ∨ (sgn r).2 = false ∨ (sgn s).2 = false → frT l = none) := hid (fun h => by unfold frT; rw [← HL.out, rdL_none h])
    have hne : g ≠ w.heap.size := fun e => by
      have := R1.box
      subst e
      have h1 := T1.c0
      rw [R1.c0] at h1; cases h1
    have hne2 : g ≠ w1.heap.size := by omega
    have hle : w.heap.size ≤ w1.heap.size := by have := hb1.size; simp at this; omega
    have hne3 : w.heap.size ≠ w1.heap.size := by have := hb1.size; simp at this; omega
    clear HT HL T1 R1 U1 hcell hlen hcap h4 hg0 hb1
    go_upto_region 4 with fail
    generalize hbo : w1.heap.size = bo at *
    generalize w1.alloc (.cells #[.int .i64 0, .int .i64 0, .int .i64 0, .int .i64 0] 25) = W2 at T2 R2 U2 O2 ⊢
    clear hbo hg1
    go_wp2_with fail
    refine wp_loop_rounds 5 ?_
    rw [rounds_succ]
    obtain ⟨_, t0, t1, t2, t3⟩ := id T2
    go_wp2_with fail
    clear t0 t1 t2 t3
    refine (k1 _).mono ?_
    rintro e w3 ⟨rfl, hb3⟩
    have T3 := T2.next hb3; have R3 := R2.next hb3; have U3 := gr_trans U2 hb3; have O3 := O2.next hb3
    clear T2 R2 U2 O2 hb3 k1
    obtain ⟨a, ok0, hs0⟩ : ∃ n b, sgn p = (n, b) := ⟨_, _, rfl⟩
    have HS0 := hid hs0
    rw [hs0]
    clear hs0
    cases ok0 with
    | false =>
      obtain ⟨_, r0, r1, r2, r3, g0, g1, g2, g3⟩ := id R3
      go_wp2_with fail
      refine bodyPost_ret (res_AB (e := 2) rfl Tryd.underlying25 (by kernel_rfl) rfl rfl (by (repeat (first | with_reducible assumption | with_reducible exact Arr.box (by assumption) | with_reducible exact Box.new _ _ _ _ _ _ | with_reducible exact Arr.new _ _ _ _ _ _ | with_reducible refine Arr.drew ?_ | with_reducible refine Arr.drewN ?_ _ | with_reducible refine Arr.store4 ?_ | with_reducible refine Arr.alloc ?_ _ | with_reducible refine Box.drew ?_ | with_reducible refine Box.drewN ?_ _ | with_reducible refine Box.alloc ?_ _ | with_reducible refine Arr.next ?_ (by assumption) | with_reducible refine Box.next ?_ (by assumption) | refine Arr.oth ?_ (by first | (simp; done) | omega | (simp; omega)) _ | refine Box.oth ?_ (by first | (simp; done) | omega | (simp; omega)) _ | with_reducible exact Arr3.box (by assumption) | with_reducible exact Box3.new _ _ _ _ _ | with_reducible exact Arr3.new _ _ _ _ _ | with_reducible refine Arr3.drew ?_ | with_reducible refine Arr3.drewN ?_ _ | with_reducible refine Arr3.store3 ?_ | with_reducible refine Arr3.alloc ?_ _ | with_reducible refine Box3.drew ?_ | with_reducible refine Box3.drewN ?_ _ | with_reducible refine Box3.alloc ?_ _ | with_reducible refine Arr3.next ?_ (by assumption) | with_reducible refine Box3.next ?_ (by assumption) | refine Arr3.oth ?_ (by first | (simp; done) | omega | (simp; omega)) _ | refine Box3.oth ?_ (by first | (simp; done) | omega | (simp; omega)) _)))) rfl ?_
      exact ⟨0, 0, 0, 0, false, rfl, (fun h => Bool.noConfusion h), fun _ => HN.out (by simp [HS0.out]), by (repeat' (first | with_reducible exact Below.refl _ _ | with_reducible assumption | with_reducible refine gr_alloc ?_ _ | with_reducible refine gr_drew ?_ | with_reducible refine gr_drewN ?_ _ | with_reducible refine gr_trans ?_ (by assumption) | with_reducible refine gr_set ?_ ?_ _ | (simp; done) | omega | (simp; omega)))⟩
    | true =>
      obtain ⟨_, o0, o1, o2, o3, g0, g1, g2, g3⟩ := id O3
      go_wp2_with fail
      have O4 : Arr (w3.setCell ⟨bo, 0, none⟩ (.int .i64 a)) bo a 0 0 0 := O3.set0 _
      have T4 := T3.oth (a := ⟨bo, 0, none⟩) hne2 (.int .i64 a); have R4 := R3.oth (p := ⟨bo, 0, none⟩) hne3 (.int .i64 a)
      have U4 : Below w.heap.size w (w3.setCell ⟨bo, 0, none⟩ (.int .i64 a)) := gr_set U3 (by omega) _
      clear o0 o1 o2 o3 g0 g1 g2 g3 O3 T3 R3 U3
      generalize w3.setCell ⟨bo, 0, none⟩ (.int .i64 a) = w4 at O4 T4 R4 U4 ⊢
      rw [rounds_succ]
      obtain ⟨_, t0, t1, t2, t3⟩ := id T4
      go_wp2_with fail
      clear t0 t1 t2 t3
      refine (k2 _).mono ?_
      rintro e w5 ⟨rfl, hb5⟩
      have T5 := T4.next hb5; have R5 := R4.next hb5; have U5 := gr_trans U4 hb5; have O5 := O4.next hb5
      clear T4 R4 U4 O4 hb5 k2
      obtain ⟨b, ok1, hs1⟩ : ∃ n b, sgn q = (n, b) := ⟨_, _, rfl⟩
      have HS1 := hid hs1
      rw [hs1]
      clear hs1
      cases ok1 with
      | false =>
        obtain ⟨_, r0, r1, r2, r3, g0, g1, g2, g3⟩ := id R5
        go_wp2_with fail
        refine bodyPost_ret (res_AB (e := 2) rfl Tryd.underlying25 (by kernel_rfl) rfl rfl (by (repeat (first | with_reducible assumption | with_reducible exact Arr.box (by assumption) | with_reducible exact Box.new _ _ _ _ _ _ | with_reducible exact Arr.new _ _ _ _ _ _ | with_reducible refine Arr.drew ?_ | with_reducible refine Arr.drewN ?_ _ | with_reducible refine Arr.store4 ?_ | with_reducible refine Arr.alloc ?_ _ | with_reducible refine Box.drew ?_ | with_reducible refine Box.drewN ?_ _ | with_reducible refine Box.alloc ?_ _ | with_reducible refine Arr.next ?_ (by assumption) | with_reducible refine Box.next ?_ (by assumption) | refine Arr.oth ?_ (by first | (simp; done) | omega | (simp; omega)) _ | refine Box.oth ?_ (by first | (simp; done) | omega | (simp; omega)) _ | with_reducible exact Arr3.box (by assumption) | with_reducible exact Box3.new _ _ _ _ _ | with_reducible exact Arr3.new _ _ _ _ _ | with_reducible refine Arr3.drew ?_ | with_reducible refine Arr3.drewN ?_ _ | with_reducible refine Arr3.store3 ?_ | with_reducible refine Arr3.alloc ?_ _ | with_reducible refine Box3.drew ?_ | with_reducible refine Box3.drewN ?_ _ | with_reducible refine Box3.alloc ?_ _ | with_reducible refine Arr3.next ?_ (by assumption) | with_reducible refine Box3.next ?_ (by assumption) | refine Arr3.oth ?_ (by first | (simp; done) | omega | (simp; omega)) _ | refine Box3.oth ?_ (by first | (simp; done) | omega | (simp; omega)) _)))) rfl ?_
        exact ⟨0, 0, 0, 0, false, rfl, (fun h => Bool.noConfusion h), fun _ => HN.out (by simp [HS1.out]), by (repeat' (first | with_reducible exact Below.refl _ _ | with_reducible assumption | with_reducible refine gr_alloc ?_ _ | with_reducible refine gr_drew ?_ | with_reducible refine gr_drewN ?_ _ | with_reducible refine gr_trans ?_ (by assumption) | with_reducible refine gr_set ?_ ?_ _ | (simp; done) | omega | (simp; omega)))⟩
      | true =>
        obtain ⟨_, o0, o1, o2, o3, g0, g1, g2, g3⟩ := id O5
        go_wp2_with fail
        have O6 : Arr (w5.setCell ⟨bo, 1, none⟩ (.int .i64 b)) bo a b 0 0 := O5.set1 _
        have T6 := T5.oth (a := ⟨bo, 1, none⟩) hne2 (.int .i64 b); have R6 := R5.oth (p := ⟨bo, 1, none⟩) hne3 (.int .i64 b)
        have U6 : Below w.heap.size w (w5.setCell ⟨bo, 1, none⟩ (.int .i64 b)) := gr_set U5 (by omega) _
        clear o0 o1 o2 o3 g0 g1 g2 g3 O5 T5 R5 U5
        generalize w5.setCell ⟨bo, 1, none⟩ (.int .i64 b) = w6 at O6 T6 R6 U6 ⊢
        rw [rounds_succ]
        obtain ⟨_, t0, t1, t2, t3⟩ := id T6
        go_wp2_with fail
        clear t0 t1 t2 t3
        refine (k3 _).mono ?_
        rintro e w7 ⟨rfl, hb7⟩
        have T7 := T6.next hb7; have R7 := R6.next hb7; have U7 := gr_trans U6 hb7; have O7 := O6.next hb7
        clear T6 R6 U6 O6 hb7 k3
        obtain ⟨c, ok2, hs2⟩ : ∃ n b, sgn r = (n, b) := ⟨_, _, rfl⟩
        have HS2 := hid hs2
        rw [hs2]
        clear hs2
        cases ok2 with
        | false =>
          obtain ⟨_, r0, r1, r2, r3, g0, g1, g2, g3⟩ := id R7
          go_wp2_with fail
          refine bodyPost_ret (res_AB (e := 2) rfl Tryd.underlying25 (by kernel_rfl) rfl rfl (by (repeat (first | with_reducible assumption | with_reducible exact Arr.box (by assumption) | with_reducible exact Box.new _ _ _ _ _ _ | with_reducible exact Arr.new _ _ _ _ _ _ | with_reducible refine Arr.drew ?_ | with_reducible refine Arr.drewN ?_ _ | with_reducible refine Arr.store4 ?_ | with_reducible refine Arr.alloc ?_ _ | with_reducible refine Box.drew ?_ | with_reducible refine Box.drewN ?_ _ | with_reducible refine Box.alloc ?_ _ | with_reducible refine Arr.next ?_ (by assumption) | with_reducible refine Box.next ?_ (by assumption) | refine Arr.oth ?_ (by first | (simp; done) | omega | (simp; omega)) _ | refine Box.oth ?_ (by first | (simp; done) | omega | (simp; omega)) _ | with_reducible exact Arr3.box (by assumption) | with_reducible exact Box3.new _ _ _ _ _ | with_reducible exact Arr3.new _ _ _ _ _ | with_reducible refine Arr3.drew ?_ | with_reducible refine Arr3.drewN ?_ _ | with_reducible refine Arr3.store3 ?_ | with_reducible refine Arr3.alloc ?_ _ | with_reducible refine Box3.drew ?_ | with_reducible refine Box3.drewN ?_ _ | with_reducible refine Box3.alloc ?_ _ | with_reducible refine Arr3.next ?_ (by assumption) | with_reducible refine Box3.next ?_ (by assumption) | refine Arr3.oth ?_ (by first | (simp; done) | omega | (simp; omega)) _ | refine Box3.oth ?_ (by first | (simp; done) | omega | (simp; omega)) _)))) rfl ?_
          exact ⟨0, 0, 0, 0, false, rfl, (fun h => Bool.noConfusion h), fun _ => HN.out (by simp [HS2.out]), by (repeat' (first | with_reducible exact Below.refl _ _ | with_reducible assumption | with_reducible refine gr_alloc ?_ _ | with_reducible refine gr_drew ?_ | with_reducible refine gr_drewN ?_ _ | with_reducible refine gr_trans ?_ (by assumption) | with_reducible refine gr_set ?_ ?_ _ | (simp; done) | omega | (simp; omega)))⟩
        | true =>
          obtain ⟨_, o0, o1, o2, o3, g0, g1, g2, g3⟩ := id O7
          go_wp2_with fail
          have O8 : Arr (w7.setCell ⟨bo, 2, none⟩ (.int .i64 c)) bo a b c 0 := O7.set2 _
          have T8 := T7.oth (a := ⟨bo, 2, none⟩) hne2 (.int .i64 c); have R8 := R7.oth (p := ⟨bo, 2, none⟩) hne3 (.int .i64 c)
          have U8 : Below w.heap.size w (w7.setCell ⟨bo, 2, none⟩ (.int .i64 c)) := gr_set U7 (by omega) _
          clear o0 o1 o2 o3 g0 g1 g2 g3 O7 T7 R7 U7
          generalize w7.setCell ⟨bo, 2, none⟩ (.int .i64 c) = w8 at O8 T8 R8 U8 ⊢
          rw [rounds_succ]
          obtain ⟨_, t0, t1, t2, t3⟩ := id T8
          go_wp2_with fail
          clear t0 t1 t2 t3
          refine (k4 _).mono ?_
          rintro e w9 ⟨rfl, hb9⟩
          have T9 := T8.next hb9; have R9 := R8.next hb9; have U9 := gr_trans U8 hb9; have O9 := O8.next hb9
          clear T8 R8 U8 O8 hb9 k4
          obtain ⟨d, ok3, hs3⟩ : ∃ n b, sgn s = (n, b) := ⟨_, _, rfl⟩
          have HS3 := hid hs3
          rw [hs3]
          clear hs3
          cases ok3 with
          | false =>
            obtain ⟨_, r0, r1, r2, r3, g0, g1, g2, g3⟩ := id R9
            go_wp2_with fail
            refine bodyPost_ret (res_AB (e := 2) rfl Tryd.underlying25 (by kernel_rfl) rfl rfl (by (repeat (first | with_reducible assumption | with_reducible exact Arr.box (by assumption) | with_reducible exact Box.new _ _ _ _ _ _ | with_reducible exact Arr.new _ _ _ _ _ _ | with_reducible refine Arr.drew ?_ | with_reducible refine Arr.drewN ?_ _ | with_reducible refine Arr.store4 ?_ | with_reducible refine Arr.alloc ?_ _ | with_reducible refine Box.drew ?_ | with_reducible refine Box.drewN ?_ _ | with_reducible refine Box.alloc ?_ _ | with_reducible refine Arr.next ?_ (by assumption) | with_reducible refine Box.next ?_ (by assumption) | refine Arr.oth ?_ (by first | (simp; done) | omega | (simp; omega)) _ | refine Box.oth ?_ (by first | (simp; done) | omega | (simp; omega)) _ | with_reducible exact Arr3.box (by assumption) | with_reducible exact Box3.new _ _ _ _ _ | with_reducible exact Arr3.new _ _ _ _ _ | with_reducible refine Arr3.drew ?_ | with_reducible refine Arr3.drewN ?_ _ | with_reducible refine Arr3.store3 ?_ | with_reducible refine Arr3.alloc ?_ _ | with_reducible refine Box3.drew ?_ | with_reducible refine Box3.drewN ?_ _ | with_reducible refine Box3.alloc ?_ _ | with_reducible refine Arr3.next ?_ (by assumption) | with_reducible refine Box3.next ?_ (by assumption) | refine Arr3.oth ?_ (by first | (simp; done) | omega | (simp; omega)) _ | refine Box3.oth ?_ (by first | (simp; done) | omega | (simp; omega)) _)))) rfl ?_
            exact ⟨0, 0, 0, 0, false, rfl, (fun h => Bool.noConfusion h), fun _ => HN.out (by simp [HS3.out]), by (repeat' (first | with_reducible exact Below.refl _ _ | with_reducible assumption | with_reducible refine gr_alloc ?_ _ | with_reducible refine gr_drew ?_ | with_reducible refine gr_drewN ?_ _ | with_reducible refine gr_trans ?_ (by assumption) | with_reducible refine gr_set ?_ ?_ _ | (simp; done) | omega | (simp; omega)))⟩
          | true =>
            obtain ⟨_, o0, o1, o2, o3, g0, g1, g2, g3⟩ := id O9
            go_wp2_with fail
            have O10 : Arr (w9.setCell ⟨bo, 3, none⟩ (.int .i64 d)) bo a b c d := O9.set3 _
            have T10 := T9.oth (a := ⟨bo, 3, none⟩) hne2 (.int .i64 d); have R10 := R9.oth (p := ⟨bo, 3, none⟩) hne3 (.int .i64 d)
            have U10 : Below w.heap.size w (w9.setCell ⟨bo, 3, none⟩ (.int .i64 d)) := gr_set U9 (by omega) _
            clear o0 o1 o2 o3 g0 g1 g2 g3 O9 T9 R9 U9
            generalize w9.setCell ⟨bo, 3, none⟩ (.int .i64 d) = w10 at O10 T10 R10 U10 ⊢
            rw [rounds_succ]
            go_wp2_with fail
            have HF := hid (fun W => l01Is_any a b c d W)
            have hz10 := R10.lt
            have hz11 := O10.lt
            go_region_held3 (fun W => W.cell? ⟨bo, 0, none⟩ = some (.int .i64 a) ∧ W.cell? ⟨bo, 1, none⟩ = some (.int .i64 b) ∧ W.cell? ⟨bo, 2, none⟩ = some (.int .i64 c) ∧ W.cell? ⟨bo, 3, none⟩ = some (.int .i64 d)) (refine cells4 ?_ <;> (repeat (first | with_reducible assumption | with_reducible exact Arr.box (by assumption) | with_reducible exact Box.new _ _ _ _ _ _ | with_reducible exact Arr.new _ _ _ _ _ _ | with_reducible refine Arr.drew ?_ | with_reducible refine Arr.drewN ?_ _ | with_reducible refine Arr.store4 ?_ | with_reducible refine Arr.alloc ?_ _ | with_reducible refine Box.drew ?_ | with_reducible refine Box.drewN ?_ _ | with_reducible refine Box.alloc ?_ _ | with_reducible refine Arr.next ?_ (by assumption) | with_reducible refine Box.next ?_ (by assumption) | refine Arr.oth ?_ (by first | (simp; done) | omega | (simp; omega)) _ | refine Box.oth ?_ (by first | (simp; done) | omega | (simp; omega)) _ | with_reducible exact Arr3.box (by assumption) | with_reducible exact Box3.new _ _ _ _ _ | with_reducible exact Arr3.new _ _ _ _ _ | with_reducible refine Arr3.drew ?_ | with_reducible refine Arr3.drewN ?_ _ | with_reducible refine Arr3.store3 ?_ | with_reducible refine Arr3.alloc ?_ _ | with_reducible refine Box3.drew ?_ | with_reducible refine Box3.drewN ?_ _ | with_reducible refine Box3.alloc ?_ _ | with_reducible refine Arr3.next ?_ (by assumption) | with_reducible refine Box3.next ?_ (by assumption) | refine Arr3.oth ?_ (by first | (simp; done) | omega | (simp; omega)) _ | refine Box3.oth ?_ (by first | (simp; done) | omega | (simp; omega)) _))) ((go_at_call 11; refine (HF.out _).mono ?_; rintro e w11 ⟨rfl, hb11⟩; have hbx : Below w10.heap.size w10 w11 := (by (repeat' (first | with_reducible exact Below.refl _ _ | with_reducible assumption | with_reducible refine gr_alloc ?_ _ | with_reducible refine gr_drew ?_ | with_reducible refine gr_drewN ?_ _ | with_reducible refine gr_trans ?_ (by assumption) | with_reducible refine gr_set ?_ ?_ _ | (simp; done) | omega | (simp; omega)))); have R11 := R10.next hbx; have O11 := O10.next hbx; have U11 := gr_trans U10 hbx; have hz12 := hbx.size; obtain ⟨_, r0, r1, r2, r3, y0, y1, y2, y3⟩ := id R11; obtain ⟨_, o0, o1, o2, o3, g0, g1, g2, g3⟩ := id O11))
            go_wp2_with fail
            refine bodyPost_ret (res_AB (x0 := a) (x1 := b) (x2 := c) (x3 := d) (r := isF a b c d) (e := 2) rfl Tryd.underlying25 (by kernel_rfl) rfl rfl (by (repeat (first | with_reducible assumption | with_reducible exact Arr.box (by assumption) | with_reducible exact Box.new _ _ _ _ _ _ | with_reducible exact Arr.new _ _ _ _ _ _ | with_reducible refine Arr.drew ?_ | with_reducible refine Arr.drewN ?_ _ | with_reducible refine Arr.store4 ?_ | with_reducible refine Arr.alloc ?_ _ | with_reducible refine Box.drew ?_ | with_reducible refine Box.drewN ?_ _ | with_reducible refine Box.alloc ?_ _ | with_reducible refine Arr.next ?_ (by assumption) | with_reducible refine Box.next ?_ (by assumption) | refine Arr.oth ?_ (by first | (simp; done) | omega | (simp; omega)) _ | refine Box.oth ?_ (by first | (simp; done) | omega | (simp; omega)) _ | with_reducible exact Arr3.box (by assumption) | with_reducible exact Box3.new _ _ _ _ _ | with_reducible exact Arr3.new _ _ _ _ _ | with_reducible refine Arr3.drew ?_ | with_reducible refine Arr3.drewN ?_ _ | with_reducible refine Arr3.store3 ?_ | with_reducible refine Arr3.alloc ?_ _ | with_reducible refine Box3.drew ?_ | with_reducible refine Box3.drewN ?_ _ | with_reducible refine Box3.alloc ?_ _ | with_reducible refine Arr3.next ?_ (by assumption) | with_reducible refine Box3.next ?_ (by assumption) | refine Arr3.oth ?_ (by first | (simp; done) | omega | (simp; omega)) _ | refine Box3.oth ?_ (by first | (simp; done) | omega | (simp; omega)) _)))) rfl ?_
            refine ⟨a, b, c, d, isF a b c d, rfl, fun h => ?_, fun h => ?_, by (repeat' (first | with_reducible exact Below.refl _ _ | with_reducible assumption | with_reducible refine gr_alloc ?_ _ | with_reducible refine gr_drew ?_ | with_reducible refine gr_drewN ?_ _ | with_reducible refine gr_trans ?_ (by assumption) | with_reducible refine gr_set ?_ ?_ _ | (simp; done) | omega | (simp; omega)))⟩
            · rw [HK.out _ _ _ _ HS0.out HS1.out HS2.out HS3.out, h]; rfl
            · rw [HK.out _ _ _ _ HS0.out HS1.out HS2.out HS3.out, h]; rfl
  · have e4 : ((L.length : Int) != 4) = true := by simp; omega
    have HN : Hid (frT l = none) := hid (by
      unfold frT
      rw [← HL.out]
      have : rdL L = none := by
        match L, h4 with
        | [], _ => rfl
        | [_], _ => rfl
        | [_, _], _ => rfl
        | [_, _, _], _ => rfl
        | [_, _, _, _], h => exact absurd rfl h
        | _ :: _ :: _ :: _ :: _ :: _, _ => rfl
      rw [this])
    have R2 := R1.alloc (.cells #[.int .i64 0, .int .i64 0, .int .i64 0, .int .i64 0] 25)
    have U2 := gr_alloc U1 (.cells #[.int .i64 0, .int .i64 0, .int .i64 0, .int .i64 0] 25)
    have hz := R1.lt
    clear h4
    go_upto_region 2 with fail
    generalize w1.alloc (.cells #[.int .i64 0, .int .i64 0, .int .i64 0, .int .i64 0] 25) = W2 at R2 U2 ⊢
    obtain ⟨_, r0, r1, r2, r3, g0, g1, g2, g3⟩ := id R2
    go_wp2_with fail
    refine bodyPost_ret (res_AB (e := 2) rfl Tryd.underlying25 (by kernel_rfl) rfl rfl (by (repeat (first | with_reducible assumption | with_reducible exact Arr.box (by assumption) | with_reducible exact Box.new _ _ _ _ _ _ | with_reducible exact Arr.new _ _ _ _ _ _ | with_reducible refine Arr.drew ?_ | with_reducible refine Arr.drewN ?_ _ | with_reducible refine Arr.store4 ?_ | with_reducible refine Arr.alloc ?_ _ | with_reducible refine Box.drew ?_ | with_reducible refine Box.drewN ?_ _ | with_reducible refine Box.alloc ?_ _ | with_reducible refine Arr.next ?_ (by assumption) | with_reducible refine Box.next ?_ (by assumption) | refine Arr.oth ?_ (by first | (simp; done) | omega | (simp; omega)) _ | refine Box.oth ?_ (by first | (simp; done) | omega | (simp; omega)) _ | with_reducible exact Arr3.box (by assumption) | with_reducible exact Box3.new _ _ _ _ _ | with_reducible exact Arr3.new _ _ _ _ _ | with_reducible refine Arr3.drew ?_ | with_reducible refine Arr3.drewN ?_ _ | with_reducible refine Arr3.store3 ?_ | with_reducible refine Arr3.alloc ?_ _ | with_reducible refine Box3.drew ?_ | with_reducible refine Box3.drewN ?_ _ | with_reducible refine Box3.alloc ?_ _ | with_reducible refine Arr3.next ?_ (by assumption) | with_reducible refine Box3.next ?_ (by assumption) | refine Arr3.oth ?_ (by first | (simp; done) | omega | (simp; omega)) _ | refine Box3.oth ?_ (by first | (simp; done) | omega | (simp; omega)) _)))) rfl ?_
    exact ⟨0, 0, 0, 0, false, rfl, (fun h => Bool.noConfusion h), fun _ => HN.out, by (repeat' (first | with_reducible exact Below.refl _ _ | with_reducible assumption | with_reducible refine gr_alloc ?_ _ | with_reducible refine gr_drew ?_ | with_reducible refine gr_drewN ?_ _ | with_reducible refine gr_trans ?_ (by assumption) | with_reducible refine gr_set ?_ ?_ _ | (simp; done) | omega | (simp; omega)))⟩

end Go.Proofs.YtfibeifkmfnehaaDoor
