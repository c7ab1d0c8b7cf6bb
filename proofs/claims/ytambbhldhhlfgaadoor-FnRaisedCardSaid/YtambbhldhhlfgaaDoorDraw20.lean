/- Draws of chapter 6: forms that often can be raised, and primes. -/
import Derived.Test.YtambbhldhhlfgaaDoorZ10
import Derived.Test.YtambbhldhhlfgaaDoorDraw6
import Derived.Test.YtambbhldhhlfgaaDoorOn
import Derived.Test.YtambbhldhhlfgaaDoorC1n
import Derived.Deep.DeepCutAuto
namespace Go.Proofs.YtambbhldhhlfgaaDoor
open Go.ChangeShapes Go.WideShapes Go.ChangeAt Go.RowKit

theorem lit_ex (w : World) (T : TypeId) (xs : List Int) (cs : Array Value) (n : Nat) (hc : cs = (xs.map (Value.int .i64)).toArray) (hn : n = xs.length) : ∀ i, i < n → ∃ x : Int, (w.alloc (.cells cs T)).cell? ⟨w.heap.size, i, none⟩ = some (.int .i64 x) := fun i hi => by
  subst hn; subst hc
  refine ⟨xs.getD i 0, ?_⟩
  simp [go_sem, List.getD, hi]

/-- A form and a number. -/
def WithOut (w : World) (e : Ending) (w' : World) : Prop := ∃ p q r s n : Int, e = .returned (.tuple #[.agg #[.int .i64 p, .int .i64 q, .int .i64 r, .int .i64 s], .int .i64 n]) ∧ Below w.heap.size w w'
def TwoNum (w : World) (e : Ending) (w' : World) : Prop := ∃ m n : Int, e = .returned (.tuple #[.int .i64 m, .int .i64 n]) ∧ Below w.heap.size w w'
theorem res_AN {P : Program} {fn : Func} {p : Tmp} {s : Tmp} {ty e : TypeId} {tmps : Array Value} {w : World} {b : Nat} {x0 x1 x2 x3 n : Int} (h : fn.results = #[.cell p ty, .tmp s]) (hu : P.underlying ty = some (.array 4 e)) (hi : (P.info? ty).map (·.size) = some 4)
    (hp : tmps.getD p undef = .pointer (some ⟨b, 0, none⟩)) (hs : tmps.getD s undef = .int .i64 n) (hA : Arr w b x0 x1 x2 x3) :
    (results fn tmps).run P w = .ok (.tuple #[.agg #[.int .i64 x0, .int .i64 x1, .int .i64 x2, .int .i64 x3], .int .i64 n]) w := by
  have hq : tmps[p]?.getD undef = .pointer (some ⟨b, 0, none⟩) := by simpa using hp
  have hs' : tmps[s]?.getD undef = .int .i64 n := by simpa using hs
  simp [results, h, hq, hs', asAddr, loadVar4 w b ty e _ _ _ _ hu hi hA.c0 hA.c1 hA.c2 hA.c3]


/-- A form and a number out of a source. -/
def FNPost (k : Nat) (a : Option Addr) (len cap : Nat) (zs : List Int) (w : World) (e : Ending) (w' : World) : Prop :=
  ∃ p q r s n : Int, e = .returned (.tuple #[.agg #[.int .i64 p, .int .i64 q, .int .i64 r, .int .i64 s], .int .i64 n]) ∧ Src w' k a len cap zs ∧ Gk k w w'

set_option maxHeartbeats 1000000 in
theorem l06Prime_any (k : Nat) (a : Option Addr) (len cap : Nat) (zs : List Int) (w : World) (hS : Src w k a len cap zs) :
    Calls Tryd.prog 183 #[.pointer (some ⟨k, 0, none⟩)] w (NumPost k a len cap zs w) := by
  have hl := hS.lt
  go_enter Tryd.func183, Tryd.ntmps183
  go_wp2_with fail
  refine (next_any k a len cap zs _ _ hS).mono ?_
  rintro e w1 ⟨y, rfl, _, _, S1', G1⟩
  have hl1 := S1'.lt
  have HL := hid (lit_ex w1 2 [2, 2, 2, 3, 3, 5, 7, 11, 13, y] #[.int .i64 2, .int .i64 2, .int .i64 2, .int .i64 3, .int .i64 3, .int .i64 5, .int .i64 7, .int .i64 11, .int .i64 13, .int .i64 y] 10 rfl rfl)
  have S2 := hid (S1'.alloc (.cells #[.int .i64 2, .int .i64 2, .int .i64 2, .int .i64 3, .int .i64 3, .int .i64 5, .int .i64 7, .int .i64 11, .int .i64 13, .int .i64 y] 2))
  have G2 := G1.alloc (.cells #[.int .i64 2, .int .i64 2, .int .i64 2, .int .i64 3, .int .i64 3, .int .i64 5, .int .i64 7, .int .i64 11, .int .i64 13, .int .i64 y] 2)
  clear S1' G1 hS
  go_wp2_with fail
  refine (pick_any k a len cap zs _ 10 _ S2.out (by omega) (by omega) (by simp) (by omega) HL.out).mono ?_
  rintro e w3 ⟨x3, rfl, S3', G3⟩
  have S3 := hid S3'
  have G3' := G2.trans G3
  clear S3' G3 G2 S2 HL
  go_wp2
  go_ret
  exact ⟨_, rfl, S3.out, G3'⟩

theorem fbl_len98 {a b c d p : Int} (h : fbc a b c d p = 0) : (fbl a b c d p).length ≤ 98 := by
  have hf : fpc a b c d p = 0 := by
    unfold fbc at h
    split at h
    · assumption
    · exact h
  obtain ⟨_, hp⟩ := fpc_0.1 hf
  obtain ⟨h2, h97⟩ := prm_rng hp
  have := stl_len (lOk a b c d p) (loG a b c d p) (p.toNat + 1)
  unfold fbl; rw [List.length_map]; omega
theorem at4_exX {w : World} {B : Nat} {v : Value} {n : Nat} {g : Nat → Int} (h : OwnX B w v n g) (hn : 0 < n) : ∃ b cap, v = .slice (some ⟨b, 0, none⟩) n cap ∧ n ≤ cap ∧ cap ≤ maxLen ∧ B ≤ b ∧ b < w.heap.size ∧ ∀ i, i < n → At4 w b (i * 4) (g (i * 4)) (g (i * 4 + 1)) (g (i * 4 + 2)) (g (i * 4 + 3)) := by
  rcases h with ⟨_, h0⟩ | ⟨b, cap, h1, hB, h2, h3, h4⟩
  · omega
  · exact ⟨b, cap, h1, h2, h3, hB, h4.1, fun i hi => RdX.at4 h4.1 (fun j hj => (h4.2 j hj).1) hi⟩
theorem Arr.elimz {G : Prop} {w : World} {k : Nat} (h : Arr w k 0 0 0 0) (K : Arr w k 0 0 0 0 → G) : G := K h
theorem At4.gk {w w' : World} {b o k : Nat} {x y z u : Int} (h : At4 w b o x y z u) (hg : Gk k w w') (hk : b ≠ k) : At4 w' b o x y z u :=
  ⟨Nat.lt_of_lt_of_le h.lt hg.size, (hg.cell (p := ⟨b, o, none⟩) h.lt hk).trans h.c0, (hg.cell (p := ⟨b, o + 1, none⟩) h.lt hk).trans h.c1, (hg.cell (p := ⟨b, o + 2, none⟩) h.lt hk).trans h.c2, (hg.cell (p := ⟨b, o + 3, none⟩) h.lt hk).trans h.c3⟩

set_option maxRecDepth 100000 in
set_option maxHeartbeats 4000000 in
theorem l06Draw_any (k : Nat) (a : Option Addr) (len cap : Nat) (zs : List Int) (w : World) (hS : Src w k a len cap zs) :
    Calls Tryd.prog 153 #[.pointer (some ⟨k, 0, none⟩)] w (FNPost k a len cap zs w) := by
  have hl := hS.lt
  have R0 := Arr.new w 0 0 0 0 25
  have S0 := hid (hS.alloc (.cells #[.int .i64 0, .int .i64 0, .int .i64 0, .int .i64 0] 25))
  have H0 := (Gk.refl k w).alloc (.cells #[.int .i64 0, .int .i64 0, .int .i64 0, .int .i64 0] 25)
  clear hS
  go_enter Tryd.func153, Tryd.ntmps153
  go_wp2_with fail
  refine (small_any k a len cap zs _ S0.out).mono ?_
  rintro e w1 ⟨p1, q1, r1, s1, rfl, S1', G1⟩
  have S1 := hid S1'
  have R1 := R0.gk G1 (by omega)
  have H1 := H0.trans G1
  clear S1' G1 R0 H0 S0
  go_wp2_with fail
  refine (l06Prime_any k a len cap zs _ S1.out).mono ?_
  rintro e w2 ⟨n, rfl, S2', G2⟩
  have R2 := R1.gk G2 (by omega)
  have H2 := H1.trans G2
  have hS2 := S2'.lt
  have hR2 := R2.lt
  have X3 := Arr.new w2 p1 q1 r1 s1 25
  have S3 := hid (S2'.alloc (.cells #[.int .i64 p1, .int .i64 q1, .int .i64 r1, .int .i64 s1] 25))
  have R3 := R2.alloc (.cells #[.int .i64 p1, .int .i64 q1, .int .i64 r1, .int .i64 s1] 25)
  have H3 := H2.alloc (.cells #[.int .i64 p1, .int .i64 q1, .int .i64 r1, .int .i64 s1] 25)
  clear S2' G2 R1 H1 S1 R2 H2
  obtain ⟨j, hj⟩ : ∃ j, j = w2.heap.size := ⟨_, rfl⟩
  rw [← hj] at X3 hS2 hR2
  have HJ := hid hj
  clear hj
  go_wp2_with fail
  rw [← HJ.out]
  generalize w2.alloc (.cells #[.int .i64 p1, .int .i64 q1, .int .i64 r1, .int .i64 s1] 25) = W3 at X3 S3 R3 H3 ⊢
  clear HJ
  refine (next_any k a len cap zs _ _ S3.out).mono ?_
  rintro e w4 ⟨x, rfl, _, _, S4', G4⟩
  have S4 := hid S4'
  have X4 := X3.gk G4 (by omega)
  have R4 := R3.gk G4 (by omega)
  have H4 := H3.trans G4
  clear S4' G4 X3 R3 H3 S3
  by_cases h0 : x = 0
  · subst h0
    go_wp2_with fail
    refine (spoil_any k a len cap zs _ S4.out).mono ?_
    rintro e w5 ⟨p', q', r', s', rfl, S5', G5⟩
    have S5 := hid S5'
    have R5 := R4.gk G5 (by omega)
    have H5 := H4.trans G5
    clear S5' G5 X4 R4 H4 S4
    obtain ⟨_, r0, r1, r2, r3, f0, f1, f2, f3⟩ := id R5
    go_wp2_with fail
    refine bodyPost_ret (res_AN (e := 2) rfl Tryd.underlying25 (by kernel_rfl) rfl rfl (Arr.store4 R5.box)) rfl ?_
    exact ⟨_, _, _, _, _, rfl, S5.out.up4 hl _ _ _ _, H5.up4 (Nat.le_refl _) _ _ _ _⟩
  have e0 : (x == 0) = false := by simpa using h0
  by_cases h12 : x = 1 ∨ x = 2
  · have HB := hid (fun W => sBelow_any p1 q1 r1 s1 n W)
    have hlen := @fbl_len98 p1 q1 r1 s1 n
    generalize fbc p1 q1 r1 s1 n = bc at HB hlen
    generalize (fun i => ((fbl p1 q1 r1 s1 n).flatMap fi4).getD i 0) = g at HB
    generalize (fbl p1 q1 r1 s1 n).length = ln at HB hlen
    have HB' := hid HB.out
    clear HB
    unfold FlsOut at HB'
    have HLN := hid hlen
    clear hlen
    obtain ⟨_, x0, x1, x2, x3, _⟩ := id X4
    have tail : ∀ (wf : World) (p q r s : Int), Arr wf j p q r s → Arr wf w.heap.size 0 0 0 0 → Src wf k a len cap zs → Gk k w wf → True := fun _ _ _ _ _ _ _ _ _ => trivial
    clear tail
    rcases h12 with rfl | rfl
    · go_wp2_with fail
      refine (HB'.out _).mono ?_
      rintro e w5 ⟨v, rfl, hV, hb5⟩
      have hS4 := S4.out.lt
      have X5 := X4.next hb5
      have R5 := R4.next hb5
      have S5 := hid (S4.out.below hb5)
      have H5 := H4.below hb5
      clear X4 R4 S4 H4 hb5 HB' x0 x1 x2 x3
      by_cases hbc : bc = 0
      · have hbt : (bc == 0) = true := by simpa using hbc
        rw [if_pos hbc] at hV
        have hl98 := HLN.out hbc
        by_cases hln : 0 < ln
        · have hlt : decide ((0 : Int) < (ln : Int)) = true := by simp; omega
          obtain ⟨b, cp, rfl, hc1, hc2, hbB, hbs, hat⟩ := at4_exX hV hln
          have HAT := hid hat
          unfold maxLen at hc2
          clear hV hat HLN
          subst hbc
          go_wp2_with fail
          refine (next_any k a len cap zs _ _ S5.out).mono ?_
          rintro e w6 ⟨t, rfl, ht0, ht1, S6', G6⟩
          obtain ⟨i, rfl⟩ : ∃ i : Nat, t = i := ⟨t.toNat, by omega⟩
          have hi : i < ln := by omega
          have A6 := (HAT.out i hi).gk G6 (by omega)
          generalize g (i * 4) = z0 at A6
          generalize g (i * 4 + 1) = z1 at A6
          generalize g (i * 4 + 2) = z2 at A6
          generalize g (i * 4 + 3) = z3 at A6
          have X6 := X5.gk G6 (by omega)
          have R6 := R5.gk G6 (by omega)
          have S6 := hid S6'
          have H6 := H5.trans G6
          clear X5 R5 S5 H5 G6 S6' HAT ht0 ht1
          obtain ⟨_, a0, a1, a2, a3⟩ := id A6
          obtain ⟨_, x0, x1, x2, x3, g0, g1, g2, g3⟩ := id X6
          have X7 : Arr _ j z0 z1 z2 z3 := Arr.store4 (x := z0) (y := z1) (z := z2) (u := z3) X6.box
          have R7 := R6.oth4 (i := j) (x := .int .i64 z0) (y := .int .i64 z1) (z := .int .i64 z2) (u := .int .i64 z3) (by omega)
          have S7 := hid (S6.out.up4 (j := j) hS2 (.int .i64 z0) (.int .i64 z1) (.int .i64 z2) (.int .i64 z3))
          have H7 := H6.up4 (j := j) (by omega) (.int .i64 z0) (.int .i64 z1) (.int .i64 z2) (.int .i64 z3)
          go_upto_region 10 with fail
          clear a0 a1 a2 a3 x0 x1 x2 x3 g0 g1 g2 g3 A6 X6 R6 S6 H6
          generalize (((w6.setCell ⟨j, 0, none⟩ (.int .i64 z0)).setCell ⟨j, 1, none⟩ (.int .i64 z1)).setCell ⟨j, 2, none⟩ (.int .i64 z2)).setCell ⟨j, 3, none⟩ (.int .i64 z3) = W7 at X7 R7 S7 H7 ⊢
          obtain ⟨_, x0, x1, x2, x3, _⟩ := id X7
          have hX7 := X7.lt
          have hS7 := S7.out.lt
          have hR7 := R7.lt
          go_cut [8] (fun s8 wx => ∃ jn : Nat, s8 = .pointer (some ⟨jn, 0, none⟩) ∧ j < jn ∧ Box wx jn ∧ Arr wx j z0 z1 z2 z3 ∧ Arr wx w.heap.size 0 0 0 0 ∧ Hid (Src wx k a len cap zs) ∧ Gk k w wx)
          case first =>
            go_region_held3 (fun W => W.cell? ⟨j, 0, none⟩ = some (.int .i64 z0) ∧ W.cell? ⟨j, 1, none⟩ = some (.int .i64 z1) ∧ W.cell? ⟨j, 2, none⟩ = some (.int .i64 z2) ∧ W.cell? ⟨j, 3, none⟩ = some (.int .i64 z3)) (first | with_reducible assumption | with_reducible exact cells4 (by assumption) | exact cells4 (by (repeat (first | with_reducible assumption | with_reducible exact Arr.box (by assumption) | with_reducible exact Box.new _ _ _ _ _ _ | with_reducible exact Arr.new _ _ _ _ _ _ | with_reducible refine Arr.drew ?_ | with_reducible refine Arr.drewN ?_ _ | with_reducible refine Arr.store4 ?_ | with_reducible refine Arr.alloc ?_ _ | with_reducible refine Box.drew ?_ | with_reducible refine Box.drewN ?_ _ | with_reducible refine Box.alloc ?_ _ | with_reducible refine Arr.next ?_ (by assumption) | with_reducible refine Box.next ?_ (by assumption) | refine Arr.oth ?_ (by first | (simp; done) | omega | (simp; omega)) _ | refine Box.oth ?_ (by first | (simp; done) | omega | (simp; omega)) _ | with_reducible exact Arr3.box (by assumption) | with_reducible exact Box3.new _ _ _ _ _ | with_reducible exact Arr3.new _ _ _ _ _ | with_reducible refine Arr3.drew ?_ | with_reducible refine Arr3.drewN ?_ _ | with_reducible refine Arr3.store3 ?_ | with_reducible refine Arr3.alloc ?_ _ | with_reducible refine Box3.drew ?_ | with_reducible refine Box3.drewN ?_ _ | with_reducible refine Box3.alloc ?_ _ | with_reducible refine Arr3.next ?_ (by assumption) | with_reducible refine Box3.next ?_ (by assumption) | refine Arr3.oth ?_ (by first | (simp; done) | omega | (simp; omega)) _ | refine Box3.oth ?_ (by first | (simp; done) | omega | (simp; omega)) _)))) (first | (go_at_call 184; refine (unit_any k a len cap zs _ (Src.below S7.out (by (repeat' (first | with_reducible exact Below.refl _ _ | with_reducible assumption | with_reducible refine gr_alloc ?_ _ | with_reducible refine gr_drew ?_ | with_reducible refine gr_drewN ?_ _ | with_reducible refine gr_trans ?_ (by assumption) | with_reducible refine gr_set ?_ ?_ _ | (simp; done) | omega | (simp; omega)))))).mono ?_; rintro e w8 ⟨p', q', r', s', rfl, S8', G8⟩; have X8 := Arr.gk (Arr.next X7 (by (repeat' (first | with_reducible exact Below.refl _ _ | with_reducible assumption | with_reducible refine gr_alloc ?_ _ | with_reducible refine gr_drew ?_ | with_reducible refine gr_drewN ?_ _ | with_reducible refine gr_trans ?_ (by assumption) | with_reducible refine gr_set ?_ ?_ _ | (simp; done) | omega | (simp; omega))))) G8 (by omega); have R8 := Arr.gk (Arr.next R7 (by (repeat' (first | with_reducible exact Below.refl _ _ | with_reducible assumption | with_reducible refine gr_alloc ?_ _ | with_reducible refine gr_drew ?_ | with_reducible refine gr_drewN ?_ _ | with_reducible refine gr_trans ?_ (by assumption) | with_reducible refine gr_set ?_ ?_ _ | (simp; done) | omega | (simp; omega))))) G8 (by omega); have H8 := Gk.trans (Gk.below H7 (by (repeat' (first | with_reducible exact Below.refl _ _ | with_reducible assumption | with_reducible refine gr_alloc ?_ _ | with_reducible refine gr_drew ?_ | with_reducible refine gr_drewN ?_ _ | with_reducible refine gr_trans ?_ (by assumption) | with_reducible refine gr_set ?_ ?_ _ | (simp; done) | omega | (simp; omega))))) G8; have S8 := hid S8'; have hS8 := S8'.lt; have hX8 := X8.lt; have hz8 := G8.size; (try simp at hz8); (try (refine Arr.elimz (w := w8) (k := W7.heap.size) ?_ ?_; (focus ((repeat (first | with_reducible assumption | with_reducible exact Arr.new _ _ _ _ _ _ | with_reducible refine Arr.drew ?_ | with_reducible refine Arr.drewN ?_ _ | with_reducible refine Arr.alloc ?_ _ | (with_reducible refine Arr.gk ?_ G8 ?_; rotate_left 1; (focus omega)))); done)); intro zk0; obtain ⟨_, za0, zb0, zc0, zd0, ze0, zf0, zg0, zh0⟩ := id zk0))) | (go_at_call 135; refine (sChange0_any z0 z1 z2 z3 p' q' r' s' _).mono ?_; rintro e w9 ⟨rfl, hb9⟩; have hbx : Below w8.heap.size w8 w9 := (by (repeat' (first | with_reducible exact Below.refl _ _ | with_reducible assumption | with_reducible refine gr_alloc ?_ _ | with_reducible refine gr_drew ?_ | with_reducible refine gr_drewN ?_ _ | with_reducible refine gr_trans ?_ (by assumption) | with_reducible refine gr_set ?_ ?_ _ | (simp; done) | omega | (simp; omega)))); have X9 := X8.next hbx; have R9 := R8.next hbx; have S9 := hid (S8.out.below hbx); have H9 := H8.below hbx; have hX9 := X9.lt; have hS9 := S9.out.lt; have hz9 := hb9.size; (try simp at hz9); (try (refine Arr.elimz (w := w9) (k := W7.heap.size) ?_ ?_; (focus ((repeat (first | with_reducible assumption | with_reducible exact Arr.new _ _ _ _ _ _ | with_reducible refine Arr.drew ?_ | with_reducible refine Arr.drewN ?_ _ | with_reducible refine Arr.alloc ?_ _ | with_reducible refine Arr.next ?_ hb9 | (with_reducible refine Arr.gk ?_ G8 ?_; rotate_left 1; (focus omega)))); done)); intro zk1; obtain ⟨_, za1, zb1, zc1, zd1, ze1, zf1, zg1, zh1⟩ := id zk1)); (try (refine Arr.elimz (w := w9) (k := w8.heap.size) ?_ ?_; (focus ((repeat (first | with_reducible assumption | with_reducible exact Arr.new _ _ _ _ _ _ | with_reducible refine Arr.drew ?_ | with_reducible refine Arr.drewN ?_ _ | with_reducible refine Arr.alloc ?_ _ | with_reducible refine Arr.next ?_ hb9 | (with_reducible refine Arr.gk ?_ G8 ?_; rotate_left 1; (focus omega)))); done)); intro zk2; obtain ⟨_, za2, zb2, zc2, zd2, ze2, zf2, zg2, zh2⟩ := id zk2))))
            all_goals (go_wp2_with fail; go_meet; refine ⟨_, rfl, ?_, ?_, ?_, ?_, ?_, ?_⟩; (focus omega); (focus (first | with_reducible exact Box.new _ _ _ _ _ _ | exact Arr.box (Arr.store4 (Arr.box (by assumption))))); (focus (repeat (first | with_reducible assumption | with_reducible refine Arr.alloc ?_ _ | (with_reducible refine Arr.oth4 ?_ ?_; rotate_left 1; (focus omega))))); (focus (repeat (first | with_reducible assumption | with_reducible refine Arr.alloc ?_ _ | (with_reducible refine Arr.oth4 ?_ ?_; rotate_left 1; (focus omega))))); (focus (first | exact hid (S9.out.alloc _) | exact hid (S9.out.up4 (by omega) _ _ _ _))); (focus (first | exact H9.alloc _ | exact H9.up4 (by omega) _ _ _ _)))
          case rest =>
            obtain ⟨jn, rfl, hjn, ⟨m0, m1, m2, m3, Y10⟩, X10, R10, S10, H10⟩ := hcut
            clear X7 R7 S7 H7 x0 x1 x2 x3
            obtain ⟨_, y0, y1, y2, y3, _⟩ := id Y10
            go_wp2_with fail
            refine (l01Fits_any m0 m1 m2 m3 _).mono ?_
            rintro e w11 ⟨rfl, hb11⟩
            have Y11 := Y10.next hb11
            have X11 := X10.next hb11
            have R11 := R10.next hb11
            have S11 := hid (S10.out.below hb11)
            have H11 := H10.below hb11
            clear Y10 X10 R10 S10 H10 hb11 y0 y1 y2 y3
            cases isF m0 m1 m2 m3 with
            | true =>
              obtain ⟨_, y0, y1, y2, y3, _⟩ := id Y11
              obtain ⟨_, x0, x1, x2, x3, g0, g1, g2, g3⟩ := id X11
              have X12 : Arr _ j m0 m1 m2 m3 := Arr.store4 (x := m0) (y := m1) (z := m2) (u := m3) X11.box
              have R12 := R11.oth4 (i := j) (x := .int .i64 m0) (y := .int .i64 m1) (z := .int .i64 m2) (u := .int .i64 m3) (by omega)
              have S12 := hid (S11.out.up4 (j := j) hS2 (.int .i64 m0) (.int .i64 m1) (.int .i64 m2) (.int .i64 m3))
              have H12 := H11.up4 (j := j) (by omega) (.int .i64 m0) (.int .i64 m1) (.int .i64 m2) (.int .i64 m3)
              go_upto_region 17 with fail
              clear y0 y1 y2 y3 x0 x1 x2 x3 g0 g1 g2 g3 Y11 X11 R11 S11 H11
              generalize (((w11.setCell ⟨j, 0, none⟩ (.int .i64 m0)).setCell ⟨j, 1, none⟩ (.int .i64 m1)).setCell ⟨j, 2, none⟩ (.int .i64 m2)).setCell ⟨j, 3, none⟩ (.int .i64 m3) = W12 at X12 R12 S12 H12 ⊢
              obtain ⟨_, x0, x1, x2, x3, _⟩ := id X12
              obtain ⟨_, r0, r1, r2, r3, f0, f1, f2, f3⟩ := id R12
              go_wp2_with fail
              refine bodyPost_ret (res_AN (e := 2) rfl Tryd.underlying25 (by kernel_rfl) rfl rfl (Arr.store4 R12.box)) rfl ?_
              exact ⟨_, _, _, _, _, rfl, S12.out.up4 hl _ _ _ _, H12.up4 (Nat.le_refl _) _ _ _ _⟩
            | false =>
              clear Y11
              obtain ⟨_, x0, x1, x2, x3, _⟩ := id X11
              obtain ⟨_, r0, r1, r2, r3, f0, f1, f2, f3⟩ := id R11
              go_wp2_with fail
              refine bodyPost_ret (res_AN (e := 2) rfl Tryd.underlying25 (by kernel_rfl) rfl rfl (Arr.store4 R11.box)) rfl ?_
              exact ⟨_, _, _, _, _, rfl, S11.out.up4 hl _ _ _ _, H11.up4 (Nat.le_refl _) _ _ _ _⟩
        · have hlt : decide ((0 : Int) < (ln : Int)) = false := by simp; omega
          have hvn : ∃ a' c', v = .slice a' ln c' := by
            rcases hV with ⟨rfl, rfl⟩ | ⟨b, cp, rfl, _⟩
            · exact ⟨_, _, rfl⟩
            · exact ⟨_, _, rfl⟩
          obtain ⟨a', c', rfl⟩ := hvn
          clear hV HLN
          subst hbc
          obtain ⟨_, x0, x1, x2, x3, _⟩ := id X5
          obtain ⟨_, r0, r1, r2, r3, f0, f1, f2, f3⟩ := id R5
          go_wp2_with fail
          refine bodyPost_ret (res_AN (e := 2) rfl Tryd.underlying25 (by kernel_rfl) rfl rfl (Arr.store4 R5.box)) rfl ?_
          exact ⟨_, _, _, _, _, rfl, S5.out.up4 hl _ _ _ _, H5.up4 (Nat.le_refl _) _ _ _ _⟩
      · have hbt : (bc == 0) = false := by simpa using hbc
        clear hV HLN hbc
        obtain ⟨_, x0, x1, x2, x3, _⟩ := id X5
        obtain ⟨_, r0, r1, r2, r3, f0, f1, f2, f3⟩ := id R5
        go_wp2_with fail
        refine bodyPost_ret (res_AN (e := 2) rfl Tryd.underlying25 (by kernel_rfl) rfl rfl (Arr.store4 R5.box)) rfl ?_
        exact ⟨_, _, _, _, _, rfl, S5.out.up4 hl _ _ _ _, H5.up4 (Nat.le_refl _) _ _ _ _⟩
    · go_wp2_with fail
      refine (HB'.out _).mono ?_
      rintro e w5 ⟨v, rfl, hV, hb5⟩
      have hS4 := S4.out.lt
      have X5 := X4.next hb5
      have R5 := R4.next hb5
      have S5 := hid (S4.out.below hb5)
      have H5 := H4.below hb5
      clear X4 R4 S4 H4 hb5 HB' x0 x1 x2 x3
      by_cases hbc : bc = 0
      · have hbt : (bc == 0) = true := by simpa using hbc
        rw [if_pos hbc] at hV
        have hl98 := HLN.out hbc
        by_cases hln : 0 < ln
        · have hlt : decide ((0 : Int) < (ln : Int)) = true := by simp; omega
          obtain ⟨b, cp, rfl, hc1, hc2, hbB, hbs, hat⟩ := at4_exX hV hln
          have HAT := hid hat
          unfold maxLen at hc2
          clear hV hat HLN
          subst hbc
          go_wp2_with fail
          refine (next_any k a len cap zs _ _ S5.out).mono ?_
          rintro e w6 ⟨t, rfl, ht0, ht1, S6', G6⟩
          obtain ⟨i, rfl⟩ : ∃ i : Nat, t = i := ⟨t.toNat, by omega⟩
          have hi : i < ln := by omega
          have A6 := (HAT.out i hi).gk G6 (by omega)
          generalize g (i * 4) = z0 at A6
          generalize g (i * 4 + 1) = z1 at A6
          generalize g (i * 4 + 2) = z2 at A6
          generalize g (i * 4 + 3) = z3 at A6
          have X6 := X5.gk G6 (by omega)
          have R6 := R5.gk G6 (by omega)
          have S6 := hid S6'
          have H6 := H5.trans G6
          clear X5 R5 S5 H5 G6 S6' HAT ht0 ht1
          obtain ⟨_, a0, a1, a2, a3⟩ := id A6
          obtain ⟨_, x0, x1, x2, x3, g0, g1, g2, g3⟩ := id X6
          have X7 : Arr _ j z0 z1 z2 z3 := Arr.store4 (x := z0) (y := z1) (z := z2) (u := z3) X6.box
          have R7 := R6.oth4 (i := j) (x := .int .i64 z0) (y := .int .i64 z1) (z := .int .i64 z2) (u := .int .i64 z3) (by omega)
          have S7 := hid (S6.out.up4 (j := j) hS2 (.int .i64 z0) (.int .i64 z1) (.int .i64 z2) (.int .i64 z3))
          have H7 := H6.up4 (j := j) (by omega) (.int .i64 z0) (.int .i64 z1) (.int .i64 z2) (.int .i64 z3)
          go_upto_region 10 with fail
          clear a0 a1 a2 a3 x0 x1 x2 x3 g0 g1 g2 g3 A6 X6 R6 S6 H6
          generalize (((w6.setCell ⟨j, 0, none⟩ (.int .i64 z0)).setCell ⟨j, 1, none⟩ (.int .i64 z1)).setCell ⟨j, 2, none⟩ (.int .i64 z2)).setCell ⟨j, 3, none⟩ (.int .i64 z3) = W7 at X7 R7 S7 H7 ⊢
          obtain ⟨_, x0, x1, x2, x3, _⟩ := id X7
          have hX7 := X7.lt
          have hS7 := S7.out.lt
          have hR7 := R7.lt
          go_cut [8] (fun s8 wx => ∃ jn : Nat, s8 = .pointer (some ⟨jn, 0, none⟩) ∧ j < jn ∧ Box wx jn ∧ Arr wx j z0 z1 z2 z3 ∧ Arr wx w.heap.size 0 0 0 0 ∧ Hid (Src wx k a len cap zs) ∧ Gk k w wx)
          case first =>
            go_region_held3 (fun W => W.cell? ⟨j, 0, none⟩ = some (.int .i64 z0) ∧ W.cell? ⟨j, 1, none⟩ = some (.int .i64 z1) ∧ W.cell? ⟨j, 2, none⟩ = some (.int .i64 z2) ∧ W.cell? ⟨j, 3, none⟩ = some (.int .i64 z3)) (first | with_reducible assumption | with_reducible exact cells4 (by assumption) | exact cells4 (by (repeat (first | with_reducible assumption | with_reducible exact Arr.box (by assumption) | with_reducible exact Box.new _ _ _ _ _ _ | with_reducible exact Arr.new _ _ _ _ _ _ | with_reducible refine Arr.drew ?_ | with_reducible refine Arr.drewN ?_ _ | with_reducible refine Arr.store4 ?_ | with_reducible refine Arr.alloc ?_ _ | with_reducible refine Box.drew ?_ | with_reducible refine Box.drewN ?_ _ | with_reducible refine Box.alloc ?_ _ | with_reducible refine Arr.next ?_ (by assumption) | with_reducible refine Box.next ?_ (by assumption) | refine Arr.oth ?_ (by first | (simp; done) | omega | (simp; omega)) _ | refine Box.oth ?_ (by first | (simp; done) | omega | (simp; omega)) _ | with_reducible exact Arr3.box (by assumption) | with_reducible exact Box3.new _ _ _ _ _ | with_reducible exact Arr3.new _ _ _ _ _ | with_reducible refine Arr3.drew ?_ | with_reducible refine Arr3.drewN ?_ _ | with_reducible refine Arr3.store3 ?_ | with_reducible refine Arr3.alloc ?_ _ | with_reducible refine Box3.drew ?_ | with_reducible refine Box3.drewN ?_ _ | with_reducible refine Box3.alloc ?_ _ | with_reducible refine Arr3.next ?_ (by assumption) | with_reducible refine Box3.next ?_ (by assumption) | refine Arr3.oth ?_ (by first | (simp; done) | omega | (simp; omega)) _ | refine Box3.oth ?_ (by first | (simp; done) | omega | (simp; omega)) _)))) (first | (go_at_call 184; refine (unit_any k a len cap zs _ (Src.below S7.out (by (repeat' (first | with_reducible exact Below.refl _ _ | with_reducible assumption | with_reducible refine gr_alloc ?_ _ | with_reducible refine gr_drew ?_ | with_reducible refine gr_drewN ?_ _ | with_reducible refine gr_trans ?_ (by assumption) | with_reducible refine gr_set ?_ ?_ _ | (simp; done) | omega | (simp; omega)))))).mono ?_; rintro e w8 ⟨p', q', r', s', rfl, S8', G8⟩; have X8 := Arr.gk (Arr.next X7 (by (repeat' (first | with_reducible exact Below.refl _ _ | with_reducible assumption | with_reducible refine gr_alloc ?_ _ | with_reducible refine gr_drew ?_ | with_reducible refine gr_drewN ?_ _ | with_reducible refine gr_trans ?_ (by assumption) | with_reducible refine gr_set ?_ ?_ _ | (simp; done) | omega | (simp; omega))))) G8 (by omega); have R8 := Arr.gk (Arr.next R7 (by (repeat' (first | with_reducible exact Below.refl _ _ | with_reducible assumption | with_reducible refine gr_alloc ?_ _ | with_reducible refine gr_drew ?_ | with_reducible refine gr_drewN ?_ _ | with_reducible refine gr_trans ?_ (by assumption) | with_reducible refine gr_set ?_ ?_ _ | (simp; done) | omega | (simp; omega))))) G8 (by omega); have H8 := Gk.trans (Gk.below H7 (by (repeat' (first | with_reducible exact Below.refl _ _ | with_reducible assumption | with_reducible refine gr_alloc ?_ _ | with_reducible refine gr_drew ?_ | with_reducible refine gr_drewN ?_ _ | with_reducible refine gr_trans ?_ (by assumption) | with_reducible refine gr_set ?_ ?_ _ | (simp; done) | omega | (simp; omega))))) G8; have S8 := hid S8'; have hS8 := S8'.lt; have hX8 := X8.lt; have hz8 := G8.size; (try simp at hz8); (try (refine Arr.elimz (w := w8) (k := W7.heap.size) ?_ ?_; (focus ((repeat (first | with_reducible assumption | with_reducible exact Arr.new _ _ _ _ _ _ | with_reducible refine Arr.drew ?_ | with_reducible refine Arr.drewN ?_ _ | with_reducible refine Arr.alloc ?_ _ | (with_reducible refine Arr.gk ?_ G8 ?_; rotate_left 1; (focus omega)))); done)); intro zk0; obtain ⟨_, za0, zb0, zc0, zd0, ze0, zf0, zg0, zh0⟩ := id zk0))) | (go_at_call 135; refine (sChange0_any z0 z1 z2 z3 p' q' r' s' _).mono ?_; rintro e w9 ⟨rfl, hb9⟩; have hbx : Below w8.heap.size w8 w9 := (by (repeat' (first | with_reducible exact Below.refl _ _ | with_reducible assumption | with_reducible refine gr_alloc ?_ _ | with_reducible refine gr_drew ?_ | with_reducible refine gr_drewN ?_ _ | with_reducible refine gr_trans ?_ (by assumption) | with_reducible refine gr_set ?_ ?_ _ | (simp; done) | omega | (simp; omega)))); have X9 := X8.next hbx; have R9 := R8.next hbx; have S9 := hid (S8.out.below hbx); have H9 := H8.below hbx; have hX9 := X9.lt; have hS9 := S9.out.lt; have hz9 := hb9.size; (try simp at hz9); (try (refine Arr.elimz (w := w9) (k := W7.heap.size) ?_ ?_; (focus ((repeat (first | with_reducible assumption | with_reducible exact Arr.new _ _ _ _ _ _ | with_reducible refine Arr.drew ?_ | with_reducible refine Arr.drewN ?_ _ | with_reducible refine Arr.alloc ?_ _ | with_reducible refine Arr.next ?_ hb9 | (with_reducible refine Arr.gk ?_ G8 ?_; rotate_left 1; (focus omega)))); done)); intro zk1; obtain ⟨_, za1, zb1, zc1, zd1, ze1, zf1, zg1, zh1⟩ := id zk1)); (try (refine Arr.elimz (w := w9) (k := w8.heap.size) ?_ ?_; (focus ((repeat (first | with_reducible assumption | with_reducible exact Arr.new _ _ _ _ _ _ | with_reducible refine Arr.drew ?_ | with_reducible refine Arr.drewN ?_ _ | with_reducible refine Arr.alloc ?_ _ | with_reducible refine Arr.next ?_ hb9 | (with_reducible refine Arr.gk ?_ G8 ?_; rotate_left 1; (focus omega)))); done)); intro zk2; obtain ⟨_, za2, zb2, zc2, zd2, ze2, zf2, zg2, zh2⟩ := id zk2))))
            all_goals (go_wp2_with fail; go_meet; refine ⟨_, rfl, ?_, ?_, ?_, ?_, ?_, ?_⟩; (focus omega); (focus (first | with_reducible exact Box.new _ _ _ _ _ _ | exact Arr.box (Arr.store4 (Arr.box (by assumption))))); (focus (repeat (first | with_reducible assumption | with_reducible refine Arr.alloc ?_ _ | (with_reducible refine Arr.oth4 ?_ ?_; rotate_left 1; (focus omega))))); (focus (repeat (first | with_reducible assumption | with_reducible refine Arr.alloc ?_ _ | (with_reducible refine Arr.oth4 ?_ ?_; rotate_left 1; (focus omega))))); (focus (first | exact hid (S9.out.alloc _) | exact hid (S9.out.up4 (by omega) _ _ _ _))); (focus (first | exact H9.alloc _ | exact H9.up4 (by omega) _ _ _ _)))
          case rest =>
            obtain ⟨jn, rfl, hjn, ⟨m0, m1, m2, m3, Y10⟩, X10, R10, S10, H10⟩ := hcut
            clear X7 R7 S7 H7 x0 x1 x2 x3
            obtain ⟨_, y0, y1, y2, y3, _⟩ := id Y10
            go_wp2_with fail
            refine (l01Fits_any m0 m1 m2 m3 _).mono ?_
            rintro e w11 ⟨rfl, hb11⟩
            have Y11 := Y10.next hb11
            have X11 := X10.next hb11
            have R11 := R10.next hb11
            have S11 := hid (S10.out.below hb11)
            have H11 := H10.below hb11
            clear Y10 X10 R10 S10 H10 hb11 y0 y1 y2 y3
            cases isF m0 m1 m2 m3 with
            | true =>
              obtain ⟨_, y0, y1, y2, y3, _⟩ := id Y11
              obtain ⟨_, x0, x1, x2, x3, g0, g1, g2, g3⟩ := id X11
              have X12 : Arr _ j m0 m1 m2 m3 := Arr.store4 (x := m0) (y := m1) (z := m2) (u := m3) X11.box
              have R12 := R11.oth4 (i := j) (x := .int .i64 m0) (y := .int .i64 m1) (z := .int .i64 m2) (u := .int .i64 m3) (by omega)
              have S12 := hid (S11.out.up4 (j := j) hS2 (.int .i64 m0) (.int .i64 m1) (.int .i64 m2) (.int .i64 m3))
              have H12 := H11.up4 (j := j) (by omega) (.int .i64 m0) (.int .i64 m1) (.int .i64 m2) (.int .i64 m3)
              go_upto_region 17 with fail
              clear y0 y1 y2 y3 x0 x1 x2 x3 g0 g1 g2 g3 Y11 X11 R11 S11 H11
              generalize (((w11.setCell ⟨j, 0, none⟩ (.int .i64 m0)).setCell ⟨j, 1, none⟩ (.int .i64 m1)).setCell ⟨j, 2, none⟩ (.int .i64 m2)).setCell ⟨j, 3, none⟩ (.int .i64 m3) = W12 at X12 R12 S12 H12 ⊢
              obtain ⟨_, x0, x1, x2, x3, _⟩ := id X12
              obtain ⟨_, r0, r1, r2, r3, f0, f1, f2, f3⟩ := id R12
              go_wp2_with fail
              refine bodyPost_ret (res_AN (e := 2) rfl Tryd.underlying25 (by kernel_rfl) rfl rfl (Arr.store4 R12.box)) rfl ?_
              exact ⟨_, _, _, _, _, rfl, S12.out.up4 hl _ _ _ _, H12.up4 (Nat.le_refl _) _ _ _ _⟩
            | false =>
              clear Y11
              obtain ⟨_, x0, x1, x2, x3, _⟩ := id X11
              obtain ⟨_, r0, r1, r2, r3, f0, f1, f2, f3⟩ := id R11
              go_wp2_with fail
              refine bodyPost_ret (res_AN (e := 2) rfl Tryd.underlying25 (by kernel_rfl) rfl rfl (Arr.store4 R11.box)) rfl ?_
              exact ⟨_, _, _, _, _, rfl, S11.out.up4 hl _ _ _ _, H11.up4 (Nat.le_refl _) _ _ _ _⟩
        · have hlt : decide ((0 : Int) < (ln : Int)) = false := by simp; omega
          have hvn : ∃ a' c', v = .slice a' ln c' := by
            rcases hV with ⟨rfl, rfl⟩ | ⟨b, cp, rfl, _⟩
            · exact ⟨_, _, rfl⟩
            · exact ⟨_, _, rfl⟩
          obtain ⟨a', c', rfl⟩ := hvn
          clear hV HLN
          subst hbc
          obtain ⟨_, x0, x1, x2, x3, _⟩ := id X5
          obtain ⟨_, r0, r1, r2, r3, f0, f1, f2, f3⟩ := id R5
          go_wp2_with fail
          refine bodyPost_ret (res_AN (e := 2) rfl Tryd.underlying25 (by kernel_rfl) rfl rfl (Arr.store4 R5.box)) rfl ?_
          exact ⟨_, _, _, _, _, rfl, S5.out.up4 hl _ _ _ _, H5.up4 (Nat.le_refl _) _ _ _ _⟩
      · have hbt : (bc == 0) = false := by simpa using hbc
        clear hV HLN hbc
        obtain ⟨_, x0, x1, x2, x3, _⟩ := id X5
        obtain ⟨_, r0, r1, r2, r3, f0, f1, f2, f3⟩ := id R5
        go_wp2_with fail
        refine bodyPost_ret (res_AN (e := 2) rfl Tryd.underlying25 (by kernel_rfl) rfl rfl (Arr.store4 R5.box)) rfl ?_
        exact ⟨_, _, _, _, _, rfl, S5.out.up4 hl _ _ _ _, H5.up4 (Nat.le_refl _) _ _ _ _⟩
  have e1 : (x == 1) = false := by simp; omega
  have e2 : (x == 2) = false := by simp; omega
  by_cases h3 : x = 3
  · subst h3
    clear e0 e1 e2 h0 h12
    generalize hm0 : wrap64 (p1 * n) = m0
    generalize hm1 : wrap64 (q1 * n) = m1
    generalize hm2 : wrap64 (r1 * n) = m2
    generalize hm3 : wrap64 (s1 * n) = m3
    have i0 : IntKind.i64.wrap (p1 * n) = m0 := by rw [IntWalk.i64_left]; exact hm0
    have i1 : IntKind.i64.wrap (q1 * n) = m1 := by rw [IntWalk.i64_left]; exact hm1
    have i2 : IntKind.i64.wrap (r1 * n) = m2 := by rw [IntWalk.i64_left]; exact hm2
    have i3 : IntKind.i64.wrap (s1 * n) = m3 := by rw [IntWalk.i64_left]; exact hm3
    obtain ⟨_, x0, x1, x2, x3, _⟩ := id X4
    have Y5 := Arr.new w4 m0 m1 m2 m3 25
    have X5 := X4.alloc (.cells #[.int .i64 m0, .int .i64 m1, .int .i64 m2, .int .i64 m3] 25)
    have R5 := R4.alloc (.cells #[.int .i64 m0, .int .i64 m1, .int .i64 m2, .int .i64 m3] 25)
    have S5 := hid (S4.out.alloc (.cells #[.int .i64 m0, .int .i64 m1, .int .i64 m2, .int .i64 m3] 25))
    have H5 := H4.alloc (.cells #[.int .i64 m0, .int .i64 m1, .int .i64 m2, .int .i64 m3] 25)
    have hS4 := S4.out.lt
    have hX4 := X4.lt
    clear R4 S4 H4
    go_upto_region 15 with fail
    obtain ⟨j4, hj4⟩ : ∃ j, j = w4.heap.size := ⟨_, rfl⟩
    rw [← hj4] at Y5 hS4 hX4
    rw [← hj4]
    generalize w4.alloc (.cells #[.int .i64 m0, .int .i64 m1, .int .i64 m2, .int .i64 m3] 25) = W5 at Y5 X5 R5 S5 H5 ⊢
    clear hj4 x0 x1 x2 x3 X4 hm0 hm1 hm2 hm3 i0 i1 i2 i3
    obtain ⟨_, y0, y1, y2, y3, _⟩ := id Y5
    go_wp2_with fail
    refine (l01Fits_any m0 m1 m2 m3 _).mono ?_
    rintro e w6 ⟨rfl, hb6⟩
    have Y6 := Y5.next hb6
    have X6 := X5.next hb6
    have R6 := R5.next hb6
    have S6 := hid (S5.out.below hb6)
    have H6 := H5.below hb6
    clear Y5 X5 R5 S5 H5 hb6 y0 y1 y2 y3
    cases isF m0 m1 m2 m3 with
    | true =>
      obtain ⟨_, y0, y1, y2, y3, _⟩ := id Y6
      obtain ⟨_, x0, x1, x2, x3, g0, g1, g2, g3⟩ := id X6
      have X7 : Arr _ j m0 m1 m2 m3 := Arr.store4 (x := m0) (y := m1) (z := m2) (u := m3) X6.box
      have R7 := R6.oth4 (i := j) (x := .int .i64 m0) (y := .int .i64 m1) (z := .int .i64 m2) (u := .int .i64 m3) (by omega)
      have S7 := hid (S6.out.up4 (j := j) hS2 (.int .i64 m0) (.int .i64 m1) (.int .i64 m2) (.int .i64 m3))
      have H7 := H6.up4 (j := j) (by omega) (.int .i64 m0) (.int .i64 m1) (.int .i64 m2) (.int .i64 m3)
      go_upto_region 17 with fail
      clear y0 y1 y2 y3 x0 x1 x2 x3 g0 g1 g2 g3 Y6 X6 R6 S6 H6
      generalize (((w6.setCell ⟨j, 0, none⟩ (.int .i64 m0)).setCell ⟨j, 1, none⟩ (.int .i64 m1)).setCell ⟨j, 2, none⟩ (.int .i64 m2)).setCell ⟨j, 3, none⟩ (.int .i64 m3) = W7 at X7 R7 S7 H7 ⊢
      obtain ⟨_, x0, x1, x2, x3, _⟩ := id X7
      obtain ⟨_, r0, r1, r2, r3, f0, f1, f2, f3⟩ := id R7
      go_wp2_with fail
      refine bodyPost_ret (res_AN (e := 2) rfl Tryd.underlying25 (by kernel_rfl) rfl rfl (Arr.store4 R7.box)) rfl ?_
      exact ⟨_, _, _, _, _, rfl, S7.out.up4 hl _ _ _ _, H7.up4 (Nat.le_refl _) _ _ _ _⟩
    | false =>
      clear Y6
      obtain ⟨_, x0, x1, x2, x3, _⟩ := id X6
      obtain ⟨_, r0, r1, r2, r3, f0, f1, f2, f3⟩ := id R6
      go_wp2_with fail
      refine bodyPost_ret (res_AN (e := 2) rfl Tryd.underlying25 (by kernel_rfl) rfl rfl (Arr.store4 R6.box)) rfl ?_
      exact ⟨_, _, _, _, _, rfl, S6.out.up4 hl _ _ _ _, H6.up4 (Nat.le_refl _) _ _ _ _⟩
  · have e3 : (x == 3) = false := by simpa using h3
    clear h0 h12 h3
    obtain ⟨_, x0, x1, x2, x3, _⟩ := id X4
    obtain ⟨_, r0, r1, r2, r3, f0, f1, f2, f3⟩ := id R4
    go_wp2_with fail
    refine bodyPost_ret (res_AN (e := 2) rfl Tryd.underlying25 (by kernel_rfl) rfl rfl (Arr.store4 R4.box)) rfl ?_
    exact ⟨_, _, _, _, _, rfl, S4.out.up4 hl _ _ _ _, H4.up4 (Nat.le_refl _) _ _ _ _⟩


end Go.Proofs.YtambbhldhhlfgaaDoor
