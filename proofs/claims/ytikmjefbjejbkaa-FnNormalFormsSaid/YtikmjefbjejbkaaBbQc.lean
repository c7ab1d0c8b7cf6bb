/- Chapter 2: AreEquivalent: program and model. -/
import Derived.Test.YtikmjefbjejbkaaBbQb
namespace Go.Proofs.Ytikmjefbjejbkaa
open Go.RowKit

/-- The code and the answer of AreEquivalent. -/
noncomputable def aeq (a b c d p q r s : Int) : Bool := rcd2 a b c d p q r s == 0 && ((nfm a b c d).1 == (nfm p q r s).1 && (nfm a b c d).2.1 == (nfm p q r s).2.1 && (nfm a b c d).2.2.1 == (nfm p q r s).2.2.1 && (nfm a b c d).2.2.2 == (nfm p q r s).2.2.2)
set_option maxRecDepth 100000 in
set_option maxHeartbeats 2000000 in
theorem iAreEq_any (a b c d p q r s : Int) (w : World) : Calls Try.prog 37 #[.agg #[.int .i64 a, .int .i64 b, .int .i64 c, .int .i64 d], .agg #[.int .i64 p, .int .i64 q, .int .i64 r, .int .i64 s]] w fun e w' => e = .returned (.tuple #[.bool (aeq a b c d p q r s), .int .i64 (rcd2 a b c d p q r s)]) ∧ Below w.heap.size w w' := by
  have A0 := (Arr.new w a b c d 26).alloc (.cells #[.int .i64 p, .int .i64 q, .int .i64 r, .int .i64 s] 26)
  have P0 := Arr.new (w.alloc (.cells #[.int .i64 a, .int .i64 b, .int .i64 c, .int .i64 d] 26)) p q r s 26
  have U0 := gr_alloc (gr_alloc (Below.refl w.heap.size w) (.cells #[.int .i64 a, .int .i64 b, .int .i64 c, .int .i64 d] 26)) (.cells #[.int .i64 p, .int .i64 q, .int .i64 r, .int .i64 s] 26)
  simp only [World.size_alloc] at P0
  go_enter Try.func37, Try.ntmps37
  go_upto_region 1 with fail
  generalize (w.alloc (.cells #[.int .i64 a, .int .i64 b, .int .i64 c, .int .i64 d] 26)).alloc (.cells #[.int .i64 p, .int .i64 q, .int .i64 r, .int .i64 s] 26) = W0 at A0 P0 U0 ⊢
  obtain ⟨_, a0, a1, a2, a3, _⟩ := id A0
  obtain ⟨_, p0, p1, p2, p3, _⟩ := id P0
  go_wp2_with fail
  refine (iCheck2_any _ a b c d p q r s _ (Two4.new _ _ _ _ _ _ _ _ _ _)).mono ?_
  rintro e w1 ⟨rfl, hb1⟩
  have hbb := (gr_alloc (Below.refl W0.heap.size W0) (.cells #[.int .i64 a, .int .i64 b, .int .i64 c, .int .i64 d, .int .i64 p, .int .i64 q, .int .i64 r, .int .i64 s] 26)).trans (hb1.mono (by simp))
  have A1 := A0.next hbb; have P1 := P0.next hbb; have U1 := gr_trans U0 hbb
  clear a0 a1 a2 a3 p0 p1 p2 p3 A0 P0 U0 hb1 hbb
  by_cases hk : rcd2 a b c d p q r s = 0
  · obtain ⟨hk1, hk2⟩ := rcd2_0 hk
    have HW1 := hid (fun W => iWN_any a b c d hk1 W)
    have HW2 := hid (fun W => iWN_any p q r s hk2 W)
    have HA : Hid (aeq a b c d p q r s = ((nfm a b c d).1 == (nfm p q r s).1 && (nfm a b c d).2.1 == (nfm p q r s).2.1 && (nfm a b c d).2.2.1 == (nfm p q r s).2.2.1 && (nfm a b c d).2.2.2 == (nfm p q r s).2.2.2)) := hid (by unfold aeq; rw [hk]; rfl)
    have HK := hid hk
    rw [hk]
    clear hk hk1 hk2
    obtain ⟨_, a0, a1, a2, a3, _⟩ := id A1
    go_wp2_with fail
    refine (HW1.out _).mono ?_
    rintro e w2 ⟨v2, rfl, hr2, hb2⟩
    obtain ⟨va, vc, rfl⟩ := hr2.val
    generalize (nwy a b c d).length = vl
    have P2 := P1.next hb2; have U2 := gr_trans U1 hb2
    clear a0 a1 a2 a3 A1 P1 U1 hb2 hr2 HW1
    generalize nfm a b c d = N at HA ⊢
    obtain ⟨n0, n1, n2, n3⟩ := N
    unfold vF
    dsimp only at HA ⊢
    have N2 := Arr.new w2 n0 n1 n2 n3 26
    have P3 := P2.alloc (.cells #[.int .i64 n0, .int .i64 n1, .int .i64 n2, .int .i64 n3] 26)
    have U3 := gr_alloc U2 (.cells #[.int .i64 n0, .int .i64 n1, .int .i64 n2, .int .i64 n3] 26)
    clear P2 U2
    go_upto_region 5 with fail
    generalize hj : w2.heap.size = j at *
    generalize w2.alloc (.cells #[.int .i64 n0, .int .i64 n1, .int .i64 n2, .int .i64 n3] 26) = W3 at N2 P3 U3 ⊢
    clear hj
    obtain ⟨_, p0, p1, p2, p3, _⟩ := id P3
    go_wp2_with fail
    refine (HW2.out _).mono ?_
    rintro e w4 ⟨v4, rfl, hr4, hb4⟩
    obtain ⟨va', vc', rfl⟩ := hr4.val
    generalize (nwy p q r s).length = vl'
    have N4 := N2.next hb4; have U4 := gr_trans U3 hb4
    clear p0 p1 p2 p3 P3 N2 U3 hb4 hr4 HW2
    generalize nfm p q r s = M at HA ⊢
    obtain ⟨m0, m1, m2, m3⟩ := M
    unfold vF
    dsimp only at HA ⊢
    have N5 := N4.alloc (.cells #[.int .i64 m0, .int .i64 m1, .int .i64 m2, .int .i64 m3] 26)
    have M5 := Arr.new w4 m0 m1 m2 m3 26
    have U5 := gr_alloc U4 (.cells #[.int .i64 m0, .int .i64 m1, .int .i64 m2, .int .i64 m3] 26)
    clear N4 U4
    go_upto_region 6 with fail
    generalize hj : w4.heap.size = j2 at *
    generalize w4.alloc (.cells #[.int .i64 m0, .int .i64 m1, .int .i64 m2, .int .i64 m3] 26) = W5 at N5 M5 U5 ⊢
    clear hj
    obtain ⟨_, c0, c1, c2, c3, _⟩ := id N5
    obtain ⟨_, d0, d1, d2, d3, _⟩ := id M5
    have heq := fun W => eqForm_run n0 n1 n2 n3 m0 m1 m2 m3 W
    rw [← HA.out] at heq
    generalize haq : aeq a b c d p q r s = bq at heq
    have HQ := hid haq
    clear haq HA
    go_wp2_with fail
    go_ret2
    exact ⟨by rw [HQ.out, HK.out]; rfl, by (repeat' (first | with_reducible exact Below.refl _ _ | with_reducible assumption | with_reducible refine gr_alloc ?_ _ | with_reducible refine gr_drew ?_ | with_reducible refine gr_drewN ?_ _ | with_reducible refine gr_trans ?_ (by assumption) | with_reducible refine gr_set ?_ ?_ _ | (simp; done) | omega | (simp; omega)))⟩
  · have HA : Hid (aeq a b c d p q r s = false) := hid (by unfold aeq; rw [show (rcd2 a b c d p q r s == 0) = false by simpa using hk]; rfl)
    have hk' : (rcd2 a b c d p q r s == 0) = false := by simpa using hk
    clear hk
    go_wp2_with fail
    go_ret2
    exact ⟨by rw [HA.out]; rfl, by (repeat' (first | with_reducible exact Below.refl _ _ | with_reducible assumption | with_reducible refine gr_alloc ?_ _ | with_reducible refine gr_drew ?_ | with_reducible refine gr_drewN ?_ _ | with_reducible refine gr_trans ?_ (by assumption) | with_reducible refine gr_set ?_ ?_ _ | (simp; done) | omega | (simp; omega)))⟩
theorem cells8A {W : World} {i j : Nat} {a b c d p q r s : Int} (A : Arr W i a b c d) (B : Arr W j p q r s) :
    W.cell? ⟨i, 0, none⟩ = some (.int .i64 a) ∧ W.cell? ⟨i, 1, none⟩ = some (.int .i64 b) ∧ W.cell? ⟨i, 2, none⟩ = some (.int .i64 c) ∧ W.cell? ⟨i, 3, none⟩ = some (.int .i64 d) ∧ W.cell? ⟨j, 0, none⟩ = some (.int .i64 p) ∧ W.cell? ⟨j, 1, none⟩ = some (.int .i64 q) ∧ W.cell? ⟨j, 2, none⟩ = some (.int .i64 r) ∧ W.cell? ⟨j, 3, none⟩ = some (.int .i64 s) :=
  ⟨A.c0, A.c1, A.c2, A.c3, B.c0, B.c1, B.c2, B.c3⟩
set_option maxRecDepth 100000 in
set_option maxHeartbeats 2000000 in
theorem sAreEq_any (a b c d p q r s : Int) (w : World) : Calls Try.prog 38 #[.agg #[.int .i64 a, .int .i64 b, .int .i64 c, .int .i64 d], .agg #[.int .i64 p, .int .i64 q, .int .i64 r, .int .i64 s]] w fun e w' => e = .returned (.tuple #[.bool (aeq a b c d p q r s), .int .i64 (rcd2 a b c d p q r s)]) ∧ Below w.heap.size w w' := by
  have A0 := (Arr.new w a b c d 26).alloc (.cells #[.int .i64 p, .int .i64 q, .int .i64 r, .int .i64 s] 26)
  have P0 := Arr.new (w.alloc (.cells #[.int .i64 a, .int .i64 b, .int .i64 c, .int .i64 d] 26)) p q r s 26
  have U0 := gr_alloc (gr_alloc (Below.refl w.heap.size w) (.cells #[.int .i64 a, .int .i64 b, .int .i64 c, .int .i64 d] 26)) (.cells #[.int .i64 p, .int .i64 q, .int .i64 r, .int .i64 s] 26)
  simp only [World.size_alloc] at P0
  go_enter Try.func38, Try.ntmps38
  go_upto_region 1 with fail
  generalize (w.alloc (.cells #[.int .i64 a, .int .i64 b, .int .i64 c, .int .i64 d] 26)).alloc (.cells #[.int .i64 p, .int .i64 q, .int .i64 r, .int .i64 s] 26) = W0 at A0 P0 U0 ⊢
  obtain ⟨_, a0, a1, a2, a3, _⟩ := id A0
  obtain ⟨_, p0, p1, p2, p3, _⟩ := id P0
  go_wp2_with fail
  refine (sCode2_any _ a b c d p q r s _ (Two4.new _ _ _ _ _ _ _ _ _ _)).mono ?_
  rintro e w1 ⟨rfl, hb1⟩
  have hbb := (gr_alloc (Below.refl W0.heap.size W0) (.cells #[.int .i64 a, .int .i64 b, .int .i64 c, .int .i64 d, .int .i64 p, .int .i64 q, .int .i64 r, .int .i64 s] 26)).trans (hb1.mono (by simp))
  have A1 := A0.next hbb; have P1 := P0.next hbb; have U1 := gr_trans U0 hbb
  clear a0 a1 a2 a3 p0 p1 p2 p3 A0 P0 U0 hb1 hbb
  by_cases hk : rcd2 a b c d p q r s = 0
  · obtain ⟨hk1, hk2⟩ := rcd2_0 hk
    have HW1 := hid (fun W => sNf_any a b c d hk1 W)
    have HW2 := hid (fun W => sNf_any p q r s hk2 W)
    have HA : Hid (aeq a b c d p q r s = ((nfm a b c d).1 == (nfm p q r s).1 && (nfm a b c d).2.1 == (nfm p q r s).2.1 && (nfm a b c d).2.2.1 == (nfm p q r s).2.2.1 && (nfm a b c d).2.2.2 == (nfm p q r s).2.2.2)) := hid (by unfold aeq; rw [hk]; rfl)
    have HK := hid hk
    rw [hk]
    clear hk hk1 hk2
    have A2 := A1.drew; have P2 := P1.drew; have U2 := gr_drew U1
    go_upto_region 4 with fail
    generalize hN : nfm a b c d = N at HW1 HA
    generalize hM : nfm p q r s = M at HW2 HA
    clear hN hM
    obtain ⟨n0, n1, n2, n3⟩ := N
    obtain ⟨m0, m1, m2, m3⟩ := M
    unfold vF at HW1 HW2
    dsimp only at HW1 HW2 HA
    have heq := fun W => eqForm_run n0 n1 n2 n3 m0 m1 m2 m3 W
    rw [← HA.out] at heq
    generalize haq : aeq a b c d p q r s = bq at heq
    have HQ := hid haq
    clear haq HA
    obtain ⟨_, a0, a1, a2, a3, _⟩ := id A2
    obtain ⟨_, p0, p1, p2, p3, _⟩ := id P2
    go_region_held3 (fun W => W.cell? ⟨w.heap.size, 0, none⟩ = some (.int .i64 a) ∧ W.cell? ⟨w.heap.size, 1, none⟩ = some (.int .i64 b) ∧ W.cell? ⟨w.heap.size, 2, none⟩ = some (.int .i64 c) ∧ W.cell? ⟨w.heap.size, 3, none⟩ = some (.int .i64 d) ∧ W.cell? ⟨w.heap.size + 1, 0, none⟩ = some (.int .i64 p) ∧ W.cell? ⟨w.heap.size + 1, 1, none⟩ = some (.int .i64 q) ∧ W.cell? ⟨w.heap.size + 1, 2, none⟩ = some (.int .i64 r) ∧ W.cell? ⟨w.heap.size + 1, 3, none⟩ = some (.int .i64 s)) (first | exact cells8A A4 P4 | exact cells8A A3 P3 | exact cells8A A2 P2) ((first | (go_at_call_of 63 a; refine (HW1.out _).mono ?_; rintro e w3 ⟨rfl, hb3⟩; have A3 := A2.next hb3; have P3 := P2.next hb3; have U3 := gr_trans U2 hb3) | (go_at_call_of 63 p; refine (HW2.out _).mono ?_; rintro e w4 ⟨rfl, hb4⟩; have A4 := A3.next hb4; have P4 := P3.next hb4; have U4 := gr_trans U3 hb4)))
    all_goals
      go_wp2_with fail
      go_ret2
      exact ⟨by rw [HQ.out, HK.out]; rfl, by (repeat' (first | with_reducible exact Below.refl _ _ | with_reducible assumption | with_reducible refine gr_alloc ?_ _ | with_reducible refine gr_drew ?_ | with_reducible refine gr_drewN ?_ _ | with_reducible refine gr_trans ?_ (by assumption) | with_reducible refine gr_set ?_ ?_ _ | (simp; done) | omega | (simp; omega)))⟩
  · have HA : Hid (aeq a b c d p q r s = false) := hid (by unfold aeq; rw [show (rcd2 a b c d p q r s == 0) = false by simpa using hk]; rfl)
    have hk' : (rcd2 a b c d p q r s == 0) = false := by simpa using hk
    clear hk
    go_wp2_with fail
    go_ret2
    exact ⟨by rw [HA.out]; rfl, by (repeat' (first | with_reducible exact Below.refl _ _ | with_reducible assumption | with_reducible refine gr_alloc ?_ _ | with_reducible refine gr_drew ?_ | with_reducible refine gr_drewN ?_ _ | with_reducible refine gr_trans ?_ (by assumption) | with_reducible refine gr_set ?_ ?_ _ | (simp; done) | omega | (simp; omega)))⟩

end Go.Proofs.Ytikmjefbjejbkaa
