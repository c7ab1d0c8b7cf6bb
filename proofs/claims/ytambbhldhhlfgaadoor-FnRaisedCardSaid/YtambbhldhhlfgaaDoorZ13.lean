/- Several texts in one: XCh, XC1v, XOd. -/
import Derived.Test.YtambbhldhhlfgaaDoorZ2
import Derived.Test.YtambbhldhhlfgaaDoorZ3
import Derived.Deep.DeepCutAuto
import Derived.Deep.RegionHeld3
import Derived.Test.YtambbhldhhlfgaaDoorC1u
import Derived.Test.YtambbhldhhlfgaaDoorOa
import Derived.StillTailTactics

/- Chapter 1: changed forms of the model (as XC1v has them), by themselves. -/
namespace Go.Proofs.YtambbhldhhlfgaaDoor
open Go.RowKit

theorem ret_F {a b c d a' b' c' d' : Int} (h0 : a = a') (h1 : b = b') (h2 : c = c') (h3 : d = d') : Ending.returned (.agg #[.int .i64 a, .int .i64 b, .int .i64 c, .int .i64 d]) = .returned (.agg #[.int .i64 a', .int .i64 b', .int .i64 c', .int .i64 d']) := by rw [h0, h1, h2, h3]
theorem ch_wr {a b c d p q r s : Int} (ha : -1000 ≤ a ∧ a ≤ 1000) (hb : -1000 ≤ b ∧ b ≤ 1000) (hc : -1000 ≤ c ∧ c ≤ 1000) (hd : -1000 ≤ d ∧ d ≤ 1000) (hp : -1000 ≤ p ∧ p ≤ 1000) (hq : -1000 ≤ q ∧ q ≤ 1000) (hr : -1000 ≤ r ∧ r ≤ 1000) (hs : -1000 ≤ s ∧ s ≤ 1000) :
    wrap64 (cA a b c d p r) = cA a b c d p r ∧ wrap64 (cB a b c d p q r s) = cB a b c d p q r s ∧ wrap64 (cC a b c d p q r s) = cC a b c d p q r s ∧ wrap64 (cA a b c d q s) = cA a b c d q s := by
  obtain ⟨h1, h2⟩ := cB_bd ha hb hc hd hp hq hr hs
  have h3 := vx_bd ha hb hc hd hp hr
  have h4 := vx_bd ha hb hc hd hq hs
  exact ⟨wr_in (by unfold cA; omega), wr_in (by omega), wr_in (by omega), wr_in (by unfold cA; omega)⟩

set_option maxRecDepth 100000 in
set_option maxHeartbeats 4000000 in
theorem sChange0_any (a b c d p q r s : Int) (w : World) :
    Calls Tryd.prog 135 #[.agg #[.int .i64 a, .int .i64 b, .int .i64 c, .int .i64 d], .agg #[.int .i64 p, .int .i64 q, .int .i64 r, .int .i64 s]] w fun e w' => e = .returned (.agg #[.int .i64 (wrap64 (cA a b c d p r)), .int .i64 (wrap64 (cB a b c d p q r s)), .int .i64 (wrap64 (cC a b c d p q r s)), .int .i64 (wrap64 (cA a b c d q s))]) ∧ Below w.heap.size w w' := by
  have A0 := ((Arr.new w a b c d 25).alloc (.cells #[.int .i64 p, .int .i64 q, .int .i64 r, .int .i64 s] 64)).alloc (.cells #[.int .i64 0, .int .i64 0, .int .i64 0, .int .i64 0] 25)
  have M0 := (Arr.new (w.alloc (.cells #[.int .i64 a, .int .i64 b, .int .i64 c, .int .i64 d] 25)) p q r s 64).alloc (.cells #[.int .i64 0, .int .i64 0, .int .i64 0, .int .i64 0] 25)
  have R0 := Arr.new ((w.alloc (.cells #[.int .i64 a, .int .i64 b, .int .i64 c, .int .i64 d] 25)).alloc (.cells #[.int .i64 p, .int .i64 q, .int .i64 r, .int .i64 s] 64)) 0 0 0 0 25
  have U0 := gr_alloc (gr_alloc (gr_alloc (Below.refl w.heap.size w) (.cells #[.int .i64 a, .int .i64 b, .int .i64 c, .int .i64 d] 25)) (.cells #[.int .i64 p, .int .i64 q, .int .i64 r, .int .i64 s] 64)) (.cells #[.int .i64 0, .int .i64 0, .int .i64 0, .int .i64 0] 25)
  simp only [World.size_alloc] at M0 R0
  go_enter Tryd.func135, Tryd.ntmps135
  go_upto_region 1 with fail
  generalize (((w.alloc (.cells #[.int .i64 a, .int .i64 b, .int .i64 c, .int .i64 d] 25)).alloc (.cells #[.int .i64 p, .int .i64 q, .int .i64 r, .int .i64 s] 64)).alloc (.cells #[.int .i64 0, .int .i64 0, .int .i64 0, .int .i64 0] 25)) = W0 at A0 M0 R0 U0 ⊢
  obtain ⟨_, m0, m1, m2, m3, _⟩ := id M0
  go_quiet (fail)
  have A1 := A0.drewN nq
  have R1 := R0.drewN nq
  have U1 := gr_drewN U0 nq
  clear m0 m1 m2 m3 A0 R0 U0 M0
  generalize W0.drewN nq = W1 at A1 R1 U1 ⊢
  obtain ⟨_, a0, a1, a2, a3, _⟩ := id A1
  obtain ⟨_, r0, r1, r2, r3, f0, f1, f2, f3⟩ := id R1
  go_upto_region 2 with fail
  go_region_held3 (fun W => W.cell? ⟨w.heap.size, 0, none⟩ = some (.int .i64 a) ∧ W.cell? ⟨w.heap.size, 1, none⟩ = some (.int .i64 b) ∧ W.cell? ⟨w.heap.size, 2, none⟩ = some (.int .i64 c) ∧ W.cell? ⟨w.heap.size, 3, none⟩ = some (.int .i64 d)) (go_keep) (fail)
  go_wp2_with fail
  refine bodyPost_ret (res_A1 (e := 2) rfl Tryd.underlying25 (by kernel_rfl) rfl (by (repeat (first | with_reducible assumption | with_reducible exact Arr.box (by assumption) | with_reducible apply Arr.drew | with_reducible apply Arr.drewN | with_reducible refine Arr.store4 ?_ | with_reducible apply Arr.alloc | with_reducible refine Box.drew ?_ | with_reducible refine Box.drewN ?_ _ | with_reducible refine Box.alloc ?_ _ | refine Arr.oth ?_ (by first | (simp; done) | omega | (simp; omega)) _ | refine Box.oth ?_ (by first | (simp; done) | omega | (simp; omega)) _)))) rfl ?_
  exact ⟨ret_F (by simp only [wr_al, wr_ar, wr_ml]; rfl) (by simp only [wr_al, wr_ar, wr_ml, wr_mr]; rfl) (by simp only [wr_al, wr_ar, wr_ml, wr_mr]; rfl) (by simp only [wr_al, wr_ar, wr_ml]; rfl), by (repeat' (first | with_reducible exact Below.refl _ _ | with_reducible assumption | with_reducible refine gr_alloc ?_ _ | with_reducible refine gr_drew ?_ | with_reducible refine gr_drewN ?_ _ | with_reducible refine gr_trans ?_ (by assumption) | with_reducible refine gr_set ?_ ?_ _ | (simp; done) | omega | (simp; omega)))⟩


end Go.Proofs.YtambbhldhhlfgaaDoor

/- Chapter 1: changed forms of the program and of the model, whole. -/
namespace Go.Proofs.YtambbhldhhlfgaaDoor
open Go.RowKit

/-- The code of a changed form. -/
def chc (a b c d p q r s : Int) : Int := if isF a b c d && isF p q r s then (if isF (cA a b c d p r) (cB a b c d p q r s) (cC a b c d p q r s) (cA a b c d q s) then 0 else 3) else 1

set_option maxHeartbeats 400000 in
theorem iLimit_any (a b c d : Int) (w : World) :
    Calls Tryd.prog 123 #[.agg #[.int .i64 a, .int .i64 b, .int .i64 c, .int .i64 d]] w fun e w' => e = .returned (.tuple #[.agg #[.int .i64 (ifF a b c d a), .int .i64 (ifF a b c d b), .int .i64 (ifF a b c d c), .int .i64 (ifF a b c d d)], .int .i64 ((if isF a b c d then 0 else 3))]) ∧ Below w.heap.size w w' := by
  go_enter Tryd.func123, Tryd.ntmps123
  go_wp2_with fail
  refine (iIsForm_any a b c d _).mono ?_
  rintro e w1 ⟨rfl, hb1⟩
  have A1 := ((Arr.new w a b c d 25).alloc (.cells #[.int .i64 0, .int .i64 0, .int .i64 0, .int .i64 0] 25)).next hb1
  have R1 := (Arr.new (w.alloc (.cells #[.int .i64 a, .int .i64 b, .int .i64 c, .int .i64 d] 25)) 0 0 0 0 25).next hb1
  simp only [World.size_alloc] at R1
  obtain ⟨_, c0, c1, c2, c3, _⟩ := id A1
  obtain ⟨_, r0, r1, r2, r3, f0, f1, f2, f3⟩ := id R1
  go_wp2
  all_goals (refine bodyPost_ret (res_A (e := 2) rfl Tryd.underlying25 (by kernel_rfl) rfl (by (repeat (first | with_reducible assumption | with_reducible exact Arr.box (by assumption) | with_reducible apply Arr.drew | with_reducible apply Arr.drewN | with_reducible refine Arr.store4 ?_ | with_reducible apply Arr.alloc | with_reducible refine Box.drew ?_ | with_reducible refine Box.drewN ?_ _ | with_reducible refine Box.alloc ?_ _ | refine Arr.oth ?_ (by first | (simp; done) | omega | (simp; omega)) _ | refine Box.oth ?_ (by first | (simp; done) | omega | (simp; omega)) _)))) rfl ?_; exact ⟨ret_form (by go_light; simp_all [ifF]) (by go_light; simp_all [ifF]) (by go_light; simp_all [ifF]) (by go_light; simp_all [ifF]) (by go_light; simp_all), by (repeat' (first | with_reducible exact Below.refl _ _ | with_reducible assumption | with_reducible refine gr_alloc ?_ _ | with_reducible refine gr_drew ?_ | with_reducible refine gr_drewN ?_ _ | with_reducible refine gr_trans ?_ (by assumption) | with_reducible refine gr_set ?_ ?_ _ | (simp; done) | omega | (simp; omega)))⟩)

set_option maxHeartbeats 400000 in
theorem sFits_any (a b c d : Int) (w : World) :
    Calls Tryd.prog 93 #[.agg #[.int .i64 a, .int .i64 b, .int .i64 c, .int .i64 d]] w fun e w' => e = .returned (.bool (isF a b c d)) ∧ Below w.heap.size w w' := by
  go_enter Tryd.func93, Tryd.ntmps93
  go_wp2_with fail
  refine (l01Is_any a b c d _).mono ?_
  rintro e w1 ⟨rfl, hb1⟩
  go_wp2
  go_ret
  exact ⟨rfl, by (repeat' (first | with_reducible exact Below.refl _ _ | with_reducible assumption | with_reducible refine gr_alloc ?_ _ | with_reducible refine gr_drew ?_ | with_reducible refine gr_drewN ?_ _ | with_reducible refine gr_trans ?_ (by assumption) | with_reducible refine gr_set ?_ ?_ _ | (simp; done) | omega | (simp; omega)))⟩

set_option maxHeartbeats 1000000 in
theorem sChange_any (a b c d p q r s : Int) (w : World) :
    Calls Tryd.prog 50 #[.agg #[.int .i64 a, .int .i64 b, .int .i64 c, .int .i64 d], .agg #[.int .i64 p, .int .i64 q, .int .i64 r, .int .i64 s]] w fun e w' => e = .returned (.tuple #[.agg #[.int .i64 (if0 (chc a b c d p q r s) (cA a b c d p r)), .int .i64 (if0 (chc a b c d p q r s) (cB a b c d p q r s)), .int .i64 (if0 (chc a b c d p q r s) (cC a b c d p q r s)), .int .i64 (if0 (chc a b c d p q r s) (cA a b c d q s))], .int .i64 (chc a b c d p q r s)]) ∧ Below w.heap.size w w' := by
  have A0 := ((Arr.new w a b c d 25).alloc (.cells #[.int .i64 p, .int .i64 q, .int .i64 r, .int .i64 s] 64)).alloc (.cells #[.int .i64 0, .int .i64 0, .int .i64 0, .int .i64 0] 25)
  have M0 := (Arr.new (w.alloc (.cells #[.int .i64 a, .int .i64 b, .int .i64 c, .int .i64 d] 25)) p q r s 64).alloc (.cells #[.int .i64 0, .int .i64 0, .int .i64 0, .int .i64 0] 25)
  have R0 := Arr.new ((w.alloc (.cells #[.int .i64 a, .int .i64 b, .int .i64 c, .int .i64 d] 25)).alloc (.cells #[.int .i64 p, .int .i64 q, .int .i64 r, .int .i64 s] 64)) 0 0 0 0 25
  have U0 := gr_alloc (gr_alloc (gr_alloc (Below.refl w.heap.size w) (.cells #[.int .i64 a, .int .i64 b, .int .i64 c, .int .i64 d] 25)) (.cells #[.int .i64 p, .int .i64 q, .int .i64 r, .int .i64 s] 64)) (.cells #[.int .i64 0, .int .i64 0, .int .i64 0, .int .i64 0] 25)
  simp only [World.size_alloc] at M0 R0
  go_enter Tryd.func50, Tryd.ntmps50
  go_wp2_with fail
  refine (l01Is_any a b c d _).mono ?_
  rintro e w1 ⟨rfl, hb1⟩
  have A1 := A0.next hb1
  have M1 := M0.next hb1
  have R1 := R0.next hb1
  have U1 := gr_trans U0 hb1
  clear A0 M0 R0 U0
  by_cases hf : isF a b c d = true
  · obtain ⟨ha, hb, hc, hd⟩ := isF_t hf
    obtain ⟨_, m0, m1, m2, m3, _⟩ := id M1
    go_wp2_with fail
    refine (sIsMatrix_any p q r s _).mono ?_
    rintro e w2 ⟨rfl, hb2⟩
    have A2 := A1.next hb2
    have M2 := M1.next hb2
    have R2 := R1.next hb2
    have U2 := gr_trans U1 hb2
    clear m0 m1 m2 m3 A1 M1 R1 U1
    by_cases hm : isF p q r s = true
    · obtain ⟨hp, hq, hr, hs⟩ := isF_t hm
      have HW := hid (ch_wr ha hb hc hd hp hq hr hs)
      clear ha hb hc hd hp hq hr hs
      have hc0 := sChange0_any a b c d p q r s w2
      rw [HW.out.1, HW.out.2.1, HW.out.2.2.1, HW.out.2.2.2] at hc0
      have HC := hid hc0
      clear hc0
      obtain ⟨_, a0, a1, a2, a3, _⟩ := id A2
      obtain ⟨_, m0, m1, m2, m3, _⟩ := id M2
      go_wp2_with fail
      refine HC.out.mono ?_
      rintro e w3 ⟨rfl, hb3⟩
      have R3 := R2.next hb3
      have U3 := gr_trans U2 hb3
      have X3 := Arr.new w3 (cA a b c d p r) (cB a b c d p q r s) (cC a b c d p q r s) (cA a b c d q s) 25
      have R4 := R3.alloc (.cells #[.int .i64 (cA a b c d p r), .int .i64 (cB a b c d p q r s), .int .i64 (cC a b c d p q r s), .int .i64 (cA a b c d q s)] 25)
      have U4 := gr_alloc U3 (.cells #[.int .i64 (cA a b c d p r), .int .i64 (cB a b c d p q r s), .int .i64 (cC a b c d p q r s), .int .i64 (cA a b c d q s)] 25)
      clear a0 a1 a2 a3 m0 m1 m2 m3 A2 M2 R2 U2 R3 U3
      go_wp2_with fail
      refine (sFits_any _ _ _ _ _).mono ?_
      rintro e w5 ⟨rfl, hb5⟩
      have R5 := R4.next hb5
      have X5 := X3.next hb5
      have U5 := gr_trans U4 hb5
      clear R4 X3 U4
      obtain ⟨_, x0, x1, x2, x3, _⟩ := id X5
      obtain ⟨_, r0, r1, r2, r3, f0, f1, f2, f3⟩ := id R5
      by_cases hg : isF (cA a b c d p r) (cB a b c d p q r s) (cC a b c d p q r s) (cA a b c d q s) = true
      · have k0 : chc a b c d p q r s = 0 := by simp [chc, hf, hm, hg]
        go_wp2
        refine bodyPost_ret (res_A (e := 2) rfl Tryd.underlying25 (by kernel_rfl) rfl (by (repeat (first | with_reducible assumption | with_reducible exact Arr.box (by assumption) | with_reducible apply Arr.drew | with_reducible apply Arr.drewN | with_reducible refine Arr.store4 ?_ | with_reducible apply Arr.alloc | with_reducible refine Box.drew ?_ | with_reducible refine Box.drewN ?_ _ | with_reducible refine Box.alloc ?_ _ | refine Arr.oth ?_ (by first | (simp; done) | omega | (simp; omega)) _ | refine Box.oth ?_ (by first | (simp; done) | omega | (simp; omega)) _)))) rfl ?_
        exact ⟨ret_form (by simp [if0, k0]) (by simp [if0, k0]) (by simp [if0, k0]) (by simp [if0, k0]) (by simp [k0]), by (repeat' (first | with_reducible exact Below.refl _ _ | with_reducible assumption | with_reducible refine gr_alloc ?_ _ | with_reducible refine gr_drew ?_ | with_reducible refine gr_drewN ?_ _ | with_reducible refine gr_trans ?_ (by assumption) | with_reducible refine gr_set ?_ ?_ _ | (simp; done) | omega | (simp; omega)))⟩
      · have hg' : isF (cA a b c d p r) (cB a b c d p q r s) (cC a b c d p q r s) (cA a b c d q s) = false := by simpa using hg
        have k0 : chc a b c d p q r s = 3 := by simp [chc, hf, hm, hg']
        clear hg
        go_wp2
        refine bodyPost_ret (res_A (e := 2) rfl Tryd.underlying25 (by kernel_rfl) rfl (by (repeat (first | with_reducible assumption | with_reducible exact Arr.box (by assumption) | with_reducible apply Arr.drew | with_reducible apply Arr.drewN | with_reducible refine Arr.store4 ?_ | with_reducible apply Arr.alloc | with_reducible refine Box.drew ?_ | with_reducible refine Box.drewN ?_ _ | with_reducible refine Box.alloc ?_ _ | refine Arr.oth ?_ (by first | (simp; done) | omega | (simp; omega)) _ | refine Box.oth ?_ (by first | (simp; done) | omega | (simp; omega)) _)))) rfl ?_
        exact ⟨ret_form (by simp [if0, k0]) (by simp [if0, k0]) (by simp [if0, k0]) (by simp [if0, k0]) (by simp [k0]), by (repeat' (first | with_reducible exact Below.refl _ _ | with_reducible assumption | with_reducible refine gr_alloc ?_ _ | with_reducible refine gr_drew ?_ | with_reducible refine gr_drewN ?_ _ | with_reducible refine gr_trans ?_ (by assumption) | with_reducible refine gr_set ?_ ?_ _ | (simp; done) | omega | (simp; omega)))⟩
    · have hm' : isF p q r s = false := by simpa using hm
      clear hm
      obtain ⟨_, r0, r1, r2, r3, f0, f1, f2, f3⟩ := id R2
      go_wp2
      refine bodyPost_ret (res_A (e := 2) rfl Tryd.underlying25 (by kernel_rfl) rfl (by (repeat (first | with_reducible assumption | with_reducible exact Arr.box (by assumption) | with_reducible apply Arr.drew | with_reducible apply Arr.drewN | with_reducible refine Arr.store4 ?_ | with_reducible apply Arr.alloc | with_reducible refine Box.drew ?_ | with_reducible refine Box.drewN ?_ _ | with_reducible refine Box.alloc ?_ _ | refine Arr.oth ?_ (by first | (simp; done) | omega | (simp; omega)) _ | refine Box.oth ?_ (by first | (simp; done) | omega | (simp; omega)) _)))) rfl ?_
      have k0 : chc a b c d p q r s = 1 := by simp [chc, hm']
      exact ⟨ret_form (by simp [if0, k0]) (by simp [if0, k0]) (by simp [if0, k0]) (by simp [if0, k0]) (by simp [k0]), by (repeat' (first | with_reducible exact Below.refl _ _ | with_reducible assumption | with_reducible refine gr_alloc ?_ _ | with_reducible refine gr_drew ?_ | with_reducible refine gr_drewN ?_ _ | with_reducible refine gr_trans ?_ (by assumption) | with_reducible refine gr_set ?_ ?_ _ | (simp; done) | omega | (simp; omega)))⟩
  · have hf' : isF a b c d = false := by simpa using hf
    clear hf
    obtain ⟨_, r0, r1, r2, r3, f0, f1, f2, f3⟩ := id R1
    go_wp2
    refine bodyPost_ret (res_A (e := 2) rfl Tryd.underlying25 (by kernel_rfl) rfl (by (repeat (first | with_reducible assumption | with_reducible exact Arr.box (by assumption) | with_reducible apply Arr.drew | with_reducible apply Arr.drewN | with_reducible refine Arr.store4 ?_ | with_reducible apply Arr.alloc | with_reducible refine Box.drew ?_ | with_reducible refine Box.drewN ?_ _ | with_reducible refine Box.alloc ?_ _ | refine Arr.oth ?_ (by first | (simp; done) | omega | (simp; omega)) _ | refine Box.oth ?_ (by first | (simp; done) | omega | (simp; omega)) _)))) rfl ?_
    have k0 : chc a b c d p q r s = 1 := by simp [chc, hf']
    exact ⟨ret_form (by simp [if0, k0]) (by simp [if0, k0]) (by simp [if0, k0]) (by simp [if0, k0]) (by simp [k0]), by (repeat' (first | with_reducible exact Below.refl _ _ | with_reducible assumption | with_reducible refine gr_alloc ?_ _ | with_reducible refine gr_drew ?_ | with_reducible refine gr_drewN ?_ _ | with_reducible refine gr_trans ?_ (by assumption) | with_reducible refine gr_set ?_ ?_ _ | (simp; done) | omega | (simp; omega)))⟩

set_option maxHeartbeats 1000000 in
theorem iChangeForm_any (a b c d p q r s : Int) (w : World) :
    Calls Tryd.prog 49 #[.agg #[.int .i64 a, .int .i64 b, .int .i64 c, .int .i64 d], .agg #[.int .i64 p, .int .i64 q, .int .i64 r, .int .i64 s]] w fun e w' => e = .returned (.tuple #[.agg #[.int .i64 (if0 (chc a b c d p q r s) (cA a b c d p r)), .int .i64 (if0 (chc a b c d p q r s) (cB a b c d p q r s)), .int .i64 (if0 (chc a b c d p q r s) (cC a b c d p q r s)), .int .i64 (if0 (chc a b c d p q r s) (cA a b c d q s))], .int .i64 (chc a b c d p q r s)]) ∧ Below w.heap.size w w' := by
  have A0 := ((Arr.new w a b c d 25).alloc (.cells #[.int .i64 p, .int .i64 q, .int .i64 r, .int .i64 s] 64)).alloc (.cells #[.int .i64 0, .int .i64 0, .int .i64 0, .int .i64 0] 25)
  have M0 := (Arr.new (w.alloc (.cells #[.int .i64 a, .int .i64 b, .int .i64 c, .int .i64 d] 25)) p q r s 64).alloc (.cells #[.int .i64 0, .int .i64 0, .int .i64 0, .int .i64 0] 25)
  have R0 := Arr.new ((w.alloc (.cells #[.int .i64 a, .int .i64 b, .int .i64 c, .int .i64 d] 25)).alloc (.cells #[.int .i64 p, .int .i64 q, .int .i64 r, .int .i64 s] 64)) 0 0 0 0 25
  have U0 := gr_alloc (gr_alloc (gr_alloc (Below.refl w.heap.size w) (.cells #[.int .i64 a, .int .i64 b, .int .i64 c, .int .i64 d] 25)) (.cells #[.int .i64 p, .int .i64 q, .int .i64 r, .int .i64 s] 64)) (.cells #[.int .i64 0, .int .i64 0, .int .i64 0, .int .i64 0] 25)
  simp only [World.size_alloc] at M0 R0
  go_enter Tryd.func49, Tryd.ntmps49
  go_wp2_with fail
  refine (iIsForm_any a b c d _).mono ?_
  rintro e w1 ⟨rfl, hb1⟩
  have A1 := A0.next hb1
  have M1 := M0.next hb1
  have R1 := R0.next hb1
  have U1 := gr_trans U0 hb1
  clear A0 M0 R0 U0
  by_cases hf : isF a b c d = true
  · obtain ⟨ha, hb, hc, hd⟩ := isF_t hf
    obtain ⟨_, m0, m1, m2, m3, _⟩ := id M1
    go_wp2_with fail
    refine (iIsMatrix_any p q r s _).mono ?_
    rintro e w2 ⟨rfl, hb2⟩
    have A2 := A1.next hb2
    have M2 := M1.next hb2
    have R2 := R1.next hb2
    have U2 := gr_trans U1 hb2
    clear m0 m1 m2 m3 A1 M1 R1 U1
    by_cases hm : isF p q r s = true
    · obtain ⟨hp, hq, hr, hs⟩ := isF_t hm
      have HC := hid (iChange_any a b c d p q r s 1000 1000 w2 ha hb hc hd hp hq hr hs (by decide) (by decide))
      clear ha hb hc hd hp hq hr hs
      obtain ⟨_, a0, a1, a2, a3, _⟩ := id A2
      obtain ⟨_, m0, m1, m2, m3, _⟩ := id M2
      go_wp2_with fail
      refine HC.out.mono ?_
      rintro e w3 ⟨rfl, hb3⟩
      have R3 := R2.next hb3
      have U3 := gr_trans U2 hb3
      clear a0 a1 a2 a3 m0 m1 m2 m3 A2 M2 R2 U2
      go_wp2_with fail
      refine (iLimit_any _ _ _ _ _).mono ?_
      rintro e w5 ⟨rfl, hb5⟩
      have R5 := R3.next hb5
      have U5 := gr_trans U3 hb5
      clear R3 U3
      obtain ⟨_, r0, r1, r2, r3, f0, f1, f2, f3⟩ := id R5
      by_cases hg : isF (cA a b c d p r) (cB a b c d p q r s) (cC a b c d p q r s) (cA a b c d q s) = true
      · have k0 : chc a b c d p q r s = 0 := by simp [chc, hf, hm, hg]
        go_wp2
        refine bodyPost_ret (res_A (e := 2) rfl Tryd.underlying25 (by kernel_rfl) rfl (by (repeat (first | with_reducible assumption | with_reducible exact Arr.box (by assumption) | with_reducible apply Arr.drew | with_reducible apply Arr.drewN | with_reducible refine Arr.store4 ?_ | with_reducible apply Arr.alloc | with_reducible refine Box.drew ?_ | with_reducible refine Box.drewN ?_ _ | with_reducible refine Box.alloc ?_ _ | refine Arr.oth ?_ (by first | (simp; done) | omega | (simp; omega)) _ | refine Box.oth ?_ (by first | (simp; done) | omega | (simp; omega)) _)))) rfl ?_
        exact ⟨ret_form (by simp [ifF, hg, if0, k0]) (by simp [ifF, hg, if0, k0]) (by simp [ifF, hg, if0, k0]) (by simp [ifF, hg, if0, k0]) (by simp [k0]), by (repeat' (first | with_reducible exact Below.refl _ _ | with_reducible assumption | with_reducible refine gr_alloc ?_ _ | with_reducible refine gr_drew ?_ | with_reducible refine gr_drewN ?_ _ | with_reducible refine gr_trans ?_ (by assumption) | with_reducible refine gr_set ?_ ?_ _ | (simp; done) | omega | (simp; omega)))⟩
      · have hg' : isF (cA a b c d p r) (cB a b c d p q r s) (cC a b c d p q r s) (cA a b c d q s) = false := by simpa using hg
        have k0 : chc a b c d p q r s = 3 := by simp [chc, hf, hm, hg']
        clear hg
        go_wp2
        refine bodyPost_ret (res_A (e := 2) rfl Tryd.underlying25 (by kernel_rfl) rfl (by (repeat (first | with_reducible assumption | with_reducible exact Arr.box (by assumption) | with_reducible apply Arr.drew | with_reducible apply Arr.drewN | with_reducible refine Arr.store4 ?_ | with_reducible apply Arr.alloc | with_reducible refine Box.drew ?_ | with_reducible refine Box.drewN ?_ _ | with_reducible refine Box.alloc ?_ _ | refine Arr.oth ?_ (by first | (simp; done) | omega | (simp; omega)) _ | refine Box.oth ?_ (by first | (simp; done) | omega | (simp; omega)) _)))) rfl ?_
        exact ⟨ret_form (by simp [ifF, hg', if0, k0]) (by simp [ifF, hg', if0, k0]) (by simp [ifF, hg', if0, k0]) (by simp [ifF, hg', if0, k0]) (by simp [k0]), by (repeat' (first | with_reducible exact Below.refl _ _ | with_reducible assumption | with_reducible refine gr_alloc ?_ _ | with_reducible refine gr_drew ?_ | with_reducible refine gr_drewN ?_ _ | with_reducible refine gr_trans ?_ (by assumption) | with_reducible refine gr_set ?_ ?_ _ | (simp; done) | omega | (simp; omega)))⟩
    · have hm' : isF p q r s = false := by simpa using hm
      clear hm
      obtain ⟨_, r0, r1, r2, r3, f0, f1, f2, f3⟩ := id R2
      go_wp2
      refine bodyPost_ret (res_A (e := 2) rfl Tryd.underlying25 (by kernel_rfl) rfl (by (repeat (first | with_reducible assumption | with_reducible exact Arr.box (by assumption) | with_reducible apply Arr.drew | with_reducible apply Arr.drewN | with_reducible refine Arr.store4 ?_ | with_reducible apply Arr.alloc | with_reducible refine Box.drew ?_ | with_reducible refine Box.drewN ?_ _ | with_reducible refine Box.alloc ?_ _ | refine Arr.oth ?_ (by first | (simp; done) | omega | (simp; omega)) _ | refine Box.oth ?_ (by first | (simp; done) | omega | (simp; omega)) _)))) rfl ?_
      have k0 : chc a b c d p q r s = 1 := by simp [chc, hm']
      exact ⟨ret_form (by simp [if0, k0]) (by simp [if0, k0]) (by simp [if0, k0]) (by simp [if0, k0]) (by simp [k0]), by (repeat' (first | with_reducible exact Below.refl _ _ | with_reducible assumption | with_reducible refine gr_alloc ?_ _ | with_reducible refine gr_drew ?_ | with_reducible refine gr_drewN ?_ _ | with_reducible refine gr_trans ?_ (by assumption) | with_reducible refine gr_set ?_ ?_ _ | (simp; done) | omega | (simp; omega)))⟩
  · have hf' : isF a b c d = false := by simpa using hf
    clear hf
    obtain ⟨_, r0, r1, r2, r3, f0, f1, f2, f3⟩ := id R1
    go_wp2
    refine bodyPost_ret (res_A (e := 2) rfl Tryd.underlying25 (by kernel_rfl) rfl (by (repeat (first | with_reducible assumption | with_reducible exact Arr.box (by assumption) | with_reducible apply Arr.drew | with_reducible apply Arr.drewN | with_reducible refine Arr.store4 ?_ | with_reducible apply Arr.alloc | with_reducible refine Box.drew ?_ | with_reducible refine Box.drewN ?_ _ | with_reducible refine Box.alloc ?_ _ | refine Arr.oth ?_ (by first | (simp; done) | omega | (simp; omega)) _ | refine Box.oth ?_ (by first | (simp; done) | omega | (simp; omega)) _)))) rfl ?_
    have k0 : chc a b c d p q r s = 1 := by simp [chc, hf']
    exact ⟨ret_form (by simp [if0, k0]) (by simp [if0, k0]) (by simp [if0, k0]) (by simp [if0, k0]) (by simp [k0]), by (repeat' (first | with_reducible exact Below.refl _ _ | with_reducible assumption | with_reducible refine gr_alloc ?_ _ | with_reducible refine gr_drew ?_ | with_reducible refine gr_drewN ?_ _ | with_reducible refine gr_trans ?_ (by assumption) | with_reducible refine gr_set ?_ ?_ _ | (simp; done) | omega | (simp; omega)))⟩

end Go.Proofs.YtambbhldhhlfgaaDoor

/- Chapter 6: the program's steps: raised and lowered forms at a point. -/
namespace Go.Proofs.YtambbhldhhlfgaaDoor
open Go.RowKit

/-- What a step answers. -/
def StP (ok : Bool) (x y z u : Int) (w : World) (e : Ending) (w' : World) : Prop := e = .returned (.tuple #[.agg #[.int .i64 (ifB ok x), .int .i64 (ifB ok y), .int .i64 (ifB ok z), .int .i64 (ifB ok u)], .bool ok]) ∧ Below w.heap.size w w'

set_option maxRecDepth 100000 in
set_option maxHeartbeats 4000000 in
theorem raisedAt_any (a b c d p r : Int) (w : World) (ha : -1000 ≤ a ∧ a ≤ 1000) (hb : -1000 ≤ b ∧ b ≤ 1000) (hc : -1000 ≤ c ∧ c ≤ 1000) (hd : -1000 ≤ d ∧ d ≤ 1000) (h2 : 2 ≤ p) (h97 : p ≤ 97) (h0 : 0 ≤ r) (hr : r ≤ p) :
    Calls Tryd.prog 75 #[.agg #[.int .i64 a, .int .i64 b, .int .i64 c, .int .i64 d], .int .i64 p, .int .i64 r] w (StP (rOk a b c d p r) (raA a b c d p r) (raB a b c d p r) (raC a b c d p r) (raD a b c d p r) w) := by
  obtain ⟨bA, bB, bC, bD⟩ := tu_bd (p := p) ha hb hc hd h0 (by omega)
  have k1 : r = p → tuA a b c d p r = a ∧ tuB a b c d p r = b ∧ tuC a b c d p r = c ∧ tuD a b c d p r = d := fun h => by simp [tuA, tuB, tuC, tuD, h]
  have k2 : r ≠ p → ∀ W, Calls Tryd.prog 132 #[.agg #[.int .i64 a, .int .i64 b, .int .i64 c, .int .i64 d], .agg #[.int .i64 r, .int .i64 (-1), .int .i64 1, .int .i64 0]] W fun e w' => e = .returned (.agg #[.int .i64 (tuA a b c d p r), .int .i64 (tuB a b c d p r), .int .i64 (tuC a b c d p r), .int .i64 (tuD a b c d p r)]) ∧ Below W.heap.size W w' := fun h W => by
    have hs := iChange_any a b c d r (-1) 1 0 1000 97 W ha hb hc hd (by omega) (by omega) (by omega) (by omega) (by omega) (by omega)
    rwa [show cA a b c d r 1 = tuA a b c d p r by simp [tuA, h], show cB a b c d r (-1) 1 0 = tuB a b c d p r by simp [tuB, h], show cC a b c d r (-1) 1 0 = tuC a b c d p r by simp [tuC, h], show cA a b c d (-1) 0 = tuD a b c d p r by simp [tuD, h]] at hs
  have hOk : rOk a b c d p r = (mul0 (tuA a b c d p r) (p * p) && mul0 (tuB a b c d p r) p) := rfl
  unfold raA raB raC raD
  generalize rOk a b c d p r = ok at hOk ⊢
  generalize tuA a b c d p r = x at *
  generalize tuB a b c d p r = y at *
  generalize tuC a b c d p r = z at *
  generalize tuD a b c d p r = u at *
  have K1 := hid k1; have K2 := hid k2
  clear k1 k2 ha hb hc hd
  obtain ⟨dx1, dx2⟩ := td_bd (m := p * p) bA
  obtain ⟨dy1, dy2⟩ := td_bd (m := p) bB
  obtain ⟨pu1, pu2⟩ := px_bd h2 h97 bD
  obtain ⟨pp1, pp2⟩ := pp_bd h2 h97
  have hz1 : (p * p == 0) = false := by simp; omega
  have hz3 : ¬ p * p = 0 := by omega
  have hz4 : ¬ p = 0 := by omega
  have hz2 : (p == 0) = false := by simp; omega
  have A0 := (Arr.new w a b c d 25).alloc (.cells #[.int .i64 0, .int .i64 0, .int .i64 0, .int .i64 0] 25)
  have R0 := Arr.new (w.alloc (.cells #[.int .i64 a, .int .i64 b, .int .i64 c, .int .i64 d] 25)) 0 0 0 0 25
  have U0 := gr_alloc (gr_alloc (Below.refl w.heap.size w) (.cells #[.int .i64 a, .int .i64 b, .int .i64 c, .int .i64 d] 25)) (.cells #[.int .i64 0, .int .i64 0, .int .i64 0, .int .i64 0] 25)
  simp only [World.size_alloc] at R0
  have HO := hid hOk
  clear hOk
  go_enter Tryd.func75, Tryd.ntmps75
  go_upto_if 16 with (fail)
  go_cut [8] (fun s8 wx => ∃ k : Nat, s8 = .pointer (some ⟨k, 0, none⟩) ∧ w.heap.size + 1 < k ∧ Arr wx k x y z u ∧ Arr wx (w.heap.size + 1) 0 0 0 0 ∧ Below w.heap.size w wx)
  case first =>
    by_cases h : r < p
    · have HC := hid (K2.out (by omega))
      go_wp2_with fail
      refine (HC.out _).mono ?_
      rintro e w1 ⟨rfl, hb1⟩
      have T1 := (Arr.new ((w.alloc (.cells #[.int .i64 a, .int .i64 b, .int .i64 c, .int .i64 d] 25)).alloc (.cells #[.int .i64 0, .int .i64 0, .int .i64 0, .int .i64 0] 25)) a b c d 25).next hb1
      have R1 := (R0.alloc (.cells #[.int .i64 a, .int .i64 b, .int .i64 c, .int .i64 d] 25)).next hb1
      have U1 := gr_trans (gr_alloc U0 (.cells #[.int .i64 a, .int .i64 b, .int .i64 c, .int .i64 d] 25)) hb1
      simp only [World.size_alloc] at T1
      obtain ⟨_, t0, t1, t2, t3, g0, g1, g2, g3⟩ := id T1
      have T2 := (((T1.set0 x).set1 y).set2 z).set3 u
      go_wp2_with fail
      go_meet
      exact ⟨_, rfl, by omega, T2, by (repeat (first | with_reducible assumption | with_reducible exact Arr.box (by assumption) | with_reducible apply Arr.drew | with_reducible apply Arr.drewN | with_reducible refine Arr.store4 ?_ | with_reducible apply Arr.alloc | with_reducible refine Box.drew ?_ | with_reducible refine Box.drewN ?_ _ | with_reducible refine Box.alloc ?_ _ | refine Arr.oth ?_ (by first | (simp; done) | omega | (simp; omega)) _ | refine Box.oth ?_ (by first | (simp; done) | omega | (simp; omega)) _)), by (repeat' (first | with_reducible exact Below.refl _ _ | with_reducible assumption | with_reducible refine gr_alloc ?_ _ | with_reducible refine gr_drew ?_ | with_reducible refine gr_drewN ?_ _ | with_reducible refine gr_trans ?_ (by assumption) | with_reducible refine gr_set ?_ ?_ _ | (simp; done) | omega | (simp; omega)))⟩
    · obtain ⟨rfl, rfl, rfl, rfl⟩ := K1.out (by omega)
      have T0 := Arr.new ((w.alloc (.cells #[.int .i64 x, .int .i64 y, .int .i64 z, .int .i64 u] 25)).alloc (.cells #[.int .i64 0, .int .i64 0, .int .i64 0, .int .i64 0] 25)) x y z u 25
      simp only [World.size_alloc] at T0
      go_wp2_with fail
      go_meet
      exact ⟨_, rfl, by omega, T0, R0.alloc _, by (repeat' (first | with_reducible exact Below.refl _ _ | with_reducible assumption | with_reducible refine gr_alloc ?_ _ | with_reducible refine gr_drew ?_ | with_reducible refine gr_drewN ?_ _ | with_reducible refine gr_trans ?_ (by assumption) | with_reducible refine gr_set ?_ ?_ _ | (simp; done) | omega | (simp; omega)))⟩
  case rest =>
    obtain ⟨k, rfl, hk, hT, hR, hU⟩ := hcut
    have hTl := hT.lt
    obtain ⟨_, t0, t1, t2, t3, _⟩ := id hT
    go_wp2_with fail
    go_quiet (fail)
    have R1 := hR.drewN nq
    have U1 := gr_drewN hU nq
    clear t0 t1 t2 t3 hT hR hU A0 R0 U0
    generalize wc.drewN nq = W1 at R1 U1 ⊢
    obtain ⟨_, r0, r1, r2, r3, f0, f1, f2, f3⟩ := id R1
    cases hx : mul0 x (p * p) with
    | false =>
      have HK := hid (show ok = false by rw [HO.out]; simp [hx])
      go_wp2_with (go_at_call 85; refine (isMultiple_any _ _ _ (by omega) (by omega)).mono ?_; rintro e w' ⟨rfl, rfl⟩)
      refine bodyPost_ret (res_A (e := 2) rfl Tryd.underlying25 (by kernel_rfl) rfl (by (repeat (first | with_reducible assumption | with_reducible exact Arr.box (by assumption) | with_reducible apply Arr.drew | with_reducible apply Arr.drewN | with_reducible refine Arr.store4 ?_ | with_reducible apply Arr.alloc | with_reducible refine Box.drew ?_ | with_reducible refine Box.drewN ?_ _ | with_reducible refine Box.alloc ?_ _ | refine Arr.oth ?_ (by first | (simp; done) | omega | (simp; omega)) _ | refine Box.oth ?_ (by first | (simp; done) | omega | (simp; omega)) _)))) rfl ?_
      rw [HK.out]
      exact ⟨rfl, by (repeat' (first | with_reducible exact Below.refl _ _ | with_reducible assumption | with_reducible refine gr_alloc ?_ _ | with_reducible refine gr_drew ?_ | with_reducible refine gr_drewN ?_ _ | with_reducible refine gr_trans ?_ (by assumption) | with_reducible refine gr_set ?_ ?_ _ | (simp; done) | omega | (simp; omega)))⟩
    | true =>
      cases hy : mul0 y p with
      | false =>
        have HK := hid (show ok = false by rw [HO.out]; simp [hy])
        go_wp2_with (go_at_call 85; refine (isMultiple_any _ _ _ (by omega) (by omega)).mono ?_; rintro e w' ⟨rfl, rfl⟩)
        refine bodyPost_ret (res_A (e := 2) rfl Tryd.underlying25 (by kernel_rfl) rfl (by (repeat (first | with_reducible assumption | with_reducible exact Arr.box (by assumption) | with_reducible apply Arr.drew | with_reducible apply Arr.drewN | with_reducible refine Arr.store4 ?_ | with_reducible apply Arr.alloc | with_reducible refine Box.drew ?_ | with_reducible refine Box.drewN ?_ _ | with_reducible refine Box.alloc ?_ _ | refine Arr.oth ?_ (by first | (simp; done) | omega | (simp; omega)) _ | refine Box.oth ?_ (by first | (simp; done) | omega | (simp; omega)) _)))) rfl ?_
        rw [HK.out]
        exact ⟨rfl, by (repeat' (first | with_reducible exact Below.refl _ _ | with_reducible assumption | with_reducible refine gr_alloc ?_ _ | with_reducible refine gr_drew ?_ | with_reducible refine gr_drewN ?_ _ | with_reducible refine gr_trans ?_ (by assumption) | with_reducible refine gr_set ?_ ?_ _ | (simp; done) | omega | (simp; omega)))⟩
      | true =>
        have HK := hid (show ok = true by rw [HO.out]; simp [hx, hy])
        go_wp2_with (go_at_call 85; refine (isMultiple_any _ _ _ (by omega) (by omega)).mono ?_; rintro e w' ⟨rfl, rfl⟩)
        have hwp : IntKind.i64.wrap (p * p) = p * p := i64w (by omega)
        have hwu : IntKind.i64.wrap (p * u) = p * u := i64w (by omega)
        have hwx : IntKind.i64.wrap (x.tdiv (p * p)) = x.tdiv (p * p) := i64w (by omega)
        have hwy : IntKind.i64.wrap (y.tdiv p) = y.tdiv p := i64w (by omega)
        go_still_tail 13, (by kernel_rfl)
        go_wp2_with fail
        refine bodyPost_ret (res_A (e := 2) rfl Tryd.underlying25 (by kernel_rfl) rfl (by (repeat (first | with_reducible assumption | with_reducible exact Arr.box (by assumption) | with_reducible apply Arr.drew | with_reducible apply Arr.drewN | with_reducible refine Arr.store4 ?_ | with_reducible apply Arr.alloc | with_reducible refine Box.drew ?_ | with_reducible refine Box.drewN ?_ _ | with_reducible refine Box.alloc ?_ _ | refine Arr.oth ?_ (by first | (simp; done) | omega | (simp; omega)) _ | refine Box.oth ?_ (by first | (simp; done) | omega | (simp; omega)) _)))) rfl ?_
        rw [HK.out]
        exact ⟨rfl, by (repeat' (first | with_reducible exact Below.refl _ _ | with_reducible assumption | with_reducible refine gr_alloc ?_ _ | with_reducible refine gr_drew ?_ | with_reducible refine gr_drewN ?_ _ | with_reducible refine gr_trans ?_ (by assumption) | with_reducible refine gr_set ?_ ?_ _ | (simp; done) | omega | (simp; omega)))⟩

set_option maxRecDepth 100000 in
set_option maxHeartbeats 4000000 in
theorem loweredAt_any (a b c d p r : Int) (w : World) (ha : -1000 ≤ a ∧ a ≤ 1000) (hb : -1000 ≤ b ∧ b ≤ 1000) (hc : -1000 ≤ c ∧ c ≤ 1000) (hd : -1000 ≤ d ∧ d ≤ 1000) (h2 : 2 ≤ p) (h97 : p ≤ 97) (h0 : 0 ≤ r) (hr : r ≤ p) :
    Calls Tryd.prog 80 #[.agg #[.int .i64 a, .int .i64 b, .int .i64 c, .int .i64 d], .int .i64 p, .int .i64 r] w (StP (lOk a b c d p r) (loA a b c d p r) (loB a b c d p r) (loC a b c d p r) (loD a b c d p r) w) := by
  obtain ⟨bA, bB, bC, bD⟩ := tl_bd (p := p) ha hb hc hd h0 (by omega)
  have k1 : r = p → ∀ W, Calls Tryd.prog 132 #[.agg #[.int .i64 a, .int .i64 b, .int .i64 c, .int .i64 d], .agg #[.int .i64 0, .int .i64 1, .int .i64 (-1), .int .i64 0]] W fun e w' => e = .returned (.agg #[.int .i64 (tlA a b c d p r), .int .i64 (tlB a b c d p r), .int .i64 (tlC a b c d p r), .int .i64 (tlD a b c d p r)]) ∧ Below W.heap.size W w' := fun h W => by
    have hs := iChange_any a b c d 0 1 (-1) 0 1000 97 W ha hb hc hd (by omega) (by omega) (by omega) (by omega) (by omega) (by omega)
    rwa [show cA a b c d 0 (-1) = tlA a b c d p r by simp [tlA, h], show cB a b c d 0 1 (-1) 0 = tlB a b c d p r by simp [tlB, h], show cC a b c d 0 1 (-1) 0 = tlC a b c d p r by simp [tlC, h], show cA a b c d 1 0 = tlD a b c d p r by simp [tlD, h]] at hs
  have k2 : r ≠ p → ∀ W, Calls Tryd.prog 132 #[.agg #[.int .i64 a, .int .i64 b, .int .i64 c, .int .i64 d], .agg #[.int .i64 1, .int .i64 r, .int .i64 0, .int .i64 1]] W fun e w' => e = .returned (.agg #[.int .i64 (tlA a b c d p r), .int .i64 (tlB a b c d p r), .int .i64 (tlC a b c d p r), .int .i64 (tlD a b c d p r)]) ∧ Below W.heap.size W w' := fun h W => by
    have hs := iChange_any a b c d 1 r 0 1 1000 97 W ha hb hc hd (by omega) (by omega) (by omega) (by omega) (by omega) (by omega)
    rwa [show cA a b c d 1 0 = tlA a b c d p r by simp [tlA, h], show cB a b c d 1 r 0 1 = tlB a b c d p r by simp [tlB, h], show cC a b c d 1 r 0 1 = tlC a b c d p r by simp [tlC, h], show cA a b c d r 1 = tlD a b c d p r by simp [tlD, h]] at hs
  have hOk : lOk a b c d p r = mul0 (tlD a b c d p r) p := rfl
  unfold loA loB loC loD
  generalize lOk a b c d p r = ok at hOk ⊢
  generalize tlA a b c d p r = x at *
  generalize tlB a b c d p r = y at *
  generalize tlC a b c d p r = z at *
  generalize tlD a b c d p r = u at *
  have K1 := hid k1; have K2 := hid k2
  clear k1 k2 ha hb hc hd
  obtain ⟨dy1, dy2⟩ := td_bd (m := p) bD
  obtain ⟨pu1, pu2⟩ := px_bd h2 h97 bB
  obtain ⟨px1, px2⟩ := ppx_bd h2 h97 bA
  obtain ⟨pp1, pp2⟩ := pp_bd h2 h97
  have hz2 : (p == 0) = false := by simp; omega
  have A0 := (Arr.new w a b c d 25).alloc (.cells #[.int .i64 0, .int .i64 0, .int .i64 0, .int .i64 0] 25)
  have R0 := Arr.new (w.alloc (.cells #[.int .i64 a, .int .i64 b, .int .i64 c, .int .i64 d] 25)) 0 0 0 0 25
  have U0 := gr_alloc (gr_alloc (Below.refl w.heap.size w) (.cells #[.int .i64 a, .int .i64 b, .int .i64 c, .int .i64 d] 25)) (.cells #[.int .i64 0, .int .i64 0, .int .i64 0, .int .i64 0] 25)
  simp only [World.size_alloc] at R0
  have HO := hid hOk
  clear hOk
  go_enter Tryd.func80, Tryd.ntmps80
  go_upto_if 17 with (fail)
  go_cut [8] (fun s8 wx => ∃ m0 m1 m2 m3 : Int, s8 = .pointer (some ⟨w.heap.size + 2, 0, none⟩) ∧ Arr wx (w.heap.size + 2) m0 m1 m2 m3 ∧ Hid (∀ W, Calls Tryd.prog 132 #[.agg #[.int .i64 a, .int .i64 b, .int .i64 c, .int .i64 d], .agg #[.int .i64 m0, .int .i64 m1, .int .i64 m2, .int .i64 m3]] W fun e w' => e = .returned (.agg #[.int .i64 x, .int .i64 y, .int .i64 z, .int .i64 u]) ∧ Below W.heap.size W w') ∧ Arr wx w.heap.size a b c d ∧ Arr wx (w.heap.size + 1) 0 0 0 0 ∧ Below w.heap.size w wx)
  case first =>
    by_cases h : r < p
    · have HC := hid (K2.out (by omega))
      have M0 := Arr.new ((w.alloc (.cells #[.int .i64 a, .int .i64 b, .int .i64 c, .int .i64 d] 25)).alloc (.cells #[.int .i64 0, .int .i64 0, .int .i64 0, .int .i64 0] 25)) 1 r 0 1 64
      simp only [World.size_alloc] at M0
      go_wp2_with fail
      go_meet
      exact ⟨_, _, _, _, rfl, M0, HC, A0.alloc _, R0.alloc _, by (repeat' (first | with_reducible exact Below.refl _ _ | with_reducible assumption | with_reducible refine gr_alloc ?_ _ | with_reducible refine gr_drew ?_ | with_reducible refine gr_drewN ?_ _ | with_reducible refine gr_trans ?_ (by assumption) | with_reducible refine gr_set ?_ ?_ _ | (simp; done) | omega | (simp; omega)))⟩
    · have HC := hid (K1.out (by omega))
      have M0 := Arr.new ((w.alloc (.cells #[.int .i64 a, .int .i64 b, .int .i64 c, .int .i64 d] 25)).alloc (.cells #[.int .i64 0, .int .i64 0, .int .i64 0, .int .i64 0] 25)) 0 1 (-1) 0 64
      simp only [World.size_alloc] at M0
      go_wp2_with fail
      go_meet
      exact ⟨_, _, _, _, rfl, M0, HC, A0.alloc _, R0.alloc _, by (repeat' (first | with_reducible exact Below.refl _ _ | with_reducible assumption | with_reducible refine gr_alloc ?_ _ | with_reducible refine gr_drew ?_ | with_reducible refine gr_drewN ?_ _ | with_reducible refine gr_trans ?_ (by assumption) | with_reducible refine gr_set ?_ ?_ _ | (simp; done) | omega | (simp; omega)))⟩
  case rest =>
    obtain ⟨m0, m1, m2, m3, rfl, hM, HC, hA, hR, hU⟩ := hcut
    obtain ⟨_, a0, a1, a2, a3, _⟩ := id hA
    obtain ⟨_, q0, q1, q2, q3, _⟩ := id hM
    go_wp2_with fail
    refine (HC.out _).mono ?_
    rintro e w1 ⟨rfl, hb1⟩
    have hR1 := (hR.next hb1).alloc (.cells #[.int .i64 x, .int .i64 y, .int .i64 z, .int .i64 u] 25)
    have hT := Arr.new w1 x y z u 25
    have hU1 := gr_alloc (gr_trans hU hb1) (.cells #[.int .i64 x, .int .i64 y, .int .i64 z, .int .i64 u] 25)
    go_wp2_with fail
    clear a0 a1 a2 a3 q0 q1 q2 q3
    generalize w1.alloc (.cells #[.int .i64 x, .int .i64 y, .int .i64 z, .int .i64 u] 25) = W2 at hR1 hT hU1 ⊢
    obtain ⟨_, t0, t1, t2, t3, _⟩ := id hT
    go_quiet (fail)
    have R1 := hR1.drewN nq
    have U1 := gr_drewN hU1 nq
    clear t0 t1 t2 t3 hT hR hU hR1 hU1 R0 U0
    generalize W2.drewN nq = W1 at R1 U1 ⊢
    obtain ⟨_, r0, r1, r2, r3, f0, f1, f2, f3⟩ := id R1
    cases hx : mul0 u p with
    | false =>
      have HK := hid (show ok = false by rw [HO.out]; simp [hx])
      go_wp2_with (go_at_call 85; refine (isMultiple_any _ _ _ (by omega) (by omega)).mono ?_; rintro e w' ⟨rfl, rfl⟩)
      refine bodyPost_ret (res_A (e := 2) rfl Tryd.underlying25 (by kernel_rfl) rfl (by (repeat (first | with_reducible assumption | with_reducible exact Arr.box (by assumption) | with_reducible apply Arr.drew | with_reducible apply Arr.drewN | with_reducible refine Arr.store4 ?_ | with_reducible apply Arr.alloc | with_reducible refine Box.drew ?_ | with_reducible refine Box.drewN ?_ _ | with_reducible refine Box.alloc ?_ _ | refine Arr.oth ?_ (by first | (simp; done) | omega | (simp; omega)) _ | refine Box.oth ?_ (by first | (simp; done) | omega | (simp; omega)) _)))) rfl ?_
      rw [HK.out]
      exact ⟨rfl, by (repeat' (first | with_reducible exact Below.refl _ _ | with_reducible assumption | with_reducible refine gr_alloc ?_ _ | with_reducible refine gr_drew ?_ | with_reducible refine gr_drewN ?_ _ | with_reducible refine gr_trans ?_ (by assumption) | with_reducible refine gr_set ?_ ?_ _ | (simp; done) | omega | (simp; omega)))⟩
    | true =>
      have HK := hid (show ok = true by rw [HO.out]; simp [hx])
      go_wp2_with (go_at_call 85; refine (isMultiple_any _ _ _ (by omega) (by omega)).mono ?_; rintro e w' ⟨rfl, rfl⟩)
      refine bodyPost_ret (res_A (e := 2) rfl Tryd.underlying25 (by kernel_rfl) rfl (by (repeat (first | with_reducible assumption | with_reducible exact Arr.box (by assumption) | with_reducible apply Arr.drew | with_reducible apply Arr.drewN | with_reducible refine Arr.store4 ?_ | with_reducible apply Arr.alloc | with_reducible refine Box.drew ?_ | with_reducible refine Box.drewN ?_ _ | with_reducible refine Box.alloc ?_ _ | refine Arr.oth ?_ (by first | (simp; done) | omega | (simp; omega)) _ | refine Box.oth ?_ (by first | (simp; done) | omega | (simp; omega)) _)))) rfl ?_
      rw [HK.out]
      exact ⟨rfl, by (repeat' (first | with_reducible exact Below.refl _ _ | with_reducible assumption | with_reducible refine gr_alloc ?_ _ | with_reducible refine gr_drew ?_ | with_reducible refine gr_drewN ?_ _ | with_reducible refine gr_trans ?_ (by assumption) | with_reducible refine gr_set ?_ ?_ _ | (simp; done) | omega | (simp; omega)))⟩

end Go.Proofs.YtambbhldhhlfgaaDoor
