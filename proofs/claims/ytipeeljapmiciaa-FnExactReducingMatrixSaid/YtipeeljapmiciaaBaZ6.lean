/- Several texts in one: XCh, XC1v. -/
import Derived.Test.YtipeeljapmiciaaBaZ3
import Derived.Test.YtipeeljapmiciaaBaZ5
import Derived.Deep.DeepCutAuto
import Derived.Deep.RegionHeld3
import Derived.Test.YtipeeljapmiciaaBaC1u

/- Chapter 1: changed forms of the model (as XC1v has them), by themselves. -/
namespace Go.Proofs.Ytipeeljapmiciaa
open Go.RowKit

theorem ret_F {a b c d a' b' c' d' : Int} (h0 : a = a') (h1 : b = b') (h2 : c = c') (h3 : d = d') : Ending.returned (.agg #[.int .i64 a, .int .i64 b, .int .i64 c, .int .i64 d]) = .returned (.agg #[.int .i64 a', .int .i64 b', .int .i64 c', .int .i64 d']) := by rw [h0, h1, h2, h3]
theorem ch_wr {a b c d p q r s : Int} (ha : -1000 ≤ a ∧ a ≤ 1000) (hb : -1000 ≤ b ∧ b ≤ 1000) (hc : -1000 ≤ c ∧ c ≤ 1000) (hd : -1000 ≤ d ∧ d ≤ 1000) (hp : -1000 ≤ p ∧ p ≤ 1000) (hq : -1000 ≤ q ∧ q ≤ 1000) (hr : -1000 ≤ r ∧ r ≤ 1000) (hs : -1000 ≤ s ∧ s ≤ 1000) :
    wrap64 (cA a b c d p r) = cA a b c d p r ∧ wrap64 (cB a b c d p q r s) = cB a b c d p q r s ∧ wrap64 (cC a b c d p q r s) = cC a b c d p q r s ∧ wrap64 (cA a b c d q s) = cA a b c d q s := by
  obtain ⟨h1, h2⟩ := cB_bd ha hb hc hd hp hq hr hs
  have h3 := vx_bd ha hb hc hd hp hr
  have h4 := vx_bd ha hb hc hd hq hs
  exact ⟨wr_in (by unfold cA; omega), wr_in (by omega), wr_in (by omega), wr_in (by unfold cA; omega)⟩

set_option maxRecDepth 100000 in
set_option maxHeartbeats 4000000 in
theorem sChange0_any (a b c d p q r s : Int) (w : World) :
    Calls Try.prog 74 #[.agg #[.int .i64 a, .int .i64 b, .int .i64 c, .int .i64 d], .agg #[.int .i64 p, .int .i64 q, .int .i64 r, .int .i64 s]] w fun e w' => e = .returned (.agg #[.int .i64 (wrap64 (cA a b c d p r)), .int .i64 (wrap64 (cB a b c d p q r s)), .int .i64 (wrap64 (cC a b c d p q r s)), .int .i64 (wrap64 (cA a b c d q s))]) ∧ Below w.heap.size w w' := by
  have A0 := ((Arr.new w a b c d 23).alloc (.cells #[.int .i64 p, .int .i64 q, .int .i64 r, .int .i64 s] 34)).alloc (.cells #[.int .i64 0, .int .i64 0, .int .i64 0, .int .i64 0] 23)
  have M0 := (Arr.new (w.alloc (.cells #[.int .i64 a, .int .i64 b, .int .i64 c, .int .i64 d] 23)) p q r s 34).alloc (.cells #[.int .i64 0, .int .i64 0, .int .i64 0, .int .i64 0] 23)
  have R0 := Arr.new ((w.alloc (.cells #[.int .i64 a, .int .i64 b, .int .i64 c, .int .i64 d] 23)).alloc (.cells #[.int .i64 p, .int .i64 q, .int .i64 r, .int .i64 s] 34)) 0 0 0 0 23
  have U0 := gr_alloc (gr_alloc (gr_alloc (Below.refl w.heap.size w) (.cells #[.int .i64 a, .int .i64 b, .int .i64 c, .int .i64 d] 23)) (.cells #[.int .i64 p, .int .i64 q, .int .i64 r, .int .i64 s] 34)) (.cells #[.int .i64 0, .int .i64 0, .int .i64 0, .int .i64 0] 23)
  simp only [World.size_alloc] at M0 R0
  go_enter Try.func74, Try.ntmps74
  go_upto_region 1 with fail
  generalize (((w.alloc (.cells #[.int .i64 a, .int .i64 b, .int .i64 c, .int .i64 d] 23)).alloc (.cells #[.int .i64 p, .int .i64 q, .int .i64 r, .int .i64 s] 34)).alloc (.cells #[.int .i64 0, .int .i64 0, .int .i64 0, .int .i64 0] 23)) = W0 at A0 M0 R0 U0 ⊢
  obtain ⟨_, m0, m1, m2, m3, _⟩ := id M0
  go_quiet (fail)
  have A1 := A0.drewN nq
  have R1 := R0.drewN nq
  have U1 := gr_drewN U0 nq
  clear m0 m1 m2 m3 A0 R0 U0 M0
  generalize W0.drewN nq = W1 at A1 R1 U1 ⊢
  obtain ⟨_, a0, a1, a2, a3, _⟩ := id A1
  obtain ⟨_, r0, r1, r2, r3, f0, f1, f2, f3⟩ := id R1
  go_upto_region 2 with fail
  go_region_held3 (fun W => W.cell? ⟨w.heap.size, 0, none⟩ = some (.int .i64 a) ∧ W.cell? ⟨w.heap.size, 1, none⟩ = some (.int .i64 b) ∧ W.cell? ⟨w.heap.size, 2, none⟩ = some (.int .i64 c) ∧ W.cell? ⟨w.heap.size, 3, none⟩ = some (.int .i64 d)) (go_keep) (fail)
  go_wp2_with fail
  refine bodyPost_ret (res_A1 (e := 2) rfl Try.underlying23 (by kernel_rfl) rfl (by (repeat (first | with_reducible assumption | with_reducible exact Arr.box (by assumption) | with_reducible apply Arr.drew | with_reducible apply Arr.drewN | with_reducible refine Arr.store4 ?_ | with_reducible apply Arr.alloc | with_reducible refine Box.drew ?_ | with_reducible refine Box.drewN ?_ _ | with_reducible refine Box.alloc ?_ _ | refine Arr.oth ?_ (by first | (simp; done) | omega | (simp; omega)) _ | refine Box.oth ?_ (by first | (simp; done) | omega | (simp; omega)) _)))) rfl ?_
  exact ⟨ret_F (by simp only [wr_al, wr_ar, wr_ml]; rfl) (by simp only [wr_al, wr_ar, wr_ml, wr_mr]; rfl) (by simp only [wr_al, wr_ar, wr_ml, wr_mr]; rfl) (by simp only [wr_al, wr_ar, wr_ml]; rfl), by (repeat' (first | with_reducible exact Below.refl _ _ | with_reducible assumption | with_reducible refine gr_alloc ?_ _ | with_reducible refine gr_drew ?_ | with_reducible refine gr_drewN ?_ _ | with_reducible refine gr_trans ?_ (by assumption) | with_reducible refine gr_set ?_ ?_ _ | (simp; done) | omega | (simp; omega)))⟩


end Go.Proofs.Ytipeeljapmiciaa

/- Chapter 1: changed forms of the program and of the model, whole. -/
namespace Go.Proofs.Ytipeeljapmiciaa
open Go.RowKit

/-- The code of a changed form. -/
def chc (a b c d p q r s : Int) : Int := if isF a b c d && isF p q r s then (if isF (cA a b c d p r) (cB a b c d p q r s) (cC a b c d p q r s) (cA a b c d q s) then 0 else 3) else 1

set_option maxHeartbeats 400000 in
theorem iLimit_any (a b c d : Int) (w : World) :
    Calls Try.prog 44 #[.agg #[.int .i64 a, .int .i64 b, .int .i64 c, .int .i64 d]] w fun e w' => e = .returned (.tuple #[.agg #[.int .i64 (ifF a b c d a), .int .i64 (ifF a b c d b), .int .i64 (ifF a b c d c), .int .i64 (ifF a b c d d)], .int .i64 ((if isF a b c d then 0 else 3))]) ∧ Below w.heap.size w w' := by
  go_enter Try.func44, Try.ntmps44
  go_wp2_with fail
  refine (iIsForm_any a b c d _).mono ?_
  rintro e w1 ⟨rfl, hb1⟩
  have A1 := ((Arr.new w a b c d 23).alloc (.cells #[.int .i64 0, .int .i64 0, .int .i64 0, .int .i64 0] 23)).next hb1
  have R1 := (Arr.new (w.alloc (.cells #[.int .i64 a, .int .i64 b, .int .i64 c, .int .i64 d] 23)) 0 0 0 0 23).next hb1
  simp only [World.size_alloc] at R1
  obtain ⟨_, c0, c1, c2, c3, _⟩ := id A1
  obtain ⟨_, r0, r1, r2, r3, f0, f1, f2, f3⟩ := id R1
  go_wp2
  all_goals (refine bodyPost_ret (res_A (e := 2) rfl Try.underlying23 (by kernel_rfl) rfl (by (repeat (first | with_reducible assumption | with_reducible exact Arr.box (by assumption) | with_reducible apply Arr.drew | with_reducible apply Arr.drewN | with_reducible refine Arr.store4 ?_ | with_reducible apply Arr.alloc | with_reducible refine Box.drew ?_ | with_reducible refine Box.drewN ?_ _ | with_reducible refine Box.alloc ?_ _ | refine Arr.oth ?_ (by first | (simp; done) | omega | (simp; omega)) _ | refine Box.oth ?_ (by first | (simp; done) | omega | (simp; omega)) _)))) rfl ?_; exact ⟨ret_form (by go_light; simp_all [ifF]) (by go_light; simp_all [ifF]) (by go_light; simp_all [ifF]) (by go_light; simp_all [ifF]) (by go_light; simp_all), by (repeat' (first | with_reducible exact Below.refl _ _ | with_reducible assumption | with_reducible refine gr_alloc ?_ _ | with_reducible refine gr_drew ?_ | with_reducible refine gr_drewN ?_ _ | with_reducible refine gr_trans ?_ (by assumption) | with_reducible refine gr_set ?_ ?_ _ | (simp; done) | omega | (simp; omega)))⟩)

set_option maxHeartbeats 400000 in
theorem sFits_any (a b c d : Int) (w : World) :
    Calls Try.prog 41 #[.agg #[.int .i64 a, .int .i64 b, .int .i64 c, .int .i64 d]] w fun e w' => e = .returned (.bool (isF a b c d)) ∧ Below w.heap.size w w' := by
  go_enter Try.func41, Try.ntmps41
  go_wp2_with fail
  refine (l01Is_any a b c d _).mono ?_
  rintro e w1 ⟨rfl, hb1⟩
  go_wp2
  go_ret
  exact ⟨rfl, by (repeat' (first | with_reducible exact Below.refl _ _ | with_reducible assumption | with_reducible refine gr_alloc ?_ _ | with_reducible refine gr_drew ?_ | with_reducible refine gr_drewN ?_ _ | with_reducible refine gr_trans ?_ (by assumption) | with_reducible refine gr_set ?_ ?_ _ | (simp; done) | omega | (simp; omega)))⟩





end Go.Proofs.Ytipeeljapmiciaa
