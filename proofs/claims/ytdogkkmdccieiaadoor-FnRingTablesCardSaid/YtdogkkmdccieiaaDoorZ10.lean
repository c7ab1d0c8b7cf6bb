/- Several texts in one: XE6, XE7. -/
import Derived.Test.YtdogkkmdccieiaaDoorZ5
import Derived.Deep.RegionHeld3
import Derived.Deep.DeepCutAuto

/- Chapter 4: matrices of elements, the model's. -/
namespace Go.Proofs.YtdogkkmdccieiaaDoor
open Go.RowKit

set_option maxRecDepth 100000 in
set_option maxHeartbeats 2000000 in
theorem sRowsB_any (a b c d x0 x1 x2 : Int) (w : World) :
    Calls Tryd.prog 95 #[.agg #[.int .i64 a, .int .i64 b, .int .i64 c, .int .i64 d], .agg #[.int .i64 x0, .int .i64 x1, .int .i64 x2]] w (TabB x0 x1 x2
      (m0 (np a c) (np a d) (np b d) x0 x1 x2 0 1 0) (m1 b 0 d x0 x1 x2 0 1 0) (m2 (ng a) 0 (ng c) x0 x1 x2 0 1 0)
      (m0 (np a c) (np a d) (np b d) x0 x1 x2 0 0 1) (m1 b 0 d x0 x1 x2 0 0 1) (m2 (ng a) 0 (ng c) x0 x1 x2 0 0 1) w) := by
  have ht := fun W => sTable_any a b c d W
  have hm := fun k cap y0 y1 y2 W => sBy_any k cap (np a c) b (ng a) (np a d) 0 0 (np b d) d (ng c) x0 x1 x2 y0 y1 y2 W
  generalize np a c = p0 at ht hm ⊢
  generalize ng a = p2 at ht hm ⊢
  generalize np a d = p3 at ht hm ⊢
  generalize np b d = p6 at ht hm ⊢
  generalize ng c = p8 at ht hm ⊢
  have HT := hid ht
  have HM := hid hm
  clear ht hm
  have X0 := Arr3.new (w.alloc (.cells #[.int .i64 a, .int .i64 b, .int .i64 c, .int .i64 d] 25)) x0 x1 x2 27
  have U0 := gr_alloc (gr_alloc (Below.refl w.heap.size w) (.cells #[.int .i64 a, .int .i64 b, .int .i64 c, .int .i64 d] 25)) (.cells #[.int .i64 x0, .int .i64 x1, .int .i64 x2] 27)
  simp only [World.size_alloc] at X0
  go_enter Tryd.func95, Tryd.ntmps95
  go_wp2_with fail
  refine (HT.out _).mono ?_
  rintro e w1 ⟨k, rfl, hk, hP1, hb1⟩
  have X1 := X0.next hb1
  have U1 := gr_trans U0 hb1
  clear X0 U0 hk
  obtain ⟨_, a0, a1, a2, _⟩ := id X1
  go_upto_region 2 with fail
  have hz := U1.size
  go_region_held3 (fun W => W.cell? ⟨w.heap.size + 1, 0, none⟩ = some (.int .i64 x0) ∧ W.cell? ⟨w.heap.size + 1, 1, none⟩ = some (.int .i64 x1) ∧ W.cell? ⟨w.heap.size + 1, 2, none⟩ = some (.int .i64 x2)) (refine cells3 ?_ <;> (repeat (first | with_reducible assumption | with_reducible exact Arr.box (by assumption) | with_reducible exact Box.new _ _ _ _ _ _ | with_reducible exact Arr.new _ _ _ _ _ _ | with_reducible refine Arr.drew ?_ | with_reducible refine Arr.drewN ?_ _ | with_reducible refine Arr.store4 ?_ | with_reducible refine Arr.alloc ?_ _ | with_reducible refine Box.drew ?_ | with_reducible refine Box.drewN ?_ _ | with_reducible refine Box.alloc ?_ _ | with_reducible refine Arr.next ?_ (by assumption) | with_reducible refine Box.next ?_ (by assumption) | refine Arr.oth ?_ (by first | (simp; done) | omega | (simp; omega)) _ | refine Box.oth ?_ (by first | (simp; done) | omega | (simp; omega)) _ | with_reducible exact Arr3.box (by assumption) | with_reducible exact Box3.new _ _ _ _ _ | with_reducible exact Arr3.new _ _ _ _ _ | with_reducible refine Arr3.drew ?_ | with_reducible refine Arr3.drewN ?_ _ | with_reducible refine Arr3.store3 ?_ | with_reducible refine Arr3.alloc ?_ _ | with_reducible refine Box3.drew ?_ | with_reducible refine Box3.drewN ?_ _ | with_reducible refine Box3.alloc ?_ _ | with_reducible refine Arr3.next ?_ (by assumption) | with_reducible refine Box3.next ?_ (by assumption) | refine Arr3.oth ?_ (by first | (simp; done) | omega | (simp; omega)) _ | refine Box3.oth ?_ (by first | (simp; done) | omega | (simp; omega)) _))) ((go_at_call 57; refine (HM.out _ _ _ _ _ _ (by (repeat (first | with_reducible assumption | with_reducible exact Arr9.new _ _ _ _ _ _ _ _ _ _ _ | with_reducible refine Arr9.drew ?_ | with_reducible refine Arr9.drewN ?_ _ | with_reducible refine Arr9.alloc ?_ _ | with_reducible refine Arr9.next ?_ (by assumption))))).mono ?_; rintro e w2 ⟨rfl, hb2⟩; have hz2 := hb2.size; (try simp at hz2)))
  all_goals (go_wp2_with fail; go_ret; exact ⟨_, rfl, by first | omega | (simp; omega), Bx.new _ _ _, by (repeat' (first | with_reducible exact Below.refl _ _ | with_reducible assumption | with_reducible refine gr_alloc ?_ _ | with_reducible refine gr_drew ?_ | with_reducible refine gr_drewN ?_ _ | with_reducible refine gr_trans ?_ (by assumption) | with_reducible refine gr_set ?_ ?_ _ | (simp; done) | omega | (simp; omega)))⟩)

theorem sRows_any (a b c d x0 x1 x2 : Int) (w : World) :
    Calls Tryd.prog 95 #[.agg #[.int .i64 a, .int .i64 b, .int .i64 c, .int .i64 d], .agg #[.int .i64 x0, .int .i64 x1, .int .i64 x2]] w (TabOut x0 x1 x2
      (m0 (np a c) (np a d) (np b d) x0 x1 x2 0 1 0) (m1 b 0 d x0 x1 x2 0 1 0) (m2 (ng a) 0 (ng c) x0 x1 x2 0 1 0)
      (m0 (np a c) (np a d) (np b d) x0 x1 x2 0 0 1) (m1 b 0 d x0 x1 x2 0 0 1) (m2 (ng a) 0 (ng c) x0 x1 x2 0 0 1) w) := (sRowsB_any a b c d x0 x1 x2 w).mono fun _ _ h => h.out

end Go.Proofs.YtdogkkmdccieiaaDoor

/- Chapter 4: norms and polynomials of elements, the model's. -/
namespace Go.Proofs.YtdogkkmdccieiaaDoor
open Go.RowKit

/-- Trace, minors, determinant of nine numbers. -/
def tr9 (a0 b1 c2 : Int) : Int := a0 + b1 + c2
def mi9 (a0 a1 a2 b0 b1 b2 c0 c1 c2 : Int) : Int := b1 * a0 - b0 * a1 + (c2 * a0 - c0 * a2) + (c2 * b1 - c1 * b2)
def de9 (a0 a1 a2 b0 b1 b2 c0 c1 c2 : Int) : Int := a0 * (b1 * c2 - b2 * c1) - a1 * (b0 * c2 - b2 * c0) + a2 * (b0 * c1 - b1 * c0)
theorem cells9 {W : World} {i : Nat} {p0 p1 p2 p3 p4 p5 p6 p7 p8 : Int} (K : Arr9 W i p0 p1 p2 p3 p4 p5 p6 p7 p8) : W.cell? ⟨i, 0, none⟩ = some (.int .i64 p0) ∧ W.cell? ⟨i, 1, none⟩ = some (.int .i64 p1) ∧ W.cell? ⟨i, 2, none⟩ = some (.int .i64 p2) ∧ W.cell? ⟨i, 3, none⟩ = some (.int .i64 p3) ∧ W.cell? ⟨i, 4, none⟩ = some (.int .i64 p4) ∧ W.cell? ⟨i, 5, none⟩ = some (.int .i64 p5) ∧ W.cell? ⟨i, 6, none⟩ = some (.int .i64 p6) ∧ W.cell? ⟨i, 7, none⟩ = some (.int .i64 p7) ∧ W.cell? ⟨i, 8, none⟩ = some (.int .i64 p8) :=
  ⟨K.c0, K.c1, K.c2, K.c3, K.c4, K.c5, K.c6, K.c7, K.c8⟩

set_option maxRecDepth 100000 in
set_option maxHeartbeats 1000000 in
theorem sDet_any (a0 a1 a2 b0 b1 b2 c0 c1 c2 : Int) (w : World) :
    Calls Tryd.prog 96 #[.agg #[.int .i64 a0, .int .i64 a1, .int .i64 a2], .agg #[.int .i64 b0, .int .i64 b1, .int .i64 b2], .agg #[.int .i64 c0, .int .i64 c1, .int .i64 c2]] w fun e w' => e = .returned (.int .i64 (wrap64 (de9 a0 a1 a2 b0 b1 b2 c0 c1 c2))) ∧ Below w.heap.size w w' := by
  go_enter Tryd.func96, Tryd.ntmps96
  go_wp2
  go_ret
  exact ⟨ret_int (by simp only [de9, wr_al, wr_ar, wr_sl, wr_sr, wr_mr]), by (repeat' (first | with_reducible exact Below.refl _ _ | with_reducible assumption | with_reducible refine gr_alloc ?_ _ | with_reducible refine gr_drew ?_ | with_reducible refine gr_drewN ?_ _ | with_reducible refine gr_trans ?_ (by assumption) | with_reducible refine gr_set ?_ ?_ _ | (simp; done) | omega | (simp; omega)))⟩



/-- The four numbers of a polynomial in block k, laid by the call. -/
def PolOut (p q r : Int) (w : World) (e : Ending) (w' : World) : Prop :=
  ∃ k, e = .returned (.slice (some ⟨k, 0, none⟩) 4 4) ∧ w.heap.size ≤ k ∧ Arr w' k 1 p q r ∧ Below w.heap.size w w'

set_option maxRecDepth 100000 in
set_option maxHeartbeats 2000000 in
theorem sPoly_any (a b c d x0 x1 x2 : Int) (w : World) :
    Calls Tryd.prog 56 #[.agg #[.int .i64 a, .int .i64 b, .int .i64 c, .int .i64 d], .agg #[.int .i64 x0, .int .i64 x1, .int .i64 x2]] w (PolOut
      (wrap64 (-tr9 x0 (m1 b 0 d x0 x1 x2 0 1 0) (m2 (ng a) 0 (ng c) x0 x1 x2 0 0 1)))
      (wrap64 (mi9 x0 x1 x2
        (m0 (np a c) (np a d) (np b d) x0 x1 x2 0 1 0) (m1 b 0 d x0 x1 x2 0 1 0) (m2 (ng a) 0 (ng c) x0 x1 x2 0 1 0)
        (m0 (np a c) (np a d) (np b d) x0 x1 x2 0 0 1) (m1 b 0 d x0 x1 x2 0 0 1) (m2 (ng a) 0 (ng c) x0 x1 x2 0 0 1)))
      (wrap64 (-de9 x0 x1 x2
        (m0 (np a c) (np a d) (np b d) x0 x1 x2 0 1 0) (m1 b 0 d x0 x1 x2 0 1 0) (m2 (ng a) 0 (ng c) x0 x1 x2 0 1 0)
        (m0 (np a c) (np a d) (np b d) x0 x1 x2 0 0 1) (m1 b 0 d x0 x1 x2 0 0 1) (m2 (ng a) 0 (ng c) x0 x1 x2 0 0 1))) w) := by
  have hr := fun W => sRows_any a b c d x0 x1 x2 W
  generalize m0 (np a c) (np a d) (np b d) x0 x1 x2 0 1 0 = r3 at hr ⊢
  generalize m1 b 0 d x0 x1 x2 0 1 0 = r4 at hr ⊢
  generalize m2 (ng a) 0 (ng c) x0 x1 x2 0 1 0 = r5 at hr ⊢
  generalize m0 (np a c) (np a d) (np b d) x0 x1 x2 0 0 1 = r6 at hr ⊢
  generalize m1 b 0 d x0 x1 x2 0 0 1 = r7 at hr ⊢
  generalize m2 (ng a) 0 (ng c) x0 x1 x2 0 0 1 = r8 at hr ⊢
  have HR := hid hr
  clear hr
  go_enter Tryd.func56, Tryd.ntmps56
  go_wp2_with fail
  refine (HR.out _).mono ?_
  rintro e w1 ⟨k, rfl, hk, hP1, hb1⟩
  have U1 := gr_trans (gr_alloc (gr_alloc (Below.refl w.heap.size w) (.cells #[.int .i64 a, .int .i64 b, .int .i64 c, .int .i64 d] 25)) (.cells #[.int .i64 x0, .int .i64 x1, .int .i64 x2] 27)) hb1
  obtain ⟨_, c0, c1, c2, c3, c4, c5, c6, c7, c8⟩ := id hP1
  clear hk hb1
  go_wp2_with fail
  go_quiet (fail)
  go_wp2_with fail
  refine wp_loop_rounds 4 ?_
  rw [rounds_succ]; go_wp2_with fail
  refine wp_loop_rounds 1 ?_
  rw [rounds_succ]; go_wp2_with fail
  rw [rounds_succ]; go_wp2_with fail
  refine wp_loop_rounds 2 ?_
  rw [rounds_succ]; go_wp2_with fail
  go_quiet (fail)
  go_wp2_with fail
  rw [rounds_succ]; go_wp2_with fail
  rw [rounds_succ]; go_wp2_with fail
  refine wp_loop_rounds 3 ?_
  rw [rounds_succ]; go_wp2_with fail
  go_quiet (fail)
  go_wp2_with fail
  rw [rounds_succ]; go_wp2_with fail
  go_quiet (fail)
  go_wp2_with fail
  rw [rounds_succ]; go_wp2_with fail
  rw [rounds_succ]
  go_upto_region 10 with fail
  have hz := U1.size
  go_region_held3 (fun W => W.cell? ⟨k, 0, none⟩ = some (.int .i64 x0) ∧ W.cell? ⟨k, 1, none⟩ = some (.int .i64 x1) ∧ W.cell? ⟨k, 2, none⟩ = some (.int .i64 x2) ∧ W.cell? ⟨k, 3, none⟩ = some (.int .i64 r3) ∧ W.cell? ⟨k, 4, none⟩ = some (.int .i64 r4) ∧ W.cell? ⟨k, 5, none⟩ = some (.int .i64 r5) ∧ W.cell? ⟨k, 6, none⟩ = some (.int .i64 r6) ∧ W.cell? ⟨k, 7, none⟩ = some (.int .i64 r7) ∧ W.cell? ⟨k, 8, none⟩ = some (.int .i64 r8)) (refine cells9 ?_ <;> (repeat (first | with_reducible assumption | with_reducible exact Arr9.new _ _ _ _ _ _ _ _ _ _ _ | with_reducible refine Arr9.drew ?_ | with_reducible refine Arr9.drewN ?_ _ | with_reducible refine Arr9.alloc ?_ _ | with_reducible refine Arr9.next ?_ (by assumption)))) ((go_at_call 96; refine (sDet_any _ _ _ _ _ _ _ _ _ _).mono ?_; rintro e w2 ⟨rfl, hb2⟩; have hz2 := hb2.size; (try simp at hz2)))
  go_wp2_with fail
  go_ret
  refine ⟨_, rfl, by first | omega | (simp; omega), ?_, by (repeat' (first | with_reducible exact Below.refl _ _ | with_reducible assumption | with_reducible refine gr_alloc ?_ _ | with_reducible refine gr_drew ?_ | with_reducible refine gr_drewN ?_ _ | with_reducible refine gr_trans ?_ (by assumption) | with_reducible refine gr_set ?_ ?_ _ | (simp; done) | omega | (simp; omega)))⟩
  simp only [tr9, mi9, wr_al, wr_ar, wr_sl, wr_sr, IntWalk.i64_left, wr_n]
  have e : r4 * x0 - r3 * x1 + r8 * x0 - r6 * x2 + r8 * r4 - r7 * r5 = r4 * x0 - r3 * x1 + (r8 * x0 - r6 * x2) + (r8 * r4 - r7 * r5) := by omega
  rw [e]
  exact Arr.new _ _ _ _ _ _

end Go.Proofs.YtdogkkmdccieiaaDoor
