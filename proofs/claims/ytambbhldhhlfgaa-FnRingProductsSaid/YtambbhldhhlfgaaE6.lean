/- Chapter 4: matrices of elements, the model's. -/
import Derived.Test.YtambbhldhhlfgaaE3
import Derived.Deep.RegionHeld3
import Derived.Deep.DeepCutAuto
namespace Go.Proofs.Ytambbhldhhlfgaa
open Go.RowKit

set_option maxRecDepth 100000 in
set_option maxHeartbeats 2000000 in
theorem sRowsB_any (a b c d x0 x1 x2 : Int) (w : World) :
    Calls Try.prog 76 #[.agg #[.int .i64 a, .int .i64 b, .int .i64 c, .int .i64 d], .agg #[.int .i64 x0, .int .i64 x1, .int .i64 x2]] w (TabB x0 x1 x2
      (m0 (np a c) (np a d) (np b d) x0 x1 x2 0 1 0) (m1 b 0 d x0 x1 x2 0 1 0) (m2 (ng a) 0 (ng c) x0 x1 x2 0 1 0)
      (m0 (np a c) (np a d) (np b d) x0 x1 x2 0 0 1) (m1 b 0 d x0 x1 x2 0 0 1) (m2 (ng a) 0 (ng c) x0 x1 x2 0 0 1) w) := by
  have ht := fun W => sTable_any a b c d W
  have hm := fun k cap y0 y1 y2 W => sBy_any k cap (np a c) b (ng a) (np a d) 0 0 (np b d) d (ng c) x0 x1 x2 y0 y1 y2 W
  generalize np a c = p0 at ht hm ⊢
  generalize ng a = p2 at ht hm ⊢
  generalize np a d = p3 at ht hm ⊢
  generalize np b d = p6 at ht hm ⊢
  generalize ng c = p8 at ht hm ⊢
  have HT := hid ht
  have HM := hid hm
  clear ht hm
  have X0 := Arr3.new (w.alloc (.cells #[.int .i64 a, .int .i64 b, .int .i64 c, .int .i64 d] 25)) x0 x1 x2 27
  have U0 := gr_alloc (gr_alloc (Below.refl w.heap.size w) (.cells #[.int .i64 a, .int .i64 b, .int .i64 c, .int .i64 d] 25)) (.cells #[.int .i64 x0, .int .i64 x1, .int .i64 x2] 27)
  simp only [World.size_alloc] at X0
  go_enter Try.func76, Try.ntmps76
  go_wp2_with fail
  refine (HT.out _).mono ?_
  rintro e w1 ⟨k, rfl, hk, hP1, hb1⟩
  have X1 := X0.next hb1
  have U1 := gr_trans U0 hb1
  clear X0 U0 hk
  obtain ⟨_, a0, a1, a2, _⟩ := id X1
  go_upto_region 2 with fail
  have hz := U1.size
  go_region_held3 (fun W => W.cell? ⟨w.heap.size + 1, 0, none⟩ = some (.int .i64 x0) ∧ W.cell? ⟨w.heap.size + 1, 1, none⟩ = some (.int .i64 x1) ∧ W.cell? ⟨w.heap.size + 1, 2, none⟩ = some (.int .i64 x2)) (refine cells3 ?_ <;> (repeat (first | with_reducible assumption | with_reducible exact Arr.box (by assumption) | with_reducible exact Box.new _ _ _ _ _ _ | with_reducible exact Arr.new _ _ _ _ _ _ | with_reducible refine Arr.drew ?_ | with_reducible refine Arr.drewN ?_ _ | with_reducible refine Arr.store4 ?_ | with_reducible refine Arr.alloc ?_ _ | with_reducible refine Box.drew ?_ | with_reducible refine Box.drewN ?_ _ | with_reducible refine Box.alloc ?_ _ | with_reducible refine Arr.next ?_ (by assumption) | with_reducible refine Box.next ?_ (by assumption) | refine Arr.oth ?_ (by first | (simp; done) | omega | (simp; omega)) _ | refine Box.oth ?_ (by first | (simp; done) | omega | (simp; omega)) _ | with_reducible exact Arr3.box (by assumption) | with_reducible exact Box3.new _ _ _ _ _ | with_reducible exact Arr3.new _ _ _ _ _ | with_reducible refine Arr3.drew ?_ | with_reducible refine Arr3.drewN ?_ _ | with_reducible refine Arr3.store3 ?_ | with_reducible refine Arr3.alloc ?_ _ | with_reducible refine Box3.drew ?_ | with_reducible refine Box3.drewN ?_ _ | with_reducible refine Box3.alloc ?_ _ | with_reducible refine Arr3.next ?_ (by assumption) | with_reducible refine Box3.next ?_ (by assumption) | refine Arr3.oth ?_ (by first | (simp; done) | omega | (simp; omega)) _ | refine Box3.oth ?_ (by first | (simp; done) | omega | (simp; omega)) _))) ((go_at_call 58; refine (HM.out _ _ _ _ _ _ (by (repeat (first | with_reducible assumption | with_reducible exact Arr9.new _ _ _ _ _ _ _ _ _ _ _ | with_reducible refine Arr9.drew ?_ | with_reducible refine Arr9.drewN ?_ _ | with_reducible refine Arr9.alloc ?_ _ | with_reducible refine Arr9.next ?_ (by assumption))))).mono ?_; rintro e w2 ⟨rfl, hb2⟩; have hz2 := hb2.size; (try simp at hz2)))
  all_goals (go_wp2_with fail; go_ret; exact ⟨_, rfl, by first | omega | (simp; omega), Bx.new _ _ _, by (repeat' (first | with_reducible exact Below.refl _ _ | with_reducible assumption | with_reducible refine gr_alloc ?_ _ | with_reducible refine gr_drew ?_ | with_reducible refine gr_drewN ?_ _ | with_reducible refine gr_trans ?_ (by assumption) | with_reducible refine gr_set ?_ ?_ _ | (simp; done) | omega | (simp; omega)))⟩)

theorem sRows_any (a b c d x0 x1 x2 : Int) (w : World) :
    Calls Try.prog 76 #[.agg #[.int .i64 a, .int .i64 b, .int .i64 c, .int .i64 d], .agg #[.int .i64 x0, .int .i64 x1, .int .i64 x2]] w (TabOut x0 x1 x2
      (m0 (np a c) (np a d) (np b d) x0 x1 x2 0 1 0) (m1 b 0 d x0 x1 x2 0 1 0) (m2 (ng a) 0 (ng c) x0 x1 x2 0 1 0)
      (m0 (np a c) (np a d) (np b d) x0 x1 x2 0 0 1) (m1 b 0 d x0 x1 x2 0 0 1) (m2 (ng a) 0 (ng c) x0 x1 x2 0 0 1) w) := (sRowsB_any a b c d x0 x1 x2 w).mono fun _ _ h => h.out

end Go.Proofs.Ytambbhldhhlfgaa
