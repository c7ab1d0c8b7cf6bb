/- Chapter 4: what is an element; elements of results. -/
import Derived.Test.YtmhlolimaeejfaaE0
import Derived.Test.YtmhlolimaeejfaaC1
namespace Go.Proofs.Ytmhlolimaeejfaa
open Go.RowKit

set_option maxHeartbeats 400000 in
theorem allW4_any (L : Int) (k : Nat) (a b c d : Int) (w : World) (hA : Arr w k a b c d) (h0 : 0 ≤ L) (h1 : L ≤ 1000000000000) :
    Calls Try.prog 73 #[.slice (some ⟨k, 0, none⟩) 4 4, .int .i64 L] w fun e w' => e = .returned (.bool (is4 L a b c d)) ∧ w = w' := by
  obtain ⟨lt, c0, c1, c2, c3, _⟩ := hA
  go_enter Try.func73, Try.ntmps73
  go_wp2
  go_rounds 5
  all_goals (go_ret; exact ⟨ret_bool (by apply is4_eq; go_light; simp at *; try omega), rfl⟩)

set_option maxHeartbeats 400000 in
theorem allW3_any (L : Int) (k : Nat) (a b c : Int) (w : World) (hA : Arr3 w k a b c) (h0 : 0 ≤ L) (h1 : L ≤ 1000000000000) :
    Calls Try.prog 73 #[.slice (some ⟨k, 0, none⟩) 3 3, .int .i64 L] w fun e w' => e = .returned (.bool (is3 L a b c)) ∧ w = w' := by
  obtain ⟨lt, c0, c1, c2, _⟩ := hA
  go_enter Try.func73, Try.ntmps73
  go_wp2
  go_rounds 4
  all_goals (go_ret; exact ⟨ret_bool (by apply is3_eq; go_light; simp at *; try omega), rfl⟩)

set_option maxHeartbeats 400000 in
theorem iIsE_any (a b c : Int) (w : World) :
    Calls Try.prog 68 #[.agg #[.int .i64 a, .int .i64 b, .int .i64 c]] w fun e w' => e = .returned (.bool (isE a b c)) ∧ Below w.heap.size w w' := by
  go_enter Try.func68, Try.ntmps68
  go_wp2_with fail
  refine (allW3_any 10000 _ a b c _ (Arr3.new _ _ _ _ _) (by omega) (by omega)).mono ?_
  rintro e w1 ⟨rfl, rfl⟩
  go_wp2
  go_ret
  exact ⟨rfl, by (repeat' (first | with_reducible exact Below.refl _ _ | with_reducible assumption | with_reducible refine gr_alloc ?_ _ | with_reducible refine gr_drew ?_ | with_reducible refine gr_drewN ?_ _ | with_reducible refine gr_trans ?_ (by assumption) | with_reducible refine gr_set ?_ ?_ _ | (simp; done) | omega | (simp; omega)))⟩

set_option maxHeartbeats 400000 in
theorem sIsE0_any (a b c : Int) (w : World) :
    Calls Try.prog 63 #[.agg #[.int .i64 a, .int .i64 b, .int .i64 c]] w fun e w' => e = .returned (.bool (isE a b c)) ∧ Below w.heap.size w w' := by
  go_enter Try.func63, Try.ntmps63
  go_wp2
  go_rounds 4
  all_goals (go_ret; exact ⟨ret_bool (by apply is3_eq; go_light; simp at *; try omega), by go_grown⟩)



set_option maxHeartbeats 400000 in
theorem toElem_any (a b c : Int) (w : World) :
    Calls Try.prog 66 #[.agg #[.int .i64 a, .int .i64 b, .int .i64 c]] w fun e w' => e = .returned (.agg #[.int .i64 a, .int .i64 b, .int .i64 c]) ∧ Below w.heap.size w w' := by
  go_enter Try.func66, Try.ntmps66
  go_wp2
  go_rounds 4
  go_returns
  exact ⟨rfl, by go_grown⟩

set_option maxHeartbeats 1000000 in
theorem eqElem_same (a b c : Int) (w : World) :
    Calls Try.prog 60 #[.agg #[.int .i64 a, .int .i64 b, .int .i64 c], .agg #[.int .i64 a, .int .i64 b, .int .i64 c]] w fun e w' => e = .returned (.bool true) ∧ Below w.heap.size w w' := by
  go_enter Try.func60, Try.ntmps60
  go_wp2
  refine wp_loop_rounds 4 ?_
  rw [rounds_succ]; go_wp2
  go_quiet (fail)
  go_wp2
  rw [rounds_succ]; go_wp2
  go_quiet (fail)
  go_wp2
  rw [rounds_succ]; go_wp2
  go_quiet (fail)
  go_wp2
  rw [rounds_succ]; go_wp2
  go_ret
  exact ⟨rfl, by (repeat' (first | with_reducible exact Below.refl _ _ | with_reducible assumption | with_reducible refine gr_alloc ?_ _ | with_reducible refine gr_drew ?_ | with_reducible refine gr_drewN ?_ _ | with_reducible refine gr_trans ?_ (by assumption) | with_reducible refine gr_set ?_ ?_ _ | (simp; done) | omega | (simp; omega)))⟩





end Go.Proofs.Ytmhlolimaeejfaa
