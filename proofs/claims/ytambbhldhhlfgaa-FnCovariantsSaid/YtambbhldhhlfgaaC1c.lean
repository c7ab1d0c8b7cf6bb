/- Chapter 1: values, slopes, discriminants, determinants, products, reversed forms. -/
import Derived.Test.YtambbhldhhlfgaaC1b
namespace Go.Proofs.Ytambbhldhhlfgaa
open Go.RowKit

set_option maxHeartbeats 400000 in
theorem sIsMatrix_any (a b c d : Int) (w : World) :
    Calls Try.prog 89 #[.agg #[.int .i64 a, .int .i64 b, .int .i64 c, .int .i64 d]] w fun e w' => e = .returned (.bool (isF a b c d)) ∧ Below w.heap.size w w' := by
  go_enter Try.func89, Try.ntmps89
  go_wp2_with fail
  refine (l01Is_any a b c d _).mono ?_
  rintro e w1 ⟨rfl, hb1⟩
  go_wp2
  go_ret
  exact ⟨rfl, by (repeat' (first | with_reducible exact Below.refl _ _ | with_reducible assumption | with_reducible refine gr_alloc ?_ _ | with_reducible refine gr_drew ?_ | with_reducible refine gr_drewN ?_ _ | with_reducible refine gr_trans ?_ (by assumption) | with_reducible refine gr_set ?_ ?_ _ | (simp; done) | omega | (simp; omega)))⟩
















end Go.Proofs.Ytambbhldhhlfgaa
