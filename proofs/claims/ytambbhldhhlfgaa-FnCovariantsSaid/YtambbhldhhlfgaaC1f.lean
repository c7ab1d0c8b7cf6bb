/- Chapter 1: products of matrices. -/
import Derived.Test.YtambbhldhhlfgaaC1e
namespace Go.Proofs.Ytambbhldhhlfgaa
open Go.RowKit





set_option maxHeartbeats 400000 in
theorem sMp_any (a b c d p q r s : Int) (w : World) :
    Calls Try.prog 108 #[.agg #[.int .i64 a, .int .i64 b, .int .i64 c, .int .i64 d], .agg #[.int .i64 p, .int .i64 q, .int .i64 r, .int .i64 s]] w fun e w' => e = .returned (.agg #[.int .i64 (mp a p b r), .int .i64 (mp a q b s), .int .i64 (mp c p d r), .int .i64 (mp c q d s)]) ∧ Below w.heap.size w w' := by
  go_enter Try.func108, Try.ntmps108
  go_wp2
  go_returns
  exact ⟨rfl, by (repeat' (first | with_reducible exact Below.refl _ _ | with_reducible assumption | with_reducible refine gr_alloc ?_ _ | with_reducible refine gr_drew ?_ | with_reducible refine gr_drewN ?_ _ | with_reducible refine gr_trans ?_ (by assumption) | with_reducible refine gr_set ?_ ?_ _ | (simp; done) | omega | (simp; omega)))⟩



end Go.Proofs.Ytambbhldhhlfgaa
