/- Chapter 2: the Hessian of the program. -/
import Derived.Test.YtpflbchfjnkgiaaC1
import Derived.Test.YtpflbchfjnkgiaaMath
namespace Go.Proofs.Ytpflbchfjnkgiaa
open Go.RowKit

/-- The three numbers of the Hessian. -/
def hs1 (a b c : Int) : Int := b * b - 3 * a * c
def hs2 (a b c d : Int) : Int := b * c - 9 * a * d
def hs3 (b c d : Int) : Int := c * c - 3 * b * d

set_option maxRecDepth 100000 in
set_option maxHeartbeats 1000000 in
theorem iHess_any (a b c d : Int) (w : World) :
    Calls Try.prog 64 #[.agg #[.int .i64 a, .int .i64 b, .int .i64 c, .int .i64 d]] w fun e w' => e = .returned (.tuple #[.int .i64 (wrap64 (hs1 a b c)), .int .i64 (wrap64 (hs2 a b c d)), .int .i64 (wrap64 (hs3 b c d))]) ∧ Below w.heap.size w w' := by
  have A0 := Arr.new w a b c d 35
  have U0 := gr_alloc (Below.refl w.heap.size w) (.cells #[.int .i64 a, .int .i64 b, .int .i64 c, .int .i64 d] 35)
  go_enter Try.func64, Try.ntmps64
  go_upto_region 1 with fail
  generalize w.alloc (.cells #[.int .i64 a, .int .i64 b, .int .i64 c, .int .i64 d] 35) = W0 at A0 U0 ⊢
  obtain ⟨_, a0, a1, a2, a3, _⟩ := id A0
  go_quiet (fail)
  go_wp2
  go_ret3
  exact ⟨ret_tup3 (by simp only [hs1, wr_sl, wr_sr, wr_ml]) (by simp only [hs2, wr_sl, wr_sr, wr_ml]) (by simp only [hs3, wr_sl, wr_sr, wr_ml]), by (repeat' (first | with_reducible exact Below.refl _ _ | with_reducible assumption | with_reducible refine gr_alloc ?_ _ | with_reducible refine gr_drew ?_ | with_reducible refine gr_drewN ?_ _ | with_reducible refine gr_trans ?_ (by assumption) | with_reducible refine gr_set ?_ ?_ _ | (simp; done) | omega | (simp; omega)))⟩

end Go.Proofs.Ytpflbchfjnkgiaa
