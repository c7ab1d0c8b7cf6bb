/- Chapter 1: the contracts of the plain functions. -/
import Derived.Test.YtgflkgabofilcaaBase
namespace Go.Proofs.Ytgflkgabofilcaa
open Go.RowKit

set_option maxHeartbeats 400000 in
theorem isWithin_any (n l : Int) (w : World) (h0 : 0 ≤ l) (h1 : l ≤ 1000000000000) :
    Calls Try.prog 12 #[.int .i64 n, .int .i64 l] w fun e w' => e = .returned (.bool (rng (-l) l n)) ∧ w = w' := by
  go_enter Try.func12, Try.ntmps12
  go_wp2
  all_goals (go_ret; exact ⟨ret_bool (by simp [rng]; try omega), rfl⟩)

set_option maxHeartbeats 400000 in
theorem l01In_any (n lo hi : Int) (w : World) :
    Calls Try.prog 9 #[.int .i64 n, .int .i64 lo, .int .i64 hi] w fun e w' => e = .returned (.bool (rng lo hi n)) ∧ w = w' := by
  go_enter Try.func9, Try.ntmps9
  go_wp2
  all_goals (go_ret; exact ⟨ret_bool (by simp [rng]; try omega), rfl⟩)







end Go.Proofs.Ytgflkgabofilcaa
