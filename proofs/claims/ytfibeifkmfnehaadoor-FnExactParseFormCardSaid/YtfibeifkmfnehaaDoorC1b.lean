/- Chapter 1: the contracts of the functions that only look or reckon. -/
import Derived.Test.YtfibeifkmfnehaaDoorC1
namespace Go.Proofs.YtfibeifkmfnehaaDoor
open Go.RowKit

set_option maxHeartbeats 400000 in
theorem iIsForm_any (a b c d : Int) (w : World) :
    Calls Tryd.prog 13 #[.agg #[.int .i64 a, .int .i64 b, .int .i64 c, .int .i64 d]] w fun e w' => e = .returned (.bool (isF a b c d)) ∧ Below w.heap.size w w' := by
  go_enter Tryd.func13, Tryd.ntmps13
  go_wp2_with fail
  refine (allWithin_any _ a b c d _ (Arr.new _ _ _ _ _ _)).mono ?_
  rintro e w1 ⟨rfl, rfl⟩
  go_wp2
  go_ret
  exact ⟨rfl, by go_grown⟩





end Go.Proofs.YtfibeifkmfnehaaDoor
