/- Chapter 1: inverse matrices of the model. -/
import Derived.Test.YthheongdgcfngaaDoorZ11
namespace Go.Proofs.YthheongdgcfngaaDoor
open Go.RowKit

def isUnit (a b c d : Int) : Bool := det a b c d == 1 || det a b c d == -1
/-- The code of an inverse matrix. -/
def ivc (a b c d : Int) : Int := if isF a b c d then (if isUnit a b c d then 0 else 5) else 1

theorem mul_bd {x y : Int} (hx : -1000 ≤ x ∧ x ≤ 1000) (hy : -1000 ≤ y ∧ y ≤ 1000) : -1000000 ≤ x * y ∧ x * y ≤ 1000000 := by
  have h : (x * y).natAbs ≤ 1000 * 1000 := by
    rw [Int.natAbs_mul]; exact Nat.mul_le_mul (by omega) (by omega)
  omega
theorem wrap_id {n : Int} (h : -1000000000000000000 ≤ n ∧ n ≤ 1000000000000000000) : wrap64 n = n := IntWalk.wrap64_in n (by omega)





end Go.Proofs.YthheongdgcfngaaDoor
