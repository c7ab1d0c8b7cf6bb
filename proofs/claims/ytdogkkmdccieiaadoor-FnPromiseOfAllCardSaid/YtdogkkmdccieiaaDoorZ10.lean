/- Several texts in one: XC1e, XC1f, XC1p. -/
import Derived.Test.YtdogkkmdccieiaaDoorZ4

/- Chapter 1: reversed forms, products, sums. -/
namespace Go.Proofs.YtdogkkmdccieiaaDoor
open Go.RowKit



end Go.Proofs.YtdogkkmdccieiaaDoor

/- Chapter 1: products of matrices. -/
namespace Go.Proofs.YtdogkkmdccieiaaDoor
open Go.RowKit









end Go.Proofs.YtdogkkmdccieiaaDoor

/- Chapter 1: inverse matrices of the model. -/
namespace Go.Proofs.YtdogkkmdccieiaaDoor
open Go.RowKit

def isUnit (a b c d : Int) : Bool := det a b c d == 1 || det a b c d == -1
/-- The code of an inverse matrix. -/
def ivc (a b c d : Int) : Int := if isF a b c d then (if isUnit a b c d then 0 else 5) else 1

theorem mul_bd {x y : Int} (hx : -1000 ≤ x ∧ x ≤ 1000) (hy : -1000 ≤ y ∧ y ≤ 1000) : -1000000 ≤ x * y ∧ x * y ≤ 1000000 := by
  have h : (x * y).natAbs ≤ 1000 * 1000 := by
    rw [Int.natAbs_mul]; exact Nat.mul_le_mul (by omega) (by omega)
  omega
theorem wrap_id {n : Int} (h : -1000000000000000000 ≤ n ∧ n ≤ 1000000000000000000) : wrap64 n = n := IntWalk.wrap64_in n (by omega)





end Go.Proofs.YtdogkkmdccieiaaDoor
