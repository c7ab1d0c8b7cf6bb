/- Chapter 1: contents. -/
import Derived.Test.YtigbaelbeaobpaaZ4
import Derived.Test.YtigbaelbeaobpaaZ6
namespace Go.Proofs.Ytigbaelbeaobpaa
open Go.RowKit









/-- The greatest common divisor of three numbers. -/
def cnt3 (a b c : Int) : Int := Int.gcd (Int.gcd a b) c



end Go.Proofs.Ytigbaelbeaobpaa
