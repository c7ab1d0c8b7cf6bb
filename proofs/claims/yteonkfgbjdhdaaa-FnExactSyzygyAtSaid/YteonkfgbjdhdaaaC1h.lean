/- Chapter 1: contents. -/
import Derived.Test.YteonkfgbjdhdaaaC1d
import Derived.Test.YteonkfgbjdhdaaaC1g
import Derived.Test.YteonkfgbjdhdaaaArr3
namespace Go.Proofs.Yteonkfgbjdhdaaa
open Go.RowKit









/-- The greatest common divisor of three numbers. -/
def cnt3 (a b c : Int) : Int := Int.gcd (Int.gcd a b) c



end Go.Proofs.Yteonkfgbjdhdaaa
