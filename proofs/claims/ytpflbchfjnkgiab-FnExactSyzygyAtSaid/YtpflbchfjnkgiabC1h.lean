/- Chapter 1: contents. -/
import Derived.Test.YtpflbchfjnkgiabC1d
import Derived.Test.YtpflbchfjnkgiabC1g
import Derived.Test.YtpflbchfjnkgiabArr3
namespace Go.Proofs.Ytpflbchfjnkgiab
open Go.RowKit









/-- The greatest common divisor of three numbers. -/
def cnt3 (a b c : Int) : Int := Int.gcd (Int.gcd a b) c



end Go.Proofs.Ytpflbchfjnkgiab
