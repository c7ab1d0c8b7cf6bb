/- Chapter 1: sums of forms. -/
import Derived.Test.YtpbkadljclfogaaC1d
namespace Go.Proofs.Ytpbkadljclfogaa
open Go.RowKit

/-- One number of a sum. -/
def am (x k y : Int) : Int := pl x (mu k y)



end Go.Proofs.Ytpbkadljclfogaa
