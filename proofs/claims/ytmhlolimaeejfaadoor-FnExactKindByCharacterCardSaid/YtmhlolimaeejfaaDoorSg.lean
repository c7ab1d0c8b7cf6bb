/- The sign of the discriminant. -/
import Derived.Test.YtmhlolimaeejfaaDoorZ5
namespace Go.Proofs.YtmhlolimaeejfaaDoor
open Go.RowKit

def sg (x : Int) : Int := if 0 < x then 1 else if x < 0 then -1 else 0





end Go.Proofs.YtmhlolimaeejfaaDoor
