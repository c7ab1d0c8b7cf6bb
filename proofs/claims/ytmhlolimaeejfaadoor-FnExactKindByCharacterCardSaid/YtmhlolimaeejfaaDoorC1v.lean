/- Chapter 1: changed forms of the program and of the model, whole. -/
import Derived.Test.YtmhlolimaeejfaaDoorC1u
import Derived.Test.YtmhlolimaeejfaaDoorZ10
import Derived.Deep.DeepCutAuto
import Derived.Deep.RegionHeld3
namespace Go.Proofs.YtmhlolimaeejfaaDoor
open Go.RowKit

/-- The code of a changed form. -/
def chc (a b c d p q r s : Int) : Int := if isF a b c d && isF p q r s then (if isF (cA a b c d p r) (cB a b c d p q r s) (cC a b c d p q r s) (cA a b c d q s) then 0 else 3) else 1









end Go.Proofs.YtmhlolimaeejfaaDoor
