/- Chapter 1: reversed forms, products, sums. -/
import Derived.Test.YtodbbbgokegehaaC1d
namespace Go.Proofs.Ytodbbbgokegehaa
open Go.RowKit



end Go.Proofs.Ytodbbbgokegehaa
