/- What the laws themselves call: copies, comparisons. -/
import Derived.Test.YtodbbbgokegehaaC1
namespace Go.Proofs.Ytodbbbgokegehaa
open Go.RowKit







end Go.Proofs.Ytodbbbgokegehaa
