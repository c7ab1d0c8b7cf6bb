/- What the laws themselves call: copies, comparisons. -/
import Derived.Test.YtambbhldhhlfgaaDoorZ2
namespace Go.Proofs.YtambbhldhhlfgaaDoor
open Go.RowKit







end Go.Proofs.YtambbhldhhlfgaaDoor
