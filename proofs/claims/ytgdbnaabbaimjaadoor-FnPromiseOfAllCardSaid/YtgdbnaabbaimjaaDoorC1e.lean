/- Chapter 1: reversed forms, products, sums. -/
import Derived.Test.YtgdbnaabbaimjaaDoorC1d
namespace Go.Proofs.YtgdbnaabbaimjaaDoor
open Go.RowKit



end Go.Proofs.YtgdbnaabbaimjaaDoor
