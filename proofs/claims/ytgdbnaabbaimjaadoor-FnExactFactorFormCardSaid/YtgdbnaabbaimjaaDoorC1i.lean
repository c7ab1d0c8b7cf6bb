/- Chapter 1: primitive parts. -/
import Derived.Test.YtgdbnaabbaimjaaDoorC1h
namespace Go.Proofs.YtgdbnaabbaimjaaDoor
open Go.RowKit



end Go.Proofs.YtgdbnaabbaimjaaDoor
