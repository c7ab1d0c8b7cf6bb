/- Chapter 1: products of matrices. -/
import Derived.Test.YtgdbnaabbaimjaaDoorC1e
namespace Go.Proofs.YtgdbnaabbaimjaaDoor
open Go.RowKit









end Go.Proofs.YtgdbnaabbaimjaaDoor
