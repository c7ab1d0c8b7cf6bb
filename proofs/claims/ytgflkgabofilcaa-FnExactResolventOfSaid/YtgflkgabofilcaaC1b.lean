/- Chapter 1: the contracts of the functions that only look or reckon. -/
import Derived.Test.YtgflkgabofilcaaC1
namespace Go.Proofs.Ytgflkgabofilcaa
open Go.RowKit







end Go.Proofs.Ytgflkgabofilcaa
