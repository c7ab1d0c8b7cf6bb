/- Chapter 1: slopes, discriminants, determinants. -/
import Derived.Test.YtgflkgabofilcaaC1c
namespace Go.Proofs.Ytgflkgabofilcaa
open Go.RowKit




















end Go.Proofs.Ytgflkgabofilcaa
