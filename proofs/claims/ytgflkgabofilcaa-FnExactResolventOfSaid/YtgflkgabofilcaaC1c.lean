/- Chapter 1: values, slopes, discriminants, determinants, products, reversed forms. -/
import Derived.Test.YtgflkgabofilcaaC1b
namespace Go.Proofs.Ytgflkgabofilcaa
open Go.RowKit


















end Go.Proofs.Ytgflkgabofilcaa
