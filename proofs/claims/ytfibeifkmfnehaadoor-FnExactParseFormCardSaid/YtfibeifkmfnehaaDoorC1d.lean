/- Chapter 1: slopes, discriminants, determinants. -/
import Derived.Test.YtfibeifkmfnehaaDoorC1c
namespace Go.Proofs.YtfibeifkmfnehaaDoor
open Go.RowKit




















end Go.Proofs.YtfibeifkmfnehaaDoor
