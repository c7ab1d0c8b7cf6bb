/- Chapter 1: values, slopes, discriminants, determinants, products, reversed forms. -/
import Derived.Test.YtfibeifkmfnehaaDoorC1b
namespace Go.Proofs.YtfibeifkmfnehaaDoor
open Go.RowKit


















end Go.Proofs.YtfibeifkmfnehaaDoor
