/- Chapter 1: values, slopes, discriminants, determinants, products, reversed forms. -/
import Derived.Test.YtofoahdnkcbhbaaC1b
namespace Go.Proofs.Ytofoahdnkcbhbaa
open Go.RowKit


















end Go.Proofs.Ytofoahdnkcbhbaa
