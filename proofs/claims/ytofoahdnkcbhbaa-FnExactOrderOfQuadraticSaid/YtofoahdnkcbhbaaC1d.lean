/- Chapter 1: slopes, discriminants, determinants. -/
import Derived.Test.YtofoahdnkcbhbaaC1c
namespace Go.Proofs.Ytofoahdnkcbhbaa
open Go.RowKit




















end Go.Proofs.Ytofoahdnkcbhbaa
