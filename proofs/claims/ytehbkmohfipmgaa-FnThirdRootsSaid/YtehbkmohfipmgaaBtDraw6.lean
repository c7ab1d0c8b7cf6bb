/- Draws: matrices. -/
import Derived.Test.YtehbkmohfipmgaaBtZ16
namespace Go.Proofs.Ytehbkmohfipmgaa
open Go.ChangeShapes Go.WideShapes Go.ChangeAt Go.RowKit






end Go.Proofs.Ytehbkmohfipmgaa
