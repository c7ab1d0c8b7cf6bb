/- Chapter 1: reversed forms, products, sums. -/
import Derived.Test.YtmacdknamcdjeaaC1d
namespace Go.Proofs.Ytmacdknamcdjeaa
open Go.RowKit



end Go.Proofs.Ytmacdknamcdjeaa
