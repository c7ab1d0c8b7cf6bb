/- Chapter 1: reversed forms, products, sums. -/
import Derived.Test.YtambbhldhhlfgaaC1d
namespace Go.Proofs.Ytambbhldhhlfgaa
open Go.RowKit



end Go.Proofs.Ytambbhldhhlfgaa
