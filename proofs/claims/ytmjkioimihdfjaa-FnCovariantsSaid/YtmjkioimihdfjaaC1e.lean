/- Chapter 1: reversed forms, products, sums. -/
import Derived.Test.YtmjkioimihdfjaaC1d
namespace Go.Proofs.Ytmjkioimihdfjaa
open Go.RowKit



end Go.Proofs.Ytmjkioimihdfjaa
