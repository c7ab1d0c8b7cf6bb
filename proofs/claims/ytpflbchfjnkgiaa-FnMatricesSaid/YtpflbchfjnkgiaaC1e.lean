/- Chapter 1: reversed forms, products, sums. -/
import Derived.Test.YtpflbchfjnkgiaaC1d
namespace Go.Proofs.Ytpflbchfjnkgiaa
open Go.RowKit



end Go.Proofs.Ytpflbchfjnkgiaa
