/- What the laws themselves call: copies, comparisons. -/
import Derived.Test.YtpflbchfjnkgiaaC1
namespace Go.Proofs.Ytpflbchfjnkgiaa
open Go.RowKit







end Go.Proofs.Ytpflbchfjnkgiaa
