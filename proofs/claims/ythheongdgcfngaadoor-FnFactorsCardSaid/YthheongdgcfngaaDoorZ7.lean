/- Several texts in one: XC1e, XC1f. -/
import Derived.Test.YthheongdgcfngaaDoorZ3

/- Chapter 1: reversed forms, products, sums. -/
namespace Go.Proofs.YthheongdgcfngaaDoor
open Go.RowKit



end Go.Proofs.YthheongdgcfngaaDoor

/- Chapter 1: products of matrices. -/
namespace Go.Proofs.YthheongdgcfngaaDoor
open Go.RowKit









end Go.Proofs.YthheongdgcfngaaDoor
