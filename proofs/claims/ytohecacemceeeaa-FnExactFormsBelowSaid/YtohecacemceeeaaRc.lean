/- Chapter 5: points modulo a prime, the program's; rows of pairs and triples. -/
import Derived.Test.YtohecacemceeeaaPl
import Derived.Test.YtohecacemceeeaaPd
namespace Go.Proofs.Ytohecacemceeeaa
open Go.RowKit








end Go.Proofs.Ytohecacemceeeaa
