/- Chapter 4: TraceOf, NormOf, IndexOf, DiscriminantOfElem. -/
import Derived.Test.YtfompkidjfnjnaaDoorE9
import Derived.Test.YtfompkidjfnjnaaDoorEN
import Derived.Test.YtfompkidjfnjnaaDoorC1d
namespace Go.Proofs.YtfompkidjfnjnaaDoor
open Go.RowKit

/-- The code of an index. -/
def mx (y : Int) : Int := if y ≤ wrap64 (-y) then wrap64 (-y) else y
def ixc (k y : Int) : Int := if k = 0 then (if 1000000000000000 < mx y then 3 else 0) else k
theorem fec_f {a b c d u v x : Int} (h : isF a b c d = false) : fec a b c d u v x = 1 := by simp [fec, h]
theorem fec_e {a b c d u v x : Int} (h : isE u v x = false) : fec a b c d u v x = 1 := by simp [fec, h]
theorem fec_y {a b c d u v x : Int} (h : isF a b c d = true) (h' : isE u v x = true) : fec a b c d u v x = 0 := by simp [fec, h, h']










end Go.Proofs.YtfompkidjfnjnaaDoor