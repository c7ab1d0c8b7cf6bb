/- Chapter 4: MultiplyElems, AddElems. -/
import Derived.Test.YtfompkidjfnjnaaDoorE2
import Derived.Test.YtfompkidjfnjnaaDoorE3
import Derived.Test.YtfompkidjfnjnaaDoorE8
import Derived.Deep.RegionHeld3
import Derived.Deep.DeepCutAuto
namespace Go.Proofs.YtfompkidjfnjnaaDoor
open Go.RowKit

/-- The code of a product, of a sum. -/
def mec (g : Bool) (k0 k1 k2 : Int) : Int := if g then elc k0 k1 k2 else 1
def aec (g h : Bool) (k0 k1 k2 : Int) : Int := if g then (if h then elc k0 k1 k2 else 2) else 1
theorem cells433 {W : World} {i j l : Nat} {a b c d p q r x y z : Int} (K : Arr W i a b c d) (L : Arr3 W j p q r) (N : Arr3 W l x y z) :
    W.cell? ⟨i, 0, none⟩ = some (.int .i64 a) ∧ W.cell? ⟨i, 1, none⟩ = some (.int .i64 b) ∧ W.cell? ⟨i, 2, none⟩ = some (.int .i64 c) ∧ W.cell? ⟨i, 3, none⟩ = some (.int .i64 d) ∧ W.cell? ⟨j, 0, none⟩ = some (.int .i64 p) ∧ W.cell? ⟨j, 1, none⟩ = some (.int .i64 q) ∧ W.cell? ⟨j, 2, none⟩ = some (.int .i64 r) ∧ W.cell? ⟨l, 0, none⟩ = some (.int .i64 x) ∧ W.cell? ⟨l, 1, none⟩ = some (.int .i64 y) ∧ W.cell? ⟨l, 2, none⟩ = some (.int .i64 z) :=
  ⟨K.c0, K.c1, K.c2, K.c3, L.c0, L.c1, L.c2, N.c0, N.c1, N.c2⟩





end Go.Proofs.YtfompkidjfnjnaaDoor