/- Chapter 4: inverses of units: the numbers of the answer. -/
import Derived.Test.YtfompkidjfnjnaaDoorIv
namespace Go.Proofs.YtfompkidjfnjnaaDoor
open Go.RowKit

/-- The norm, and the numbers of the inverse. -/
def ivN (a b c d u v x : Int) : Int := wrap64 (-(wrap64 (-de3 (mtf a b c d u v x))))
def iv0 (a b c d u v x : Int) : Int := ivn (ivN a b c d u v x) (m0 (np a c) (np a d) (np b d) u v x u v x) (wrap64 (-tr3 (mtf a b c d u v x))) u (wrap64 (mi3 (mtf a b c d u v x))) 1
def iv1 (a b c d u v x : Int) : Int := ivn (ivN a b c d u v x) (m1 b 0 d u v x u v x) (wrap64 (-tr3 (mtf a b c d u v x))) v (wrap64 (mi3 (mtf a b c d u v x))) 0
def iv2 (a b c d u v x : Int) : Int := ivn (ivN a b c d u v x) (m2 (ng a) 0 (ng c) u v x u v x) (wrap64 (-tr3 (mtf a b c d u v x))) x (wrap64 (mi3 (mtf a b c d u v x))) 0
/-- The code of the answer. -/
def ivK (k N e : Int) : Int := if k = 0 then (if N = 1 ∨ N = -1 then e else 5) else k
def ivc (a b c d u v x : Int) : Int := ivK (few 100 a b c d u v x) (ivN a b c d u v x) (elc (iv0 a b c d u v x) (iv1 a b c d u v x) (iv2 a b c d u v x))
theorem ivK_n {k N e : Int} (h : ¬ k = 0) : ivK k N e = k := by simp [ivK, h]
theorem ivK_u {N e : Int} (h : N = 1 ∨ N = -1) : ivK 0 N e = e := by simp [ivK, h]
theorem ivK_5 {N e : Int} (h : ¬ (N = 1 ∨ N = -1)) : ivK 0 N e = 5 := by simp only [ivK, if_true, if_neg h]


end Go.Proofs.YtfompkidjfnjnaaDoor
