/- Chapter 5: points modulo a prime, the program's; rows of pairs and triples. -/
import Derived.Test.YtmhlolimaeejfaaPl
import Derived.Test.YtmhlolimaeejfaaPd
namespace Go.Proofs.Ytmhlolimaeejfaa
open Go.RowKit



theorem flat_get {α : Type} (f : α → List Value) (s : Nat) (hf : ∀ a, (f a).length = s) : ∀ (L : List α) (i j : Nat) (hi : i < L.length), j < s → (L.flatMap f)[i * s + j]? = (f L[i])[j]? := by
  intro L
  induction L with
  | nil => intro i j hi; simp at hi
  | cons a L ih =>
    intro i j hi hj
    cases i with
    | zero => simp only [Nat.zero_mul, Nat.zero_add, List.flatMap_cons, List.getElem_cons_zero]; rw [List.getElem?_append_left (by rw [hf]; exact hj)]
    | succ i =>
      simp only [List.flatMap_cons, List.getElem_cons_succ]
      rw [List.getElem?_append_right (by rw [hf, Nat.succ_mul]; omega), hf]
      rw [show (i + 1) * s + j - s = i * s + j by rw [Nat.succ_mul]; omega]
      exact ih i j (by simpa using hi) hj
/-- The two cells of a pair. -/
def pr2 (q : Int × Int) : List Value := [.int .i64 q.1, .int .i64 q.2]
/-- The points 0, 1 and so on; then 1, 0. -/
def ptl (k : Nat) : List (Int × Int) := (List.range k).map fun x : Nat => ((x : Int), 1)
def ptm (p : Int) : List (Int × Int) := ptl p.toNat ++ [(1, 0)]
theorem ptl_s (k : Nat) : ptl (k + 1) = ptl k ++ [((k : Int), 1)] := by simp [ptl, List.range_succ]
theorem ptl_len (k : Nat) : (ptl k).length = k := by simp [ptl]
theorem ptm_len (p : Int) : (ptm p).length = p.toNat + 1 := by simp [ptm, ptl]
theorem pl_app {w : World} {B : Nat} {t : TypeId} {v : Value} {k : Nat} {P P' : List (Int × Int)} {q : Int × Int} (hl : P.length = k) (hs : P' = P ++ [q]) (h : w.ownsRow B t 2 v (k + 1) (P.flatMap pr2 ++ [.int .i64 q.1, .int .i64 q.2])) : w.ownsRow B t 2 v P'.length (P'.flatMap pr2) := by
  subst hs; simpa [hl, pr2] using h




end Go.Proofs.Ytmhlolimaeejfaa
