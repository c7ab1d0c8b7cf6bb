/- Chapter 5: values and quotients of forms of any degree, the program's. -/
import Derived.Test.YtmhlolimaeejfaaPl
import Derived.Test.YtmhlolimaeejfaaPd
namespace Go.Proofs.Ytmhlolimaeejfaa
open Go.RowKit

/-- A slice, not nil, that reads as a list. -/
def RdP (w : World) (v : Value) (L : List Int) : Prop := ∃ b cap, v = .slice (some ⟨b, 0, none⟩) L.length cap ∧ L.length ≤ cap ∧ cap ≤ maxLen ∧ b < w.heap.size ∧ ∀ i, i < L.length → w.cell? ⟨b, i, none⟩ = some (.int .i64 (L.getD i 0))
theorem RdP.next {w w' : World} {v : Value} {L : List Int} (h : RdP w v L) (hb : Below w.heap.size w w') : RdP w' v L := by
  obtain ⟨b, cap, h1, h2, h3, h4, h5⟩ := h
  exact ⟨b, cap, h1, h2, h3, Nat.lt_of_lt_of_le h4 hb.size, fun i hi => (hb.cell (p := ⟨b, i, none⟩) h4).trans (h5 i hi)⟩
theorem OwnV.rdP {B : Nat} {w : World} {v : Value} {L : List Int} (h : OwnV B w v L.length (fun i => L.getD i 0)) (hL : L ≠ []) : RdP w v L := by
  rcases h with ⟨_, h⟩ | ⟨k, cap, h1, _, h2, h3, h4, h5⟩
  · exact absurd (List.length_eq_zero_iff.1 h) hL
  · exact ⟨k, cap, h1, h3, h4, h2, fun i hi => (h5 i hi).1⟩
theorem RdP.arr {w : World} {k : Nat} {a b c d : Int} (h : Arr w k a b c d) : RdP w (.slice (some ⟨k, 0, none⟩) 4 4) [a, b, c, d] := by
  refine ⟨k, 4, rfl, Nat.le_refl _, by decide, h.lt, fun i hi => ?_⟩
  match i, hi with
  | 0, _ => exact h.c0
  | 1, _ => exact h.c1
  | 2, _ => exact h.c2
  | 3, _ => exact h.c3

/-- One step of a value: the value so far, the power of y. -/
def nst (x y : Int) (s : Int × Int) (n : Int) : Int × Int := (pl (mu s.1 x) (mu n s.2), mu s.2 y)
def nsK (x y : Int) (L : List Int) (k : Nat) : Int × Int := (L.take k).foldl (nst x y) (0, 1)
/-- The value of a form of any degree, as int64 has it. -/
def nva (L : List Int) (x y : Int) : Int := (L.foldl (nst x y) (0, 1)).1
theorem take_succ_getD (L : List Int) (k : Nat) (h : k < L.length) : L.take (k + 1) = L.take k ++ [L.getD k 0] := by
  rw [List.take_succ_eq_append_getElem h]; simp [List.getD, h]
theorem nsK_0 (x y : Int) (L : List Int) : nsK x y L 0 = (0, 1) := rfl
theorem nsK_s {x y : Int} {L : List Int} {k : Nat} (h : k < L.length) : nsK x y L (k + 1) = (pl (mu (nsK x y L k).1 x) (mu (L.getD k 0) (nsK x y L k).2), mu (nsK x y L k).2 y) := by
  unfold nsK; rw [take_succ_getD L k h, List.foldl_append]; rfl
theorem nsK_e {x y : Int} {L : List Int} : (nsK x y L L.length).1 = nva L x y := by unfold nsK nva; rw [List.take_length]



/-- One step of a quotient: the number before, all so far. -/
def dst (x y : Int) (s : Int × List Int) (n : Int) : Int × List Int := (wrap64 ((pl n (mu x s.1)).tdiv y), s.2 ++ [wrap64 ((pl n (mu x s.1)).tdiv y)])
def dsK (x y : Int) (L : List Int) (k : Nat) : Int × List Int := (L.take k).foldl (dst x y) (0, [])
/-- The quotient by y X - x Y. -/
def dvd (L : List Int) (x y : Int) : List Int := if y = 0 then (L.drop 1).map (fun n => wrap64 (-n)) else (L.dropLast.foldl (dst x y) (0, [])).2
theorem dsK_0 (x y : Int) (L : List Int) : dsK x y L 0 = (0, []) := rfl
theorem dsK_s {x y : Int} {L : List Int} {k : Nat} (h : k < L.length) : dsK x y L (k + 1) = (wrap64 ((pl (L.getD k 0) (mu x (dsK x y L k).1)).tdiv y), (dsK x y L k).2 ++ [wrap64 ((pl (L.getD k 0) (mu x (dsK x y L k).1)).tdiv y)]) := by
  unfold dsK; rw [take_succ_getD L k h, List.foldl_append]; rfl
theorem dsK_len {x y : Int} {L : List Int} {k : Nat} (h : k ≤ L.length) : (dsK x y L k).2.length = k := by
  induction k with
  | zero => rfl
  | succ k ih => rw [dsK_s (by omega)]; simp [ih (by omega)]
theorem dsK_e {x y : Int} {L : List Int} {n : Nat} (hL : L.length = n + 1) (hy : y ≠ 0) : (dsK x y L n).2 = dvd L x y := by
  unfold dsK dvd; rw [if_neg hy, List.dropLast_eq_take, hL]; rfl
theorem dvd_len {x y : Int} {L : List Int} {n : Nat} (hL : L.length = n + 1) : (dvd L x y).length = n := by
  by_cases hy : y = 0
  · simp [dvd, hy, hL]
  · rw [← dsK_e hL hy]; exact dsK_len (by omega)


end Go.Proofs.Ytmhlolimaeejfaa
