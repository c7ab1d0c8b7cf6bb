/- Lists of three rows of three numbers: comparisons, marks, what they hold. -/
import Derived.Test.YtambbhldhhlfgaaE4
import Derived.Test.YtambbhldhhlfgaaZ5
import Derived.Deep.RegionHeld3
import Derived.Deep.DeepCutAuto
namespace Go.Proofs.Ytambbhldhhlfgaa
open Go.RowKit

def RdR (w : World) (v : Value) (n : Nat) (M : Nat → Nat → Int) : Prop :=
  (v = .slice none 0 0 ∧ n = 0) ∨ (n = 3 ∧ ∃ rb cap t0 t1 t2, v = .slice (some ⟨rb, 0, none⟩) 3 cap ∧ 3 ≤ cap ∧ cap ≤ maxLen ∧ rb < w.heap.size ∧ w.cell? ⟨rb, 0, none⟩ = some (.slice (some ⟨t0, 0, none⟩) 3 3) ∧ w.cell? ⟨rb, 1, none⟩ = some (.slice (some ⟨t1, 0, none⟩) 3 3) ∧ w.cell? ⟨rb, 2, none⟩ = some (.slice (some ⟨t2, 0, none⟩) 3 3) ∧ Arr3 w t0 (M 0 0) (M 0 1) (M 0 2) ∧ Arr3 w t1 (M 1 0) (M 1 1) (M 1 2) ∧ Arr3 w t2 (M 2 0) (M 2 1) (M 2 2))
def RdBR (B : Nat) (w : World) (v : Value) (n : Nat) (M : Nat → Nat → Int) : Prop :=
  (v = .slice none 0 0 ∧ n = 0) ∨ (n = 3 ∧ ∃ rb cap t0 t1 t2, v = .slice (some ⟨rb, 0, none⟩) 3 cap ∧ 3 ≤ cap ∧ cap ≤ maxLen ∧ rb < B ∧ t0 < B ∧ t1 < B ∧ t2 < B ∧ w.cell? ⟨rb, 0, none⟩ = some (.slice (some ⟨t0, 0, none⟩) 3 3) ∧ w.cell? ⟨rb, 1, none⟩ = some (.slice (some ⟨t1, 0, none⟩) 3 3) ∧ w.cell? ⟨rb, 2, none⟩ = some (.slice (some ⟨t2, 0, none⟩) 3 3) ∧ Arr3 w t0 (M 0 0) (M 0 1) (M 0 2) ∧ Arr3 w t1 (M 1 0) (M 1 1) (M 1 2) ∧ Arr3 w t2 (M 2 0) (M 2 1) (M 2 2))
def OwnR (B : Nat) (w : World) (v : Value) (n : Nat) (M : Nat → Nat → Int) : Prop :=
  (v = .slice none 0 0 ∧ n = 0) ∨ (n = 3 ∧ RowsO B w v M)
theorem RdBR.rd {B : Nat} {w : World} {v : Value} {n : Nat} {M : Nat → Nat → Int} (h : RdBR B w v n M) (hB : B ≤ w.heap.size) : RdR w v n M := by
  rcases h with h | ⟨hn, rb, cap, t0, t1, t2, h1, h2, h3, h4, _, _, _, h⟩
  · exact .inl h
  · exact .inr ⟨hn, rb, cap, t0, t1, t2, h1, h2, h3, by omega, h⟩
theorem RdBR.below {B : Nat} {w w' : World} {v : Value} {n : Nat} {M : Nat → Nat → Int} (h : RdBR B w v n M) {C : Nat} (hb : Below C w w') (hK : B ≤ C) : RdBR B w' v n M := by
  rcases h with h | ⟨hn, rb, cap, t0, t1, t2, h1, h2, h3, h4, h5, h6, h7, c0, c1, c2, a0, a1, a2⟩
  · exact .inl h
  · exact .inr ⟨hn, rb, cap, t0, t1, t2, h1, h2, h3, h4, h5, h6, h7, (hb.cell (p := ⟨rb, 0, none⟩) (by show rb < C; omega)).trans c0, (hb.cell (p := ⟨rb, 1, none⟩) (by show rb < C; omega)).trans c1, (hb.cell (p := ⟨rb, 2, none⟩) (by show rb < C; omega)).trans c2, a0.below hb (by omega), a1.below hb (by omega), a2.below hb (by omega)⟩
theorem OwnR.rdB {B : Nat} {w : World} {v : Value} {n : Nat} {M : Nat → Nat → Int} (h : OwnR B w v n M) : RdBR w.heap.size w v n M := by
  rcases h with h | ⟨hn, rb, cap, t0, t1, t2, h1, h2, h3, h4, h5, h6, h7, h8, h9, h10, h11, h12, h13, c0, c1, c2, a0, a1, a2⟩
  · exact .inl h
  · exact .inr ⟨hn, rb, cap, t0, t1, t2, h1, h2, h3, h5, a0.lt, a1.lt, a2.lt, c0, c1, c2, a0, a1, a2⟩
theorem OwnR.rd {B : Nat} {w : World} {v : Value} {n : Nat} {M : Nat → Nat → Int} (h : OwnR B w v n M) : RdR w v n M := h.rdB.rd (Nat.le_refl _)
theorem OwnR.next {B : Nat} {w w' : World} {v : Value} {n : Nat} {M : Nat → Nat → Int} (h : OwnR B w v n M) (hb : Below w.heap.size w w') : OwnR B w' v n M := by
  rcases h with h | ⟨hn, h⟩
  · exact .inl h
  · exact .inr ⟨hn, h.next hb⟩
theorem OwnR.base {B B' : Nat} {w : World} {v : Value} {n : Nat} {M : Nat → Nat → Int} (h : OwnR B w v n M) (hB : B' ≤ B) : OwnR B' w v n M := by
  rcases h with h | ⟨hn, rb, cap, t0, t1, t2, h1, h2, h3, h4, h5, h6, h7, h8, h9⟩
  · exact .inl h
  · exact .inr ⟨hn, rb, cap, t0, t1, t2, h1, h2, h3, by omega, h5, by omega, by omega, by omega, h9⟩
/-- Rows that the call laid, and a code. -/
def RowOut (code : Int) (n : Nat) (M : Nat → Nat → Int) (w : World) (e : Ending) (w' : World) : Prop :=
  ∃ v, e = .returned (.tuple #[v, .int .i64 code]) ∧ OwnR w.heap.size w' v (if code = 0 then n else 0) M ∧ Below w.heap.size w w'
def q3 (x y z : Int) (i : Nat) : Int := if i = 0 then x else if i = 1 then y else z
theorem Arr3.cl {w : World} {k : Nat} {a b c : Int} (h : Arr3 w k a b c) : Cl w k 3 (q3 a b c) := by
  refine ⟨h.lt, fun i hi => ?_⟩
  match i, hi with
  | 0, _ => exact ⟨h.c0, h.f0⟩
  | 1, _ => exact ⟨h.c1, h.f1⟩
  | 2, _ => exact ⟨h.c2, h.f2⟩
theorem Cl.arr3 {w : World} {k : Nat} {g : Nat → Int} (h : Cl w k 3 g) : Arr3 w k (g 0) (g 1) (g 2) :=
  ⟨h.1, (h.2 0 (by omega)).1, (h.2 1 (by omega)).1, (h.2 2 (by omega)).1, (h.2 0 (by omega)).2, (h.2 1 (by omega)).2, (h.2 2 (by omega)).2⟩
theorem Arr3.rd {w : World} {k : Nat} {a b c : Int} (h : Arr3 w k a b c) : Rd w (.slice (some ⟨k, 0, none⟩) 3 3) 3 (q3 a b c) :=
  .inr ⟨k, 3, rfl, Nat.le_refl _, by decide, h.lt, fun i hi => (h.cl.2 i hi).1⟩



/-- Block k alone may have turned. -/
def KB (k : Nat) (w w' : World) : Prop := w'.os = w.os ∧ w'.tape = w.tape ∧ w'.output = w.output ∧ w.heap.size ≤ w'.heap.size ∧ ∀ j, j < w.heap.size → j ≠ k → w'.heap[j]? = w.heap[j]?
theorem KB.refl (k : Nat) (w : World) : KB k w w := ⟨rfl, rfl, rfl, Nat.le_refl _, fun _ _ _ => rfl⟩
theorem KB.set {k : Nat} {w w' : World} (h : KB k w w') (i : Nat) (v : Value) : KB k w (w'.setCell ⟨k, i, none⟩ v) :=
  ⟨h.1, h.2.1, h.2.2.1, by rw [World.size_setCell]; exact h.2.2.2.1, fun j hj hne => (Go.Deep.blk_setCell_other _ _ _ _ hne).trans (h.2.2.2.2 j hj hne)⟩
theorem KB.below {k B : Nat} {w w' : World} (h : KB k w w') (hB : B ≤ k) (hk : k < w.heap.size) : Below B w w' :=
  ⟨h.1, h.2.1, h.2.2.1, h.2.2.2.1, fun j hj => h.2.2.2.2 j (by omega) (by omega)⟩
theorem KB.cell {k : Nat} {w w' : World} (h : KB k w w') {j i : Nat} (hj : j < w.heap.size) (hne : j ≠ k) : w'.cell? ⟨j, i, none⟩ = w.cell? ⟨j, i, none⟩ := World.cell?_of_block (a := ⟨j, i, none⟩) (h.2.2.2.2 j hj hne)
theorem KB.frozen {k : Nat} {w w' : World} (h : KB k w w') {j i : Nat} (hj : j < w.heap.size) (hne : j ≠ k) : w'.frozen? ⟨j, i, none⟩ = w.frozen? ⟨j, i, none⟩ := World.frozen?_of_block (a := ⟨j, i, none⟩) (h.2.2.2.2 j hj hne)
theorem KB.arr3 {k : Nat} {w w' : World} (h : KB k w w') {j : Nat} {a b c : Int} (hA : Arr3 w j a b c) (hne : j ≠ k) : Arr3 w' j a b c :=
  ⟨Nat.lt_of_lt_of_le hA.lt h.2.2.2.1, (h.cell hA.lt hne).trans hA.c0, (h.cell hA.lt hne).trans hA.c1, (h.cell hA.lt hne).trans hA.c2, (h.frozen hA.lt hne).trans hA.f0, (h.frozen hA.lt hne).trans hA.f1, (h.frozen hA.lt hne).trans hA.f2⟩





def mkR (i j : Nat) : Int := 1 + 3 * i + j





end Go.Proofs.Ytambbhldhhlfgaa
