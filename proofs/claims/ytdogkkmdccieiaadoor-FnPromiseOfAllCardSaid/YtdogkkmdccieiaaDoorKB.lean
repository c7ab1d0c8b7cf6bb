/- Lists of rows of integers: comparisons, marks, what they hold. -/
import Derived.Test.YtdogkkmdccieiaaDoorPl
import Derived.Deep.RegionHeld3
import Derived.Deep.DeepCutAuto
namespace Go.Proofs.YtdogkkmdccieiaaDoor
open Go.RowKit

/-- Block k alone may have turned. -/
def KB (k : Nat) (w w' : World) : Prop := w'.os = w.os ∧ w'.tape = w.tape ∧ w'.output = w.output ∧ w.heap.size ≤ w'.heap.size ∧ ∀ j, j < w.heap.size → j ≠ k → w'.heap[j]? = w.heap[j]?
theorem KB.refl (k : Nat) (w : World) : KB k w w := ⟨rfl, rfl, rfl, Nat.le_refl _, fun _ _ _ => rfl⟩
theorem KB.set {k : Nat} {w w' : World} (h : KB k w w') (i : Nat) (v : Value) : KB k w (w'.setCell ⟨k, i, none⟩ v) :=
  ⟨h.1, h.2.1, h.2.2.1, by rw [World.size_setCell]; exact h.2.2.2.1, fun j hj hne => (Go.Deep.blk_setCell_other _ _ _ _ hne).trans (h.2.2.2.2 j hj hne)⟩
theorem KB.below {k B : Nat} {w w' : World} (h : KB k w w') (hB : B ≤ k) (hk : k < w.heap.size) : Below B w w' :=
  ⟨h.1, h.2.1, h.2.2.1, h.2.2.2.1, fun j hj => h.2.2.2.2 j (by omega) (by omega)⟩
theorem KB.cell {k : Nat} {w w' : World} (h : KB k w w') {j i : Nat} (hj : j < w.heap.size) (hne : j ≠ k) : w'.cell? ⟨j, i, none⟩ = w.cell? ⟨j, i, none⟩ := World.cell?_of_block (a := ⟨j, i, none⟩) (h.2.2.2.2 j hj hne)
theorem KB.frozen {k : Nat} {w w' : World} (h : KB k w w') {j i : Nat} (hj : j < w.heap.size) (hne : j ≠ k) : w'.frozen? ⟨j, i, none⟩ = w.frozen? ⟨j, i, none⟩ := World.frozen?_of_block (a := ⟨j, i, none⟩) (h.2.2.2.2 j hj hne)
theorem KB.arr3 {k : Nat} {w w' : World} (h : KB k w w') {j : Nat} {a b c : Int} (hA : Arr3 w j a b c) (hne : j ≠ k) : Arr3 w' j a b c :=
  ⟨Nat.lt_of_lt_of_le hA.lt h.2.2.2.1, (h.cell hA.lt hne).trans hA.c0, (h.cell hA.lt hne).trans hA.c1, (h.cell hA.lt hne).trans hA.c2, (h.frozen hA.lt hne).trans hA.f0, (h.frozen hA.lt hne).trans hA.f1, (h.frozen hA.lt hne).trans hA.f2⟩





/-- A list of n rows of s integers; all blocks from B on, below C. -/
def RowsC (B C : Nat) (w : World) (v : Value) (s n : Nat) (G : Nat → Nat → Int) (T : Nat → Nat) : Prop :=
  ∃ a cap, v = .slice a n cap ∧ n ≤ cap ∧ cap ≤ maxLen ∧ C ≤ w.heap.size ∧ (0 < n → ∃ g, a = some ⟨g, 0, none⟩ ∧ B ≤ g ∧ g < C ∧ ∀ i, i < n → w.cell? ⟨g, i, none⟩ = some (.slice (some ⟨T i, 0, none⟩) s s) ∧ T i ≠ g) ∧
    (∀ i, i < n → B ≤ T i ∧ T i < C ∧ Cl w (T i) s (G i)) ∧ ∀ i j, i < j → j < n → T i < T j
theorem Cl.belowC {w w' : World} {k len C : Nat} {g : Nat → Int} (h : Cl w k len g) (hb : Below C w w') (hk : k < C) : Cl w' k len g :=
  ⟨Nat.lt_of_lt_of_le h.1 hb.size, fun i hi => ⟨(hb.cell (p := ⟨k, i, none⟩) hk).trans (h.2 i hi).1, (hb.frozen (p := ⟨k, i, none⟩) hk).trans (h.2 i hi).2⟩⟩
theorem Cl.kb {w w' : World} {k j len : Nat} {g : Nat → Int} (h : Cl w j len g) (hk : KB k w w') (hne : j ≠ k) : Cl w' j len g :=
  ⟨Nat.lt_of_lt_of_le h.1 hk.2.2.2.1, fun i hi => ⟨(hk.cell h.1 hne).trans (h.2 i hi).1, (hk.frozen h.1 hne).trans (h.2 i hi).2⟩⟩
theorem Cl.rd {w : World} {k len : Nat} {g : Nat → Int} (h : Cl w k len g) (hl : len ≤ maxLen) : Rd w (.slice (some ⟨k, 0, none⟩) len len) len g :=
  .inr ⟨k, len, rfl, Nat.le_refl _, hl, h.1, fun i hi => (h.2 i hi).1⟩
theorem RowsC.below {B C C' : Nat} {w w' : World} {v : Value} {s n : Nat} {G : Nat → Nat → Int} {T : Nat → Nat} (h : RowsC B C w v s n G T) (hb : Below C' w w') (hC : C ≤ C') : RowsC B C w' v s n G T := by
  obtain ⟨a, cap, h1, h2, h3, h4, h5, h6, h7⟩ := h
  refine ⟨a, cap, h1, h2, h3, Nat.le_trans h4 hb.size, fun hn => ?_, fun i hi => ⟨(h6 i hi).1, (h6 i hi).2.1, (h6 i hi).2.2.belowC hb (by have := (h6 i hi).2.1; omega)⟩, h7⟩
  obtain ⟨g, g1, g2, g3, g4⟩ := h5 hn
  exact ⟨g, g1, g2, g3, fun i hi => ⟨(hb.cell (p := ⟨g, i, none⟩) (by show g < C'; omega)).trans (g4 i hi).1, (g4 i hi).2⟩⟩
theorem RowsC.next {B C : Nat} {w w' : World} {v : Value} {s n : Nat} {G : Nat → Nat → Int} {T : Nat → Nat} (h : RowsC B C w v s n G T) (hb : Below w.heap.size w w') : RowsC B C w' v s n G T :=
  h.below hb (by obtain ⟨a, cap, h1, h2, h3, h4, _⟩ := h; exact h4)
theorem RowsC.up {B C C' : Nat} {w : World} {v : Value} {s n : Nat} {G : Nat → Nat → Int} {T : Nat → Nat} (h : RowsC B C w v s n G T) (hC : C ≤ C') (hw : C' ≤ w.heap.size) : RowsC B C' w v s n G T := by
  obtain ⟨a, cap, h1, h2, h3, h4, h5, h6, h7⟩ := h
  refine ⟨a, cap, h1, h2, h3, hw, fun hn => ?_, fun i hi => ⟨(h6 i hi).1, by have := (h6 i hi).2.1; omega, (h6 i hi).2.2⟩, h7⟩
  obtain ⟨g, g1, g2, g3, g4⟩ := h5 hn
  exact ⟨g, g1, g2, by omega, g4⟩
theorem RowsC.base {B B' C : Nat} {w : World} {v : Value} {s n : Nat} {G : Nat → Nat → Int} {T : Nat → Nat} (h : RowsC B C w v s n G T) (hB : B' ≤ B) : RowsC B' C w v s n G T := by
  obtain ⟨a, cap, h1, h2, h3, h4, h5, h6, h7⟩ := h
  refine ⟨a, cap, h1, h2, h3, h4, fun hn => ?_, fun i hi => ⟨by have := (h6 i hi).1; omega, (h6 i hi).2⟩, h7⟩
  obtain ⟨g, g1, g2, g3, g4⟩ := h5 hn
  exact ⟨g, g1, by omega, g3, g4⟩












end Go.Proofs.YtdogkkmdccieiaaDoor
