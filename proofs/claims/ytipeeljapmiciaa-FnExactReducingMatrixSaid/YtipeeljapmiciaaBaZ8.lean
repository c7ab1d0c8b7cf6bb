/- Several texts in one: XList, XList2. -/
import Derived.Test.YtipeeljapmiciaaBaZ1
import Derived.Test.YtipeeljapmiciaaBaZ5
import Derived.Deep.OwnRows

/- Lists of integers: copies, comparisons. -/
namespace Go.Proofs.Ytipeeljapmiciaa
open Go.ChangeShapes Go.WideShapes Go.ChangeAt Go.RowKit

theorem info_l64 : (Try.prog.info? 2).map (fun i => (i.zero, i.size, i.bytes)) = some (some (.int .i64 0), 1, 8) := by kernel_rfl

theorem add_block (x : Addr) (k : Nat) : (x.add k).block = x.block := by unfold Addr.add; split <;> rfl
/-- A slice of n integers, g 0, .., g (n - 1). -/
def Rd (w : World) (v : Value) (n : Nat) (g : Nat → Int) : Prop :=
  (v = .slice none 0 0 ∧ n = 0) ∨ ∃ b cap, v = .slice (some ⟨b, 0, none⟩) n cap ∧ n ≤ cap ∧ cap ≤ maxLen ∧ b < w.heap.size ∧ ∀ i, i < n → w.cell? ⟨b, i, none⟩ = some (.int .i64 (g i))
theorem Rd.next {w w' : World} {v : Value} {n : Nat} {g : Nat → Int} (h : Rd w v n g) (hb : Below w.heap.size w w') : Rd w' v n g := by
  rcases h with h | ⟨b, cap, h1, h2, h3, h4, h5⟩
  · exact .inl h
  · exact .inr ⟨b, cap, h1, h2, h3, Nat.lt_of_lt_of_le h4 hb.size, fun i hi => (hb.cell (p := ⟨b, i, none⟩) h4).trans (h5 i hi)⟩
theorem Rd.of_row {w : World} {k n : Nat} {g : Nat → Int} (h : w.rowIs k 2 n (fun i => .int .i64 (g i))) (hn : n ≤ maxLen) : Rd w (.slice (some ⟨k, 0, none⟩) n n) n g :=
  .inr ⟨k, n, rfl, Nat.le_refl _, hn, h.lt, fun _ hi => h.cell hi⟩





end Go.Proofs.Ytipeeljapmiciaa

/- Lists of integers that a call laid: marks, and what they hold. -/
namespace Go.Proofs.Ytipeeljapmiciaa
open Go.ChangeShapes Go.WideShapes Go.ChangeAt Go.RowKit

/-- A slice of len integers that lies in a block of its own, from B on; or nil. -/
def OwnV (B : Nat) (w : World) (v : Value) (len : Nat) (g : Nat → Int) : Prop :=
  (v = .slice none 0 0 ∧ len = 0) ∨ ∃ k cap, v = .slice (some ⟨k, 0, none⟩) len cap ∧ B ≤ k ∧ k < w.heap.size ∧ len ≤ cap ∧ cap ≤ maxLen ∧ ∀ i, i < len → w.cell? ⟨k, i, none⟩ = some (.int .i64 (g i)) ∧ w.frozen? ⟨k, i, none⟩ = false
/-- A slice of n integers in a block below B; or nil. -/
def RdB (B : Nat) (w : World) (v : Value) (n : Nat) (g : Nat → Int) : Prop :=
  (v = .slice none 0 0 ∧ n = 0) ∨ ∃ b cap, v = .slice (some ⟨b, 0, none⟩) n cap ∧ n ≤ cap ∧ cap ≤ maxLen ∧ b < B ∧ ∀ i, i < n → w.cell? ⟨b, i, none⟩ = some (.int .i64 (g i))
theorem RdB.rd {B : Nat} {w : World} {v : Value} {n : Nat} {g : Nat → Int} (h : RdB B w v n g) (hB : B ≤ w.heap.size) : Rd w v n g := by
  rcases h with h | ⟨b, cap, h1, h2, h3, h4, h5⟩
  · exact .inl h
  · exact .inr ⟨b, cap, h1, h2, h3, by omega, h5⟩
theorem RdB.below {B : Nat} {w w' : World} {v : Value} {n : Nat} {g : Nat → Int} (h : RdB B w v n g) {C : Nat} (hb : Below C w w') (hC : B ≤ C) : RdB B w' v n g := by
  rcases h with h | ⟨b, cap, h1, h2, h3, h4, h5⟩
  · exact .inl h
  · exact .inr ⟨b, cap, h1, h2, h3, h4, fun i hi => (hb.cell (p := ⟨b, i, none⟩) (by show b < C; omega)).trans (h5 i hi)⟩
theorem OwnV.rdB {B : Nat} {w : World} {v : Value} {n : Nat} {g : Nat → Int} (h : OwnV B w v n g) : RdB w.heap.size w v n g := by
  rcases h with h | ⟨b, cap, h1, _, h4, h2, h3, h5⟩
  · exact .inl h
  · exact .inr ⟨b, cap, h1, h2, h3, h4, fun i hi => (h5 i hi).1⟩
theorem OwnV.rd {B : Nat} {w : World} {v : Value} {n : Nat} {g : Nat → Int} (h : OwnV B w v n g) : Rd w v n g := h.rdB.rd (Nat.le_refl _)
theorem OwnV.next {B : Nat} {w w' : World} {v : Value} {n : Nat} {g : Nat → Int} (h : OwnV B w v n g) (hb : Below w.heap.size w w') : OwnV B w' v n g := by
  rcases h with h | ⟨b, cap, h1, h6, h4, h2, h3, h5⟩
  · exact .inl h
  · exact .inr ⟨b, cap, h1, h6, Nat.lt_of_lt_of_le h4 hb.size, h2, h3, fun i hi => ⟨(hb.cell (p := ⟨b, i, none⟩) h4).trans (h5 i hi).1, (hb.frozen (p := ⟨b, i, none⟩) h4).trans (h5 i hi).2⟩⟩
theorem OwnV.congr {B : Nat} {w : World} {v : Value} {n : Nat} {g g' : Nat → Int} (h : OwnV B w v n g) (e : ∀ i, i < n → g i = g' i) : OwnV B w v n g' := by
  rcases h with h | ⟨b, cap, h1, h6, h4, h2, h3, h5⟩
  · exact .inl h
  · exact .inr ⟨b, cap, h1, h6, h4, h2, h3, fun i hi => by rw [← e i hi]; exact h5 i hi⟩
theorem OwnV.base {B B' : Nat} {w : World} {v : Value} {n : Nat} {g : Nat → Int} (h : OwnV B w v n g) (hB : B' ≤ B) : OwnV B' w v n g := by
  rcases h with h | ⟨b, cap, h1, h6, h4, h2, h3, h5⟩
  · exact .inl h
  · exact .inr ⟨b, cap, h1, by omega, h4, h2, h3, h5⟩
theorem OwnV.arr {B : Nat} {w : World} {k : Nat} {a b c d : Int} (h : Arr w k a b c d) (hB : B ≤ k) : OwnV B w (.slice (some ⟨k, 0, none⟩) 4 4) 4 (fun i => if i = 0 then a else if i = 1 then b else if i = 2 then c else d) := by
  refine .inr ⟨k, 4, rfl, hB, h.lt, Nat.le_refl _, by decide, fun i hi => ?_⟩
  match i, hi with
  | 0, _ => exact ⟨h.c0, h.f0⟩
  | 1, _ => exact ⟨h.c1, h.f1⟩
  | 2, _ => exact ⟨h.c2, h.f2⟩
  | 3, _ => exact ⟨h.c3, h.f3⟩
/-- The cells of one own row, and a store into it. -/
def Cl (w : World) (k len : Nat) (g : Nat → Int) : Prop := k < w.heap.size ∧ ∀ i, i < len → w.cell? ⟨k, i, none⟩ = some (.int .i64 (g i)) ∧ w.frozen? ⟨k, i, none⟩ = false
theorem Cl.set {w : World} {k len : Nat} {g : Nat → Int} (h : Cl w k len g) {i : Nat} (hi : i < len) (x : Int) : Cl (w.setCell ⟨k, i, none⟩ (.int .i64 x)) k len (fun j => if j = i then x else g j) := by
  refine ⟨by rw [World.size_setCell]; exact h.1, fun j hj => ⟨?_, (World.frozen?_setCell _ _ _ _).trans (h.2 j hj).2⟩⟩
  by_cases e : j = i
  · subst e
    simp only [if_true]
    exact World.cell?_setCell_same' _ _ _ (by rw [(h.2 j hj).1]; rfl)
  · simp only [e, if_false]
    exact (World.cell?_setCell_other _ _ _ _ (ne_off (fun h => e h.symm))).trans (h.2 j hj).1
theorem Cl.congr {w : World} {k len : Nat} {g g' : Nat → Int} (h : Cl w k len g) (e : ∀ i, i < len → g i = g' i) : Cl w k len g' := ⟨h.1, fun i hi => by rw [← e i hi]; exact h.2 i hi⟩
theorem Cl.below {w w' : World} {k len : Nat} {g : Nat → Int} (h : Cl w k len g) (hb : Below w.heap.size w w') : Cl w' k len g :=
  ⟨Nat.lt_of_lt_of_le h.1 hb.size, fun i hi => ⟨(hb.cell (p := ⟨k, i, none⟩) h.1).trans (h.2 i hi).1, (hb.frozen (p := ⟨k, i, none⟩) h.1).trans (h.2 i hi).2⟩⟩
theorem below_set {B : Nat} {w w' : World} (h : Below B w w') {p : Addr} (hp : B ≤ p.block) (u : Value) : Below B w (w'.setCell p u) := h.setCell hp u



def q4 (x y z u : Int) (i : Nat) : Int := if i = 0 then x else if i = 1 then y else if i = 2 then z else u
/-- A list that the call laid, and a code. -/
def LstOut (code : Int) (len : Nat) (g : Nat → Int) (w : World) (e : Ending) (w' : World) : Prop :=
  ∃ v, e = .returned (.tuple #[v, .int .i64 code]) ∧ OwnV w.heap.size w' v (if code = 0 then len else 0) g ∧ Below w.heap.size w w'

end Go.Proofs.Ytipeeljapmiciaa
