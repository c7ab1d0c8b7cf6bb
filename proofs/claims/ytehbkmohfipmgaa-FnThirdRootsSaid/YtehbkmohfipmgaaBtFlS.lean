/- Lists of forms: copies, comparisons, marks. -/
import Derived.Test.YtehbkmohfipmgaaBtZ3
import Derived.Test.YtehbkmohfipmgaaBtZ4
import Derived.Deep.RegionHeld3
import Derived.Deep.DeepCutAuto
namespace Go.Proofs.Ytehbkmohfipmgaa
open Go.RowKit

/-- A slice of n forms, their numbers g 0, .., g (3 n - 1). -/
def RdX (w : World) (v : Value) (n : Nat) (g : Nat → Int) : Prop :=
  (v = .slice none 0 0 ∧ n = 0) ∨ ∃ b cap, v = .slice (some ⟨b, 0, none⟩) n cap ∧ n ≤ cap ∧ cap ≤ maxLen ∧ b < w.heap.size ∧ ∀ i, i < 4 * n → w.cell? ⟨b, i, none⟩ = some (.int .i64 (g i))

/-- Four numbers in block b from offset o on. -/
structure At4 (w : World) (b o : Nat) (x y z u : Int) : Prop where
  lt : b < w.heap.size
  c0 : w.cell? ⟨b, o, none⟩ = some (.int .i64 x)
  c1 : w.cell? ⟨b, o + 1, none⟩ = some (.int .i64 y)
  c2 : w.cell? ⟨b, o + 2, none⟩ = some (.int .i64 z)
  c3 : w.cell? ⟨b, o + 3, none⟩ = some (.int .i64 u)
theorem At4.next {w w' : World} {b o : Nat} {x y z u : Int} (h : At4 w b o x y z u) {B : Nat} (hb : Below B w w') (hB : b < B) : At4 w' b o x y z u :=
  ⟨Nat.lt_of_lt_of_le h.lt hb.size, (hb.cell (p := ⟨b, o, none⟩) hB).trans h.c0, (hb.cell (p := ⟨b, o + 1, none⟩) hB).trans h.c1, (hb.cell (p := ⟨b, o + 2, none⟩) hB).trans h.c2, (hb.cell (p := ⟨b, o + 3, none⟩) hB).trans h.c3⟩
theorem At4.drew {w : World} {b o : Nat} {x y z u : Int} (h : At4 w b o x y z u) : At4 w.drew b o x y z u := h.next (gr_drew (Below.refl _ w)) h.lt
theorem At4.drewN {w : World} {b o : Nat} {x y z u : Int} (h : At4 w b o x y z u) (n : Nat) : At4 (w.drewN n) b o x y z u := h.next (gr_drewN (Below.refl _ w) n) h.lt
theorem At4.alloc {w : World} {b o : Nat} {x y z u : Int} (h : At4 w b o x y z u) (ob : Obj) : At4 (w.alloc ob) b o x y z u := h.next (gr_alloc (Below.refl _ w) ob) h.lt
theorem RdX.at4 {w : World} {b n : Nat} {g : Nat → Int} (hb : b < w.heap.size) (h : ∀ i, i < 4 * n → w.cell? ⟨b, i, none⟩ = some (.int .i64 (g i))) {k : Nat} (hk : k < n) : At4 w b (k * 4) (g (k * 4)) (g (k * 4 + 1)) (g (k * 4 + 2)) (g (k * 4 + 3)) :=
  ⟨hb, h _ (by omega), h _ (by omega), h _ (by omega), h _ (by omega)⟩
theorem cellsAt4 {W : World} {b o b' o' : Nat} {x y z u x' y' z' u' : Int} (K : At4 W b o x y z u) (L : At4 W b' o' x' y' z' u') :
    W.cell? ⟨b, o, none⟩ = some (.int .i64 x) ∧ W.cell? ⟨b, o + 1, none⟩ = some (.int .i64 y) ∧ W.cell? ⟨b, o + 2, none⟩ = some (.int .i64 z) ∧ W.cell? ⟨b, o + 3, none⟩ = some (.int .i64 u) ∧ W.cell? ⟨b', o', none⟩ = some (.int .i64 x') ∧ W.cell? ⟨b', o' + 1, none⟩ = some (.int .i64 y') ∧ W.cell? ⟨b', o' + 2, none⟩ = some (.int .i64 z') ∧ W.cell? ⟨b', o' + 3, none⟩ = some (.int .i64 u') := ⟨K.c0, K.c1, K.c2, K.c3, L.c0, L.c1, L.c2, L.c3⟩



/-- A slice of n forms that lies in a block of its own, from B on; or nil. -/
def OwnX (B : Nat) (w : World) (v : Value) (n : Nat) (g : Nat → Int) : Prop :=
  (v = .slice none 0 0 ∧ n = 0) ∨ ∃ k cap, v = .slice (some ⟨k, 0, none⟩) n cap ∧ B ≤ k ∧ n ≤ cap ∧ cap ≤ maxLen ∧ Cl w k (4 * n) g
/-- A slice of n forms in a block below B; or nil. -/
def RdBX (B : Nat) (w : World) (v : Value) (n : Nat) (g : Nat → Int) : Prop :=
  (v = .slice none 0 0 ∧ n = 0) ∨ ∃ b cap, v = .slice (some ⟨b, 0, none⟩) n cap ∧ n ≤ cap ∧ cap ≤ maxLen ∧ b < B ∧ ∀ i, i < 4 * n → w.cell? ⟨b, i, none⟩ = some (.int .i64 (g i))
theorem RdBX.rd {B : Nat} {w : World} {v : Value} {n : Nat} {g : Nat → Int} (h : RdBX B w v n g) (hB : B ≤ w.heap.size) : RdX w v n g := by
  rcases h with h | ⟨b, cap, h1, h2, h3, h4, h5⟩
  · exact .inl h
  · exact .inr ⟨b, cap, h1, h2, h3, by omega, h5⟩
theorem RdBX.below {B : Nat} {w w' : World} {v : Value} {n : Nat} {g : Nat → Int} (h : RdBX B w v n g) {C : Nat} (hb : Below C w w') (hC : B ≤ C) : RdBX B w' v n g := by
  rcases h with h | ⟨b, cap, h1, h2, h3, h4, h5⟩
  · exact .inl h
  · exact .inr ⟨b, cap, h1, h2, h3, h4, fun i hi => (hb.cell (p := ⟨b, i, none⟩) (by show b < C; omega)).trans (h5 i hi)⟩
theorem OwnX.rdB {B : Nat} {w : World} {v : Value} {n : Nat} {g : Nat → Int} (h : OwnX B w v n g) : RdBX w.heap.size w v n g := by
  rcases h with h | ⟨b, cap, h1, _, h2, h3, h5⟩
  · exact .inl h
  · exact .inr ⟨b, cap, h1, h2, h3, h5.1, fun i hi => (h5.2 i hi).1⟩
theorem OwnX.rd {B : Nat} {w : World} {v : Value} {n : Nat} {g : Nat → Int} (h : OwnX B w v n g) : RdX w v n g := h.rdB.rd (Nat.le_refl _)
theorem OwnX.next {B : Nat} {w w' : World} {v : Value} {n : Nat} {g : Nat → Int} (h : OwnX B w v n g) (hb : Below w.heap.size w w') : OwnX B w' v n g := by
  rcases h with h | ⟨b, cap, h1, h6, h2, h3, h5⟩
  · exact .inl h
  · exact .inr ⟨b, cap, h1, h6, h2, h3, h5.below hb⟩
theorem OwnX.base {B B' : Nat} {w : World} {v : Value} {n : Nat} {g : Nat → Int} (h : OwnX B w v n g) (hB : B' ≤ B) : OwnX B' w v n g := by
  rcases h with h | ⟨b, cap, h1, h6, h2, h3, h5⟩
  · exact .inl h
  · exact .inr ⟨b, cap, h1, by omega, h2, h3, h5⟩
/-- A list of forms that the call laid, and a code. -/
def FlsOut (code : Int) (n : Nat) (g : Nat → Int) (w : World) (e : Ending) (w' : World) : Prop :=
  ∃ v, e = .returned (.tuple #[v, .int .i64 code]) ∧ OwnX w.heap.size w' v (if code = 0 then n else 0) g ∧ Below w.heap.size w w'





end Go.Proofs.Ytehbkmohfipmgaa
