/- Boxes of ten numbers (desks): how they are read, written, opened. No Go function in sight. -/
import Derived.Test.YtmhlolimaeejfaaOpen
import Derived.Test.YtmhlolimaeejfaaArr3
import Derived.Deep.Strs
namespace Go.Proofs.Ytmhlolimaeejfaa
open Go.ChangeShapes Go.WideShapes Go.ChangeAt Go.RowKit

/-- Block k of w holds the ten numbers. -/
structure Arr10 (w : World) (k : Nat) (p0 p1 p2 p3 p4 p5 p6 p7 p8 p9 : Int) : Prop where
  lt : k < w.heap.size
  c0 : w.cell? ⟨k, 0, none⟩ = some (.int .i64 p0)
  c1 : w.cell? ⟨k, 1, none⟩ = some (.int .i64 p1)
  c2 : w.cell? ⟨k, 2, none⟩ = some (.int .i64 p2)
  c3 : w.cell? ⟨k, 3, none⟩ = some (.int .i64 p3)
  c4 : w.cell? ⟨k, 4, none⟩ = some (.int .i64 p4)
  c5 : w.cell? ⟨k, 5, none⟩ = some (.int .i64 p5)
  c6 : w.cell? ⟨k, 6, none⟩ = some (.int .i64 p6)
  c7 : w.cell? ⟨k, 7, none⟩ = some (.int .i64 p7)
  c8 : w.cell? ⟨k, 8, none⟩ = some (.int .i64 p8)
  c9 : w.cell? ⟨k, 9, none⟩ = some (.int .i64 p9)
  f0 : w.frozen? ⟨k, 0, none⟩ = false
  f1 : w.frozen? ⟨k, 1, none⟩ = false
  f2 : w.frozen? ⟨k, 2, none⟩ = false
  f3 : w.frozen? ⟨k, 3, none⟩ = false
  f4 : w.frozen? ⟨k, 4, none⟩ = false
  f5 : w.frozen? ⟨k, 5, none⟩ = false
  f6 : w.frozen? ⟨k, 6, none⟩ = false
  f7 : w.frozen? ⟨k, 7, none⟩ = false
  f8 : w.frozen? ⟨k, 8, none⟩ = false
  f9 : w.frozen? ⟨k, 9, none⟩ = false
theorem Arr10.below {w w' : World} {k : Nat} {p0 p1 p2 p3 p4 p5 p6 p7 p8 p9 : Int} (h : Arr10 w k p0 p1 p2 p3 p4 p5 p6 p7 p8 p9) {B : Nat} (hb : Below B w w') (hB : k < B) : Arr10 w' k p0 p1 p2 p3 p4 p5 p6 p7 p8 p9 :=
  ⟨Nat.lt_of_lt_of_le h.lt hb.size, (hb.cell (p := ⟨k, 0, none⟩) hB).trans h.c0, (hb.cell (p := ⟨k, 1, none⟩) hB).trans h.c1, (hb.cell (p := ⟨k, 2, none⟩) hB).trans h.c2, (hb.cell (p := ⟨k, 3, none⟩) hB).trans h.c3, (hb.cell (p := ⟨k, 4, none⟩) hB).trans h.c4, (hb.cell (p := ⟨k, 5, none⟩) hB).trans h.c5, (hb.cell (p := ⟨k, 6, none⟩) hB).trans h.c6, (hb.cell (p := ⟨k, 7, none⟩) hB).trans h.c7, (hb.cell (p := ⟨k, 8, none⟩) hB).trans h.c8, (hb.cell (p := ⟨k, 9, none⟩) hB).trans h.c9, (hb.frozen (p := ⟨k, 0, none⟩) hB).trans h.f0, (hb.frozen (p := ⟨k, 1, none⟩) hB).trans h.f1, (hb.frozen (p := ⟨k, 2, none⟩) hB).trans h.f2, (hb.frozen (p := ⟨k, 3, none⟩) hB).trans h.f3, (hb.frozen (p := ⟨k, 4, none⟩) hB).trans h.f4, (hb.frozen (p := ⟨k, 5, none⟩) hB).trans h.f5, (hb.frozen (p := ⟨k, 6, none⟩) hB).trans h.f6, (hb.frozen (p := ⟨k, 7, none⟩) hB).trans h.f7, (hb.frozen (p := ⟨k, 8, none⟩) hB).trans h.f8, (hb.frozen (p := ⟨k, 9, none⟩) hB).trans h.f9⟩
theorem Arr10.next {w w' : World} {k : Nat} {p0 p1 p2 p3 p4 p5 p6 p7 p8 p9 : Int} (h : Arr10 w k p0 p1 p2 p3 p4 p5 p6 p7 p8 p9) (hb : Below w.heap.size w w') : Arr10 w' k p0 p1 p2 p3 p4 p5 p6 p7 p8 p9 := h.below hb h.lt
theorem Arr10.new (w : World) (p0 p1 p2 p3 p4 p5 p6 p7 p8 p9 : Int) (t : TypeId) : Arr10 (w.alloc (.cells #[.int .i64 p0, .int .i64 p1, .int .i64 p2, .int .i64 p3, .int .i64 p4, .int .i64 p5, .int .i64 p6, .int .i64 p7, .int .i64 p8, .int .i64 p9] t)) w.heap.size p0 p1 p2 p3 p4 p5 p6 p7 p8 p9 := by
  constructor <;> simp [go_sem]
theorem Arr10.alloc {w : World} {k : Nat} {p0 p1 p2 p3 p4 p5 p6 p7 p8 p9 : Int} (h : Arr10 w k p0 p1 p2 p3 p4 p5 p6 p7 p8 p9) (o : Obj) : Arr10 (w.alloc o) k p0 p1 p2 p3 p4 p5 p6 p7 p8 p9 := h.next ((Below.refl _ w).alloc (Nat.le_refl _) o)
theorem Arr10.oth {w : World} {k : Nat} {p0 p1 p2 p3 p4 p5 p6 p7 p8 p9 : Int} (h : Arr10 w k p0 p1 p2 p3 p4 p5 p6 p7 p8 p9) {p : Addr} (hp : k ≠ p.block) (v : Value) : Arr10 (w.setCell p v) k p0 p1 p2 p3 p4 p5 p6 p7 p8 p9 := by
  have ne : ∀ o, p ≠ (⟨k, o, none⟩ : Addr) := fun o e => hp (by rw [e])
  exact ⟨by rw [World.size_setCell]; exact h.lt, (World.cell?_setCell_other _ _ _ _ (ne 0)).trans h.c0, (World.cell?_setCell_other _ _ _ _ (ne 1)).trans h.c1, (World.cell?_setCell_other _ _ _ _ (ne 2)).trans h.c2, (World.cell?_setCell_other _ _ _ _ (ne 3)).trans h.c3, (World.cell?_setCell_other _ _ _ _ (ne 4)).trans h.c4, (World.cell?_setCell_other _ _ _ _ (ne 5)).trans h.c5, (World.cell?_setCell_other _ _ _ _ (ne 6)).trans h.c6, (World.cell?_setCell_other _ _ _ _ (ne 7)).trans h.c7, (World.cell?_setCell_other _ _ _ _ (ne 8)).trans h.c8, (World.cell?_setCell_other _ _ _ _ (ne 9)).trans h.c9, (World.frozen?_setCell _ _ _ _).trans h.f0, (World.frozen?_setCell _ _ _ _).trans h.f1, (World.frozen?_setCell _ _ _ _).trans h.f2, (World.frozen?_setCell _ _ _ _).trans h.f3, (World.frozen?_setCell _ _ _ _).trans h.f4, (World.frozen?_setCell _ _ _ _).trans h.f5, (World.frozen?_setCell _ _ _ _).trans h.f6, (World.frozen?_setCell _ _ _ _).trans h.f7, (World.frozen?_setCell _ _ _ _).trans h.f8, (World.frozen?_setCell _ _ _ _).trans h.f9⟩
theorem Arr10.set0 {w : World} {k : Nat} {p0 p1 p2 p3 p4 p5 p6 p7 p8 p9 : Int} (h : Arr10 w k p0 p1 p2 p3 p4 p5 p6 p7 p8 p9) (x : Int) : Arr10 (w.setCell ⟨k, 0, none⟩ (.int .i64 x)) k x p1 p2 p3 p4 p5 p6 p7 p8 p9 :=
  ⟨by rw [World.size_setCell]; exact h.lt, World.cell?_setCell_same' _ _ _ (by rw [h.c0]; rfl), (World.cell?_setCell_other _ _ _ _ (ne_off (by decide))).trans h.c1, (World.cell?_setCell_other _ _ _ _ (ne_off (by decide))).trans h.c2, (World.cell?_setCell_other _ _ _ _ (ne_off (by decide))).trans h.c3, (World.cell?_setCell_other _ _ _ _ (ne_off (by decide))).trans h.c4, (World.cell?_setCell_other _ _ _ _ (ne_off (by decide))).trans h.c5, (World.cell?_setCell_other _ _ _ _ (ne_off (by decide))).trans h.c6, (World.cell?_setCell_other _ _ _ _ (ne_off (by decide))).trans h.c7, (World.cell?_setCell_other _ _ _ _ (ne_off (by decide))).trans h.c8, (World.cell?_setCell_other _ _ _ _ (ne_off (by decide))).trans h.c9, (World.frozen?_setCell _ _ _ _).trans h.f0, (World.frozen?_setCell _ _ _ _).trans h.f1, (World.frozen?_setCell _ _ _ _).trans h.f2, (World.frozen?_setCell _ _ _ _).trans h.f3, (World.frozen?_setCell _ _ _ _).trans h.f4, (World.frozen?_setCell _ _ _ _).trans h.f5, (World.frozen?_setCell _ _ _ _).trans h.f6, (World.frozen?_setCell _ _ _ _).trans h.f7, (World.frozen?_setCell _ _ _ _).trans h.f8, (World.frozen?_setCell _ _ _ _).trans h.f9⟩
theorem Arr10.set1 {w : World} {k : Nat} {p0 p1 p2 p3 p4 p5 p6 p7 p8 p9 : Int} (h : Arr10 w k p0 p1 p2 p3 p4 p5 p6 p7 p8 p9) (x : Int) : Arr10 (w.setCell ⟨k, 1, none⟩ (.int .i64 x)) k p0 x p2 p3 p4 p5 p6 p7 p8 p9 :=
  ⟨by rw [World.size_setCell]; exact h.lt, (World.cell?_setCell_other _ _ _ _ (ne_off (by decide))).trans h.c0, World.cell?_setCell_same' _ _ _ (by rw [h.c1]; rfl), (World.cell?_setCell_other _ _ _ _ (ne_off (by decide))).trans h.c2, (World.cell?_setCell_other _ _ _ _ (ne_off (by decide))).trans h.c3, (World.cell?_setCell_other _ _ _ _ (ne_off (by decide))).trans h.c4, (World.cell?_setCell_other _ _ _ _ (ne_off (by decide))).trans h.c5, (World.cell?_setCell_other _ _ _ _ (ne_off (by decide))).trans h.c6, (World.cell?_setCell_other _ _ _ _ (ne_off (by decide))).trans h.c7, (World.cell?_setCell_other _ _ _ _ (ne_off (by decide))).trans h.c8, (World.cell?_setCell_other _ _ _ _ (ne_off (by decide))).trans h.c9, (World.frozen?_setCell _ _ _ _).trans h.f0, (World.frozen?_setCell _ _ _ _).trans h.f1, (World.frozen?_setCell _ _ _ _).trans h.f2, (World.frozen?_setCell _ _ _ _).trans h.f3, (World.frozen?_setCell _ _ _ _).trans h.f4, (World.frozen?_setCell _ _ _ _).trans h.f5, (World.frozen?_setCell _ _ _ _).trans h.f6, (World.frozen?_setCell _ _ _ _).trans h.f7, (World.frozen?_setCell _ _ _ _).trans h.f8, (World.frozen?_setCell _ _ _ _).trans h.f9⟩
theorem Arr10.set2 {w : World} {k : Nat} {p0 p1 p2 p3 p4 p5 p6 p7 p8 p9 : Int} (h : Arr10 w k p0 p1 p2 p3 p4 p5 p6 p7 p8 p9) (x : Int) : Arr10 (w.setCell ⟨k, 2, none⟩ (.int .i64 x)) k p0 p1 x p3 p4 p5 p6 p7 p8 p9 :=
  ⟨by rw [World.size_setCell]; exact h.lt, (World.cell?_setCell_other _ _ _ _ (ne_off (by decide))).trans h.c0, (World.cell?_setCell_other _ _ _ _ (ne_off (by decide))).trans h.c1, World.cell?_setCell_same' _ _ _ (by rw [h.c2]; rfl), (World.cell?_setCell_other _ _ _ _ (ne_off (by decide))).trans h.c3, (World.cell?_setCell_other _ _ _ _ (ne_off (by decide))).trans h.c4, (World.cell?_setCell_other _ _ _ _ (ne_off (by decide))).trans h.c5, (World.cell?_setCell_other _ _ _ _ (ne_off (by decide))).trans h.c6, (World.cell?_setCell_other _ _ _ _ (ne_off (by decide))).trans h.c7, (World.cell?_setCell_other _ _ _ _ (ne_off (by decide))).trans h.c8, (World.cell?_setCell_other _ _ _ _ (ne_off (by decide))).trans h.c9, (World.frozen?_setCell _ _ _ _).trans h.f0, (World.frozen?_setCell _ _ _ _).trans h.f1, (World.frozen?_setCell _ _ _ _).trans h.f2, (World.frozen?_setCell _ _ _ _).trans h.f3, (World.frozen?_setCell _ _ _ _).trans h.f4, (World.frozen?_setCell _ _ _ _).trans h.f5, (World.frozen?_setCell _ _ _ _).trans h.f6, (World.frozen?_setCell _ _ _ _).trans h.f7, (World.frozen?_setCell _ _ _ _).trans h.f8, (World.frozen?_setCell _ _ _ _).trans h.f9⟩
theorem Arr10.set3 {w : World} {k : Nat} {p0 p1 p2 p3 p4 p5 p6 p7 p8 p9 : Int} (h : Arr10 w k p0 p1 p2 p3 p4 p5 p6 p7 p8 p9) (x : Int) : Arr10 (w.setCell ⟨k, 3, none⟩ (.int .i64 x)) k p0 p1 p2 x p4 p5 p6 p7 p8 p9 :=
  ⟨by rw [World.size_setCell]; exact h.lt, (World.cell?_setCell_other _ _ _ _ (ne_off (by decide))).trans h.c0, (World.cell?_setCell_other _ _ _ _ (ne_off (by decide))).trans h.c1, (World.cell?_setCell_other _ _ _ _ (ne_off (by decide))).trans h.c2, World.cell?_setCell_same' _ _ _ (by rw [h.c3]; rfl), (World.cell?_setCell_other _ _ _ _ (ne_off (by decide))).trans h.c4, (World.cell?_setCell_other _ _ _ _ (ne_off (by decide))).trans h.c5, (World.cell?_setCell_other _ _ _ _ (ne_off (by decide))).trans h.c6, (World.cell?_setCell_other _ _ _ _ (ne_off (by decide))).trans h.c7, (World.cell?_setCell_other _ _ _ _ (ne_off (by decide))).trans h.c8, (World.cell?_setCell_other _ _ _ _ (ne_off (by decide))).trans h.c9, (World.frozen?_setCell _ _ _ _).trans h.f0, (World.frozen?_setCell _ _ _ _).trans h.f1, (World.frozen?_setCell _ _ _ _).trans h.f2, (World.frozen?_setCell _ _ _ _).trans h.f3, (World.frozen?_setCell _ _ _ _).trans h.f4, (World.frozen?_setCell _ _ _ _).trans h.f5, (World.frozen?_setCell _ _ _ _).trans h.f6, (World.frozen?_setCell _ _ _ _).trans h.f7, (World.frozen?_setCell _ _ _ _).trans h.f8, (World.frozen?_setCell _ _ _ _).trans h.f9⟩
theorem Arr10.set4 {w : World} {k : Nat} {p0 p1 p2 p3 p4 p5 p6 p7 p8 p9 : Int} (h : Arr10 w k p0 p1 p2 p3 p4 p5 p6 p7 p8 p9) (x : Int) : Arr10 (w.setCell ⟨k, 4, none⟩ (.int .i64 x)) k p0 p1 p2 p3 x p5 p6 p7 p8 p9 :=
  ⟨by rw [World.size_setCell]; exact h.lt, (World.cell?_setCell_other _ _ _ _ (ne_off (by decide))).trans h.c0, (World.cell?_setCell_other _ _ _ _ (ne_off (by decide))).trans h.c1, (World.cell?_setCell_other _ _ _ _ (ne_off (by decide))).trans h.c2, (World.cell?_setCell_other _ _ _ _ (ne_off (by decide))).trans h.c3, World.cell?_setCell_same' _ _ _ (by rw [h.c4]; rfl), (World.cell?_setCell_other _ _ _ _ (ne_off (by decide))).trans h.c5, (World.cell?_setCell_other _ _ _ _ (ne_off (by decide))).trans h.c6, (World.cell?_setCell_other _ _ _ _ (ne_off (by decide))).trans h.c7, (World.cell?_setCell_other _ _ _ _ (ne_off (by decide))).trans h.c8, (World.cell?_setCell_other _ _ _ _ (ne_off (by decide))).trans h.c9, (World.frozen?_setCell _ _ _ _).trans h.f0, (World.frozen?_setCell _ _ _ _).trans h.f1, (World.frozen?_setCell _ _ _ _).trans h.f2, (World.frozen?_setCell _ _ _ _).trans h.f3, (World.frozen?_setCell _ _ _ _).trans h.f4, (World.frozen?_setCell _ _ _ _).trans h.f5, (World.frozen?_setCell _ _ _ _).trans h.f6, (World.frozen?_setCell _ _ _ _).trans h.f7, (World.frozen?_setCell _ _ _ _).trans h.f8, (World.frozen?_setCell _ _ _ _).trans h.f9⟩
theorem Arr10.set5 {w : World} {k : Nat} {p0 p1 p2 p3 p4 p5 p6 p7 p8 p9 : Int} (h : Arr10 w k p0 p1 p2 p3 p4 p5 p6 p7 p8 p9) (x : Int) : Arr10 (w.setCell ⟨k, 5, none⟩ (.int .i64 x)) k p0 p1 p2 p3 p4 x p6 p7 p8 p9 :=
  ⟨by rw [World.size_setCell]; exact h.lt, (World.cell?_setCell_other _ _ _ _ (ne_off (by decide))).trans h.c0, (World.cell?_setCell_other _ _ _ _ (ne_off (by decide))).trans h.c1, (World.cell?_setCell_other _ _ _ _ (ne_off (by decide))).trans h.c2, (World.cell?_setCell_other _ _ _ _ (ne_off (by decide))).trans h.c3, (World.cell?_setCell_other _ _ _ _ (ne_off (by decide))).trans h.c4, World.cell?_setCell_same' _ _ _ (by rw [h.c5]; rfl), (World.cell?_setCell_other _ _ _ _ (ne_off (by decide))).trans h.c6, (World.cell?_setCell_other _ _ _ _ (ne_off (by decide))).trans h.c7, (World.cell?_setCell_other _ _ _ _ (ne_off (by decide))).trans h.c8, (World.cell?_setCell_other _ _ _ _ (ne_off (by decide))).trans h.c9, (World.frozen?_setCell _ _ _ _).trans h.f0, (World.frozen?_setCell _ _ _ _).trans h.f1, (World.frozen?_setCell _ _ _ _).trans h.f2, (World.frozen?_setCell _ _ _ _).trans h.f3, (World.frozen?_setCell _ _ _ _).trans h.f4, (World.frozen?_setCell _ _ _ _).trans h.f5, (World.frozen?_setCell _ _ _ _).trans h.f6, (World.frozen?_setCell _ _ _ _).trans h.f7, (World.frozen?_setCell _ _ _ _).trans h.f8, (World.frozen?_setCell _ _ _ _).trans h.f9⟩
theorem Arr10.set6 {w : World} {k : Nat} {p0 p1 p2 p3 p4 p5 p6 p7 p8 p9 : Int} (h : Arr10 w k p0 p1 p2 p3 p4 p5 p6 p7 p8 p9) (x : Int) : Arr10 (w.setCell ⟨k, 6, none⟩ (.int .i64 x)) k p0 p1 p2 p3 p4 p5 x p7 p8 p9 :=
  ⟨by rw [World.size_setCell]; exact h.lt, (World.cell?_setCell_other _ _ _ _ (ne_off (by decide))).trans h.c0, (World.cell?_setCell_other _ _ _ _ (ne_off (by decide))).trans h.c1, (World.cell?_setCell_other _ _ _ _ (ne_off (by decide))).trans h.c2, (World.cell?_setCell_other _ _ _ _ (ne_off (by decide))).trans h.c3, (World.cell?_setCell_other _ _ _ _ (ne_off (by decide))).trans h.c4, (World.cell?_setCell_other _ _ _ _ (ne_off (by decide))).trans h.c5, World.cell?_setCell_same' _ _ _ (by rw [h.c6]; rfl), (World.cell?_setCell_other _ _ _ _ (ne_off (by decide))).trans h.c7, (World.cell?_setCell_other _ _ _ _ (ne_off (by decide))).trans h.c8, (World.cell?_setCell_other _ _ _ _ (ne_off (by decide))).trans h.c9, (World.frozen?_setCell _ _ _ _).trans h.f0, (World.frozen?_setCell _ _ _ _).trans h.f1, (World.frozen?_setCell _ _ _ _).trans h.f2, (World.frozen?_setCell _ _ _ _).trans h.f3, (World.frozen?_setCell _ _ _ _).trans h.f4, (World.frozen?_setCell _ _ _ _).trans h.f5, (World.frozen?_setCell _ _ _ _).trans h.f6, (World.frozen?_setCell _ _ _ _).trans h.f7, (World.frozen?_setCell _ _ _ _).trans h.f8, (World.frozen?_setCell _ _ _ _).trans h.f9⟩
theorem Arr10.set7 {w : World} {k : Nat} {p0 p1 p2 p3 p4 p5 p6 p7 p8 p9 : Int} (h : Arr10 w k p0 p1 p2 p3 p4 p5 p6 p7 p8 p9) (x : Int) : Arr10 (w.setCell ⟨k, 7, none⟩ (.int .i64 x)) k p0 p1 p2 p3 p4 p5 p6 x p8 p9 :=
  ⟨by rw [World.size_setCell]; exact h.lt, (World.cell?_setCell_other _ _ _ _ (ne_off (by decide))).trans h.c0, (World.cell?_setCell_other _ _ _ _ (ne_off (by decide))).trans h.c1, (World.cell?_setCell_other _ _ _ _ (ne_off (by decide))).trans h.c2, (World.cell?_setCell_other _ _ _ _ (ne_off (by decide))).trans h.c3, (World.cell?_setCell_other _ _ _ _ (ne_off (by decide))).trans h.c4, (World.cell?_setCell_other _ _ _ _ (ne_off (by decide))).trans h.c5, (World.cell?_setCell_other _ _ _ _ (ne_off (by decide))).trans h.c6, World.cell?_setCell_same' _ _ _ (by rw [h.c7]; rfl), (World.cell?_setCell_other _ _ _ _ (ne_off (by decide))).trans h.c8, (World.cell?_setCell_other _ _ _ _ (ne_off (by decide))).trans h.c9, (World.frozen?_setCell _ _ _ _).trans h.f0, (World.frozen?_setCell _ _ _ _).trans h.f1, (World.frozen?_setCell _ _ _ _).trans h.f2, (World.frozen?_setCell _ _ _ _).trans h.f3, (World.frozen?_setCell _ _ _ _).trans h.f4, (World.frozen?_setCell _ _ _ _).trans h.f5, (World.frozen?_setCell _ _ _ _).trans h.f6, (World.frozen?_setCell _ _ _ _).trans h.f7, (World.frozen?_setCell _ _ _ _).trans h.f8, (World.frozen?_setCell _ _ _ _).trans h.f9⟩
theorem Arr10.set8 {w : World} {k : Nat} {p0 p1 p2 p3 p4 p5 p6 p7 p8 p9 : Int} (h : Arr10 w k p0 p1 p2 p3 p4 p5 p6 p7 p8 p9) (x : Int) : Arr10 (w.setCell ⟨k, 8, none⟩ (.int .i64 x)) k p0 p1 p2 p3 p4 p5 p6 p7 x p9 :=
  ⟨by rw [World.size_setCell]; exact h.lt, (World.cell?_setCell_other _ _ _ _ (ne_off (by decide))).trans h.c0, (World.cell?_setCell_other _ _ _ _ (ne_off (by decide))).trans h.c1, (World.cell?_setCell_other _ _ _ _ (ne_off (by decide))).trans h.c2, (World.cell?_setCell_other _ _ _ _ (ne_off (by decide))).trans h.c3, (World.cell?_setCell_other _ _ _ _ (ne_off (by decide))).trans h.c4, (World.cell?_setCell_other _ _ _ _ (ne_off (by decide))).trans h.c5, (World.cell?_setCell_other _ _ _ _ (ne_off (by decide))).trans h.c6, (World.cell?_setCell_other _ _ _ _ (ne_off (by decide))).trans h.c7, World.cell?_setCell_same' _ _ _ (by rw [h.c8]; rfl), (World.cell?_setCell_other _ _ _ _ (ne_off (by decide))).trans h.c9, (World.frozen?_setCell _ _ _ _).trans h.f0, (World.frozen?_setCell _ _ _ _).trans h.f1, (World.frozen?_setCell _ _ _ _).trans h.f2, (World.frozen?_setCell _ _ _ _).trans h.f3, (World.frozen?_setCell _ _ _ _).trans h.f4, (World.frozen?_setCell _ _ _ _).trans h.f5, (World.frozen?_setCell _ _ _ _).trans h.f6, (World.frozen?_setCell _ _ _ _).trans h.f7, (World.frozen?_setCell _ _ _ _).trans h.f8, (World.frozen?_setCell _ _ _ _).trans h.f9⟩
theorem Arr10.set9 {w : World} {k : Nat} {p0 p1 p2 p3 p4 p5 p6 p7 p8 p9 : Int} (h : Arr10 w k p0 p1 p2 p3 p4 p5 p6 p7 p8 p9) (x : Int) : Arr10 (w.setCell ⟨k, 9, none⟩ (.int .i64 x)) k p0 p1 p2 p3 p4 p5 p6 p7 p8 x :=
  ⟨by rw [World.size_setCell]; exact h.lt, (World.cell?_setCell_other _ _ _ _ (ne_off (by decide))).trans h.c0, (World.cell?_setCell_other _ _ _ _ (ne_off (by decide))).trans h.c1, (World.cell?_setCell_other _ _ _ _ (ne_off (by decide))).trans h.c2, (World.cell?_setCell_other _ _ _ _ (ne_off (by decide))).trans h.c3, (World.cell?_setCell_other _ _ _ _ (ne_off (by decide))).trans h.c4, (World.cell?_setCell_other _ _ _ _ (ne_off (by decide))).trans h.c5, (World.cell?_setCell_other _ _ _ _ (ne_off (by decide))).trans h.c6, (World.cell?_setCell_other _ _ _ _ (ne_off (by decide))).trans h.c7, (World.cell?_setCell_other _ _ _ _ (ne_off (by decide))).trans h.c8, World.cell?_setCell_same' _ _ _ (by rw [h.c9]; rfl), (World.frozen?_setCell _ _ _ _).trans h.f0, (World.frozen?_setCell _ _ _ _).trans h.f1, (World.frozen?_setCell _ _ _ _).trans h.f2, (World.frozen?_setCell _ _ _ _).trans h.f3, (World.frozen?_setCell _ _ _ _).trans h.f4, (World.frozen?_setCell _ _ _ _).trans h.f5, (World.frozen?_setCell _ _ _ _).trans h.f6, (World.frozen?_setCell _ _ _ _).trans h.f7, (World.frozen?_setCell _ _ _ _).trans h.f8, (World.frozen?_setCell _ _ _ _).trans h.f9⟩
section
variable {P : Program}
theorem loadVar10 (w : World) (b : Nat) (ty : TypeId) (fs : Array Field) (x0 x1 x2 x3 x4 x5 x6 x7 x8 x9 : Value) (hu : P.underlying ty = some (.struct fs)) (hi : (P.info? ty).map (·.size) = some 10)
    (c0 : w.cell? ⟨b, 0, none⟩ = some x0) (c1 : w.cell? ⟨b, 1, none⟩ = some x1) (c2 : w.cell? ⟨b, 2, none⟩ = some x2) (c3 : w.cell? ⟨b, 3, none⟩ = some x3) (c4 : w.cell? ⟨b, 4, none⟩ = some x4) (c5 : w.cell? ⟨b, 5, none⟩ = some x5) (c6 : w.cell? ⟨b, 6, none⟩ = some x6) (c7 : w.cell? ⟨b, 7, none⟩ = some x7) (c8 : w.cell? ⟨b, 8, none⟩ = some x8) (c9 : w.cell? ⟨b, 9, none⟩ = some x9) :
    (loadVar ty ⟨b, 0, none⟩).run P w = .ok (.agg #[x0, x1, x2, x3, x4, x5, x6, x7, x8, x9]) w := by
  have hl : (loadCells ⟨b, 0, none⟩ [x0, x1, x2, x3, x4, x5, x6, x7, x8, x9].length).run P w = .ok [x0, x1, x2, x3, x4, x5, x6, x7, x8, x9].toArray w :=
    run_loadCells_list (P := P) w ⟨b, 0, none⟩ [x0, x1, x2, x3, x4, x5, x6, x7, x8, x9] (fun j v hv => by
      have hadd : (⟨b, 0, none⟩ : Addr).add j = ⟨b, j, none⟩ := by unfold Addr.add; split <;> simp_all
      rw [hadd]
      match j, hv with
      | 0, hv => cases hv; exact c0
      | 1, hv => cases hv; exact c1
      | 2, hv => cases hv; exact c2
      | 3, hv => cases hv; exact c3
      | 4, hv => cases hv; exact c4
      | 5, hv => cases hv; exact c5
      | 6, hv => cases hv; exact c6
      | 7, hv => cases hv; exact c7
      | 8, hv => cases hv; exact c8
      | 9, hv => cases hv; exact c9)
  cases hq : P.info? ty with
  | none => simp [hq] at hi
  | some i =>
    have hs : i.size = 10 := by simpa [hq] using hi
    have hagg : (isAgg ty).run P w = .ok true w := by
      unfold isAgg
      rw [Sem.run_bind, run_underlying hu w]
      simp
    simp only [List.length_cons, List.length_nil, Nat.reduceAdd] at hl
    simp [loadVar, Sem.run_bind, hagg, sizeOf, typeInfo, hq, hs, hl]
end
theorem res_A10 {P : Program} {fn : Func} {p : Tmp} {ty : TypeId} {fs : Array Field} {tmps : Array Value} {w : World} {b : Nat} {x0 x1 x2 x3 x4 x5 x6 x7 x8 x9 : Int} (h : fn.results = #[.cell p ty]) (hu : P.underlying ty = some (.struct fs)) (hi : (P.info? ty).map (·.size) = some 10)
    (hp : tmps.getD p undef = .pointer (some ⟨b, 0, none⟩)) (hA : Arr10 w b x0 x1 x2 x3 x4 x5 x6 x7 x8 x9) :
    (results fn tmps).run P w = .ok (.agg #[.int .i64 x0, .int .i64 x1, .int .i64 x2, .int .i64 x3, .int .i64 x4, .int .i64 x5, .int .i64 x6, .int .i64 x7, .int .i64 x8, .int .i64 x9]) w := by
  have hp' : tmps[p]?.getD undef = .pointer (some ⟨b, 0, none⟩) := by simpa using hp
  simp [results, h, hp', asAddr, loadVar10 w b ty fs _ _ _ _ _ _ _ _ _ _ hu hi hA.c0 hA.c1 hA.c2 hA.c3 hA.c4 hA.c5 hA.c6 hA.c7 hA.c8 hA.c9]
section
variable {H : Type} {enc : TypeId × Value → H} {P : Program} {w : World} {base : Nat} {spare : Nat → Bool} {held : Bool}
theorem open_a4 {t e : TypeId} {m : Nat} {c0 c1 c2 c3 : Value} {y : DataW H × List MemPlace} (ht : P.underlying t = some (.array 4 e)) (he : P.underlying e = some (.int .i64)) (hce : P.cellsOf e = 1)
    (h : DataW.trod enc P w base spare held m t [c0, c1, c2, c3] = some y) : ∃ a b c d : Int, c0 = .int .i64 a ∧ c1 = .int .i64 b ∧ c2 = .int .i64 c ∧ c3 = .int .i64 d := by
  obtain ⟨y0, y1, y2, y3, m, hx, hy0, hy1, hy2, hy3⟩ := trod_array4 ht hce h
  obtain ⟨x0, e0, rfl, w0⟩ := DataW.trod_int he hy0
  obtain ⟨x1, e1, rfl, w1⟩ := DataW.trod_int he hy1
  obtain ⟨x2, e2, rfl, w2⟩ := DataW.trod_int he hy2
  obtain ⟨x3, e3, rfl, w3⟩ := DataW.trod_int he hy3
  simp at e0 e1 e2 e3
  exact ⟨x0, x1, x2, x3, e0, e1, e2, e3⟩
theorem open_a3 {t e : TypeId} {m : Nat} {c0 c1 c2 : Value} {y : DataW H × List MemPlace} (ht : P.underlying t = some (.array 3 e)) (he : P.underlying e = some (.int .i64)) (hce : P.cellsOf e = 1)
    (h : DataW.trod enc P w base spare held m t [c0, c1, c2] = some y) : ∃ a b c : Int, c0 = .int .i64 a ∧ c1 = .int .i64 b ∧ c2 = .int .i64 c := by
  obtain ⟨y0, y1, y2, m, hx, hy0, hy1, hy2⟩ := trod_array3 ht hce h
  obtain ⟨x0, e0, rfl, w0⟩ := DataW.trod_int he hy0
  obtain ⟨x1, e1, rfl, w1⟩ := DataW.trod_int he hy1
  obtain ⟨x2, e2, rfl, w2⟩ := DataW.trod_int he hy2
  simp at e0 e1 e2
  exact ⟨x0, x1, x2, e0, e1, e2⟩
theorem open_desk {r : Reach} {b0 : Nat} {t t4 t3 e : TypeId} {f0 f1 f2 : Field} {v : Value} {x : DataW H} {p : List MemPlace} (ht : P.underlying t = some (.struct #[f0, f1, f2])) (h0 : f0.type = t4 ∧ f0.offset = 0) (h1 : f1.type = t3 ∧ f1.offset = 4) (h2 : f2.type = t3 ∧ f2.offset = 7)
    (ht4 : P.underlying t4 = some (.array 4 e)) (ht3 : P.underlying t3 = some (.array 3 e)) (he : P.underlying e = some (.int .i64)) (hct : P.cellsOf t = 10) (hc4 : P.cellsOf t4 = 4) (hc3 : P.cellsOf t3 = 3) (hce : P.cellsOf e = 1)
    (hv : Value.okWide P w r b0 t v) (h : DataW.Trod enc P w base spare held t v x p) : ∃ p0 p1 p2 p3 p4 p5 p6 p7 p8 p9 : Int, v = .agg #[.int .i64 p0, .int .i64 p1, .int .i64 p2, .int .i64 p3, .int .i64 p4, .int .i64 p5, .int .i64 p6, .int .i64 p7, .int .i64 p8, .int .i64 p9] := by
  obtain ⟨cs, rfl, hsz, _⟩ : ∃ cs, v = .agg cs ∧ cs.size = P.cellsOf t ∧ Row.okWide P w r b0 t cs := by
    simpa [Value.okWide, ht] using hv
  rw [hct] at hsz
  obtain ⟨l⟩ := cs
  match l, hsz with
  | [c0, c1, c2, c3, c4, c5, c6, c7, c8, c9], _ =>
    obtain ⟨fuel, hf⟩ := h
    obtain ⟨y0, y1, y2, m, hx, hl, k0, k1, k2⟩ := Go.Deep.trod_struct3 ht hf
    rw [h0.1, h0.2, hc4] at k0
    rw [h1.1, h1.2, hc3] at k1
    rw [h2.1, h2.2, hc3] at k2
    obtain ⟨q0, q1, q2, q3, rfl, rfl, rfl, rfl⟩ := open_a4 ht4 he hce (by simpa [Value.cells] using k0)
    obtain ⟨q4, q5, q6, rfl, rfl, rfl⟩ := open_a3 ht3 he hce (by simpa [Value.cells] using k1)
    obtain ⟨q7, q8, q9, rfl, rfl, rfl⟩ := open_a3 ht3 he hce (by simpa [Value.cells] using k2)
    exact ⟨q0, q1, q2, q3, q4, q5, q6, q7, q8, q9, rfl⟩
end

end Go.Proofs.Ytmhlolimaeejfaa
