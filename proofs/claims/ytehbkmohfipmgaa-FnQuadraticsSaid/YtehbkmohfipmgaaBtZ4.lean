/- Several texts in one: XE0, XBx. -/
import Derived.Test.YtehbkmohfipmgaaBtZ3
import Derived.OwnWalk
import Derived.WalkMore

/- Boxes of nine and of six numbers; what elements of rings are. No Go function in sight. -/
namespace Go.Proofs.Ytehbkmohfipmgaa
open Go.RowKit

/-- Block k of w holds the 9 numbers. -/
structure Arr9 (w : World) (k : Nat) (p0 p1 p2 p3 p4 p5 p6 p7 p8 : Int) : Prop where
  lt : k < w.heap.size
  c0 : w.cell? ⟨k, 0, none⟩ = some (.int .i64 p0)
  c1 : w.cell? ⟨k, 1, none⟩ = some (.int .i64 p1)
  c2 : w.cell? ⟨k, 2, none⟩ = some (.int .i64 p2)
  c3 : w.cell? ⟨k, 3, none⟩ = some (.int .i64 p3)
  c4 : w.cell? ⟨k, 4, none⟩ = some (.int .i64 p4)
  c5 : w.cell? ⟨k, 5, none⟩ = some (.int .i64 p5)
  c6 : w.cell? ⟨k, 6, none⟩ = some (.int .i64 p6)
  c7 : w.cell? ⟨k, 7, none⟩ = some (.int .i64 p7)
  c8 : w.cell? ⟨k, 8, none⟩ = some (.int .i64 p8)
theorem Arr9.below {w w' : World} {k : Nat} {p0 p1 p2 p3 p4 p5 p6 p7 p8 : Int} (h : Arr9 w k p0 p1 p2 p3 p4 p5 p6 p7 p8) {B : Nat} (hb : Below B w w') (hB : k < B) : Arr9 w' k p0 p1 p2 p3 p4 p5 p6 p7 p8 :=
  ⟨Nat.lt_of_lt_of_le h.lt hb.size, (hb.cell (p := ⟨k, 0, none⟩) hB).trans h.c0, (hb.cell (p := ⟨k, 1, none⟩) hB).trans h.c1, (hb.cell (p := ⟨k, 2, none⟩) hB).trans h.c2, (hb.cell (p := ⟨k, 3, none⟩) hB).trans h.c3, (hb.cell (p := ⟨k, 4, none⟩) hB).trans h.c4, (hb.cell (p := ⟨k, 5, none⟩) hB).trans h.c5, (hb.cell (p := ⟨k, 6, none⟩) hB).trans h.c6, (hb.cell (p := ⟨k, 7, none⟩) hB).trans h.c7, (hb.cell (p := ⟨k, 8, none⟩) hB).trans h.c8⟩
theorem Arr9.next {w w' : World} {k : Nat} {p0 p1 p2 p3 p4 p5 p6 p7 p8 : Int} (h : Arr9 w k p0 p1 p2 p3 p4 p5 p6 p7 p8) (hb : Below w.heap.size w w') : Arr9 w' k p0 p1 p2 p3 p4 p5 p6 p7 p8 := h.below hb h.lt
theorem Arr9.new (w : World) (p0 p1 p2 p3 p4 p5 p6 p7 p8 : Int) (t : TypeId) : Arr9 (w.alloc (.cells #[.int .i64 p0, .int .i64 p1, .int .i64 p2, .int .i64 p3, .int .i64 p4, .int .i64 p5, .int .i64 p6, .int .i64 p7, .int .i64 p8] t)) w.heap.size p0 p1 p2 p3 p4 p5 p6 p7 p8 := by
  constructor <;> simp [go_sem]
theorem Arr9.alloc {w : World} {k : Nat} {p0 p1 p2 p3 p4 p5 p6 p7 p8 : Int} (h : Arr9 w k p0 p1 p2 p3 p4 p5 p6 p7 p8) (o : Obj) : Arr9 (w.alloc o) k p0 p1 p2 p3 p4 p5 p6 p7 p8 := h.next ((Below.refl _ w).alloc (Nat.le_refl _) o)
theorem Arr9.drew {w : World} {k : Nat} {p0 p1 p2 p3 p4 p5 p6 p7 p8 : Int} (h : Arr9 w k p0 p1 p2 p3 p4 p5 p6 p7 p8) : Arr9 w.drew k p0 p1 p2 p3 p4 p5 p6 p7 p8 := h.next ((Below.refl _ w).drew)
theorem Arr9.drewN {w : World} {k : Nat} {p0 p1 p2 p3 p4 p5 p6 p7 p8 : Int} (h : Arr9 w k p0 p1 p2 p3 p4 p5 p6 p7 p8) (n : Nat) : Arr9 (w.drewN n) k p0 p1 p2 p3 p4 p5 p6 p7 p8 := h.next (gr_drewN (Below.refl _ w) n)
theorem Arr9.oth {w : World} {k : Nat} {p0 p1 p2 p3 p4 p5 p6 p7 p8 : Int} (h : Arr9 w k p0 p1 p2 p3 p4 p5 p6 p7 p8) {p : Addr} (hp : k ≠ p.block) (v : Value) : Arr9 (w.setCell p v) k p0 p1 p2 p3 p4 p5 p6 p7 p8 := by
  have ne : ∀ o, p ≠ (⟨k, o, none⟩ : Addr) := fun o e => hp (by rw [e])
  exact ⟨by rw [World.size_setCell]; exact h.lt, (World.cell?_setCell_other _ _ _ _ (ne 0)).trans h.c0, (World.cell?_setCell_other _ _ _ _ (ne 1)).trans h.c1, (World.cell?_setCell_other _ _ _ _ (ne 2)).trans h.c2, (World.cell?_setCell_other _ _ _ _ (ne 3)).trans h.c3, (World.cell?_setCell_other _ _ _ _ (ne 4)).trans h.c4, (World.cell?_setCell_other _ _ _ _ (ne 5)).trans h.c5, (World.cell?_setCell_other _ _ _ _ (ne 6)).trans h.c6, (World.cell?_setCell_other _ _ _ _ (ne 7)).trans h.c7, (World.cell?_setCell_other _ _ _ _ (ne 8)).trans h.c8⟩
theorem Arr9.oth3 {w : World} {j i : Nat} {p0 p1 p2 p3 p4 p5 p6 p7 p8 : Int} (h : Arr9 w j p0 p1 p2 p3 p4 p5 p6 p7 p8) (hne : j ≠ i) {x y z : Value} : Arr9 (((w.setCell ⟨i, 0, none⟩ x).setCell ⟨i, 1, none⟩ y).setCell ⟨i, 2, none⟩ z) j p0 p1 p2 p3 p4 p5 p6 p7 p8 :=
  ((h.oth (p := ⟨i, 0, none⟩) hne _).oth (p := ⟨i, 1, none⟩) hne _).oth (p := ⟨i, 2, none⟩) hne _

/-- Block k of w holds the 6 numbers. -/
structure Arr6 (w : World) (k : Nat) (p0 p1 p2 p3 p4 p5 : Int) : Prop where
  lt : k < w.heap.size
  c0 : w.cell? ⟨k, 0, none⟩ = some (.int .i64 p0)
  c1 : w.cell? ⟨k, 1, none⟩ = some (.int .i64 p1)
  c2 : w.cell? ⟨k, 2, none⟩ = some (.int .i64 p2)
  c3 : w.cell? ⟨k, 3, none⟩ = some (.int .i64 p3)
  c4 : w.cell? ⟨k, 4, none⟩ = some (.int .i64 p4)
  c5 : w.cell? ⟨k, 5, none⟩ = some (.int .i64 p5)
theorem Arr6.below {w w' : World} {k : Nat} {p0 p1 p2 p3 p4 p5 : Int} (h : Arr6 w k p0 p1 p2 p3 p4 p5) {B : Nat} (hb : Below B w w') (hB : k < B) : Arr6 w' k p0 p1 p2 p3 p4 p5 :=
  ⟨Nat.lt_of_lt_of_le h.lt hb.size, (hb.cell (p := ⟨k, 0, none⟩) hB).trans h.c0, (hb.cell (p := ⟨k, 1, none⟩) hB).trans h.c1, (hb.cell (p := ⟨k, 2, none⟩) hB).trans h.c2, (hb.cell (p := ⟨k, 3, none⟩) hB).trans h.c3, (hb.cell (p := ⟨k, 4, none⟩) hB).trans h.c4, (hb.cell (p := ⟨k, 5, none⟩) hB).trans h.c5⟩
theorem Arr6.next {w w' : World} {k : Nat} {p0 p1 p2 p3 p4 p5 : Int} (h : Arr6 w k p0 p1 p2 p3 p4 p5) (hb : Below w.heap.size w w') : Arr6 w' k p0 p1 p2 p3 p4 p5 := h.below hb h.lt
theorem Arr6.new (w : World) (p0 p1 p2 p3 p4 p5 : Int) (t : TypeId) : Arr6 (w.alloc (.cells #[.int .i64 p0, .int .i64 p1, .int .i64 p2, .int .i64 p3, .int .i64 p4, .int .i64 p5] t)) w.heap.size p0 p1 p2 p3 p4 p5 := by
  constructor <;> simp [go_sem]
theorem Arr6.alloc {w : World} {k : Nat} {p0 p1 p2 p3 p4 p5 : Int} (h : Arr6 w k p0 p1 p2 p3 p4 p5) (o : Obj) : Arr6 (w.alloc o) k p0 p1 p2 p3 p4 p5 := h.next ((Below.refl _ w).alloc (Nat.le_refl _) o)
theorem Arr6.drew {w : World} {k : Nat} {p0 p1 p2 p3 p4 p5 : Int} (h : Arr6 w k p0 p1 p2 p3 p4 p5) : Arr6 w.drew k p0 p1 p2 p3 p4 p5 := h.next ((Below.refl _ w).drew)
theorem Arr6.drewN {w : World} {k : Nat} {p0 p1 p2 p3 p4 p5 : Int} (h : Arr6 w k p0 p1 p2 p3 p4 p5) (n : Nat) : Arr6 (w.drewN n) k p0 p1 p2 p3 p4 p5 := h.next (gr_drewN (Below.refl _ w) n)
theorem Arr6.oth {w : World} {k : Nat} {p0 p1 p2 p3 p4 p5 : Int} (h : Arr6 w k p0 p1 p2 p3 p4 p5) {p : Addr} (hp : k ≠ p.block) (v : Value) : Arr6 (w.setCell p v) k p0 p1 p2 p3 p4 p5 := by
  have ne : ∀ o, p ≠ (⟨k, o, none⟩ : Addr) := fun o e => hp (by rw [e])
  exact ⟨by rw [World.size_setCell]; exact h.lt, (World.cell?_setCell_other _ _ _ _ (ne 0)).trans h.c0, (World.cell?_setCell_other _ _ _ _ (ne 1)).trans h.c1, (World.cell?_setCell_other _ _ _ _ (ne 2)).trans h.c2, (World.cell?_setCell_other _ _ _ _ (ne 3)).trans h.c3, (World.cell?_setCell_other _ _ _ _ (ne 4)).trans h.c4, (World.cell?_setCell_other _ _ _ _ (ne 5)).trans h.c5⟩
theorem Arr6.oth3 {w : World} {j i : Nat} {p0 p1 p2 p3 p4 p5 : Int} (h : Arr6 w j p0 p1 p2 p3 p4 p5) (hne : j ≠ i) {x y z : Value} : Arr6 (((w.setCell ⟨i, 0, none⟩ x).setCell ⟨i, 1, none⟩ y).setCell ⟨i, 2, none⟩ z) j p0 p1 p2 p3 p4 p5 :=
  ((h.oth (p := ⟨i, 0, none⟩) hne _).oth (p := ⟨i, 1, none⟩) hne _).oth (p := ⟨i, 2, none⟩) hne _

/-- All of absolute values of at most L. -/
def is3 (L a b c : Int) : Bool := rng (-L) L a && rng (-L) L b && rng (-L) L c
def is4 (L a b c d : Int) : Bool := rng (-L) L a && rng (-L) L b && rng (-L) L c && rng (-L) L d
theorem is3_t {L a b c : Int} (h : is3 L a b c = true) : (-L ≤ a ∧ a ≤ L) ∧ (-L ≤ b ∧ b ≤ L) ∧ (-L ≤ c ∧ c ≤ L) := by
  simp only [is3, Bool.and_eq_true] at h
  exact ⟨rng_t h.1.1, rng_t h.1.2, rng_t h.2⟩
theorem is3_mk {L a b c : Int} (ha : -L ≤ a ∧ a ≤ L) (hb : -L ≤ b ∧ b ≤ L) (hc : -L ≤ c ∧ c ≤ L) : is3 L a b c = true := by
  simp [is3, rng_mk ha.1 ha.2, rng_mk hb.1 hb.2, rng_mk hc.1 hc.2]
theorem is3_eq {L a b c : Int} {r : Bool} (h : r = true ↔ (-L ≤ a ∧ a ≤ L) ∧ (-L ≤ b ∧ b ≤ L) ∧ (-L ≤ c ∧ c ≤ L)) : r = is3 L a b c := by
  rw [Bool.eq_iff_iff, h]
  exact ⟨fun ⟨p, q, r⟩ => is3_mk p q r, is3_t⟩
theorem is4_t {L a b c d : Int} (h : is4 L a b c d = true) : (-L ≤ a ∧ a ≤ L) ∧ (-L ≤ b ∧ b ≤ L) ∧ (-L ≤ c ∧ c ≤ L) ∧ (-L ≤ d ∧ d ≤ L) := by
  simp only [is4, Bool.and_eq_true] at h
  exact ⟨rng_t h.1.1.1, rng_t h.1.1.2, rng_t h.1.2, rng_t h.2⟩
theorem is4_mk {L a b c d : Int} (ha : -L ≤ a ∧ a ≤ L) (hb : -L ≤ b ∧ b ≤ L) (hc : -L ≤ c ∧ c ≤ L) (hd : -L ≤ d ∧ d ≤ L) : is4 L a b c d = true := by
  simp [is4, rng_mk ha.1 ha.2, rng_mk hb.1 hb.2, rng_mk hc.1 hc.2, rng_mk hd.1 hd.2]
theorem is4_eq {L a b c d : Int} {r : Bool} (h : r = true ↔ (-L ≤ a ∧ a ≤ L) ∧ (-L ≤ b ∧ b ≤ L) ∧ (-L ≤ c ∧ c ≤ L) ∧ (-L ≤ d ∧ d ≤ L)) : r = is4 L a b c d := by
  rw [Bool.eq_iff_iff, h]
  exact ⟨fun ⟨p, q, r, s⟩ => is4_mk p q r s, is4_t⟩
/-- An element. -/
def isE (a b c : Int) : Bool := is3 10000 a b c
/-- The code of an element of a result. -/
def elc (a b c : Int) : Int := if isE a b c then 0 else 3
/-- The code of a form and an element; of a form and two elements. -/
def fec (a b c d u v w : Int) : Int := if isF a b c d && isE u v w then 0 else 1
def fee (a b c d u v w x y z : Int) : Int := if isF a b c d && isE u v w && isE x y z then 0 else 1
/-- The same with numbers of at most L. -/
def few (L a b c d u v w : Int) : Int := if isF a b c d && isE u v w then (if is4 L a b c d && is3 L u v w then 0 else 2) else 1
theorem ret_t3 {a b c k a' b' c' k' : Int} (h0 : a = a') (h1 : b = b') (h2 : c = c') (h4 : k = k') : Ending.returned (.tuple #[.agg #[.int .i64 a, .int .i64 b, .int .i64 c], .int .i64 k]) = .returned (.tuple #[.agg #[.int .i64 a', .int .i64 b', .int .i64 c'], .int .i64 k']) := by rw [h0, h1, h2, h4]
/-- -x y, as the text has it: the negative number of x, times y. -/
def np (x y : Int) : Int := wrap64 (-x * y)
def ng (x : Int) : Int := wrap64 (-x)
/-- One number of a product: h of the numbers u, u', and p, q, r of the table. -/
def mm (h p q r x1 x2 y1 y2 : Int) : Int := h + x1 * y1 * p + (x1 * y2 + x2 * y1) * q + x2 * y2 * r
/-- The numbers of a product by a table. -/
def m0 (p q r x0 x1 x2 y0 y1 y2 : Int) : Int := wrap64 (mm (x0 * y0) p q r x1 x2 y1 y2)
def m1 (p q r x0 x1 x2 y0 y1 y2 : Int) : Int := wrap64 (mm (x0 * y1 + x1 * y0) p q r x1 x2 y1 y2)
def m2 (p q r x0 x1 x2 y0 y1 y2 : Int) : Int := wrap64 (mm (x0 * y2 + x2 * y0) p q r x1 x2 y1 y2)
theorem wr_am (a k p : Int) : wrap64 (a + wrap64 k * p) = wrap64 (a + k * p) := by rw [← wr_ar, wr_ml, wr_ar]
theorem wr_mm (h k1 p k2 q k3 r : Int) : wrap64 (h + wrap64 k1 * p + wrap64 k2 * q + wrap64 k3 * r) = wrap64 (h + k1 * p + k2 * q + k3 * r) := by
  rw [wr_am, ← wr_al (h + wrap64 k1 * p + wrap64 k2 * q), wr_am, ← wr_al (h + wrap64 k1 * p), wr_am]
  simp only [wr_al]

end Go.Proofs.Ytehbkmohfipmgaa

/- Blocks known whole: kept by growth, by appends to other blocks. No Go function in sight. -/
namespace Go.Proofs.Ytehbkmohfipmgaa
open Go.RowKit

/-- Block k of w is just these cells, of type T. -/
def Bx (w : World) (k : Nat) (xs : Array Value) (T : TypeId) : Prop := w.heap[k]? = some (.cells xs T)
theorem Bx.lt {w : World} {k : Nat} {xs : Array Value} {T : TypeId} (h : Bx w k xs T) : k < w.heap.size := (Array.getElem?_eq_some_iff.1 h).1
theorem Bx.below {w w' : World} {k : Nat} {xs : Array Value} {T : TypeId} (h : Bx w k xs T) {B : Nat} (hb : Below B w w') (hB : k < B) : Bx w' k xs T := (hb.block k hB).trans h
theorem Bx.next {w w' : World} {k : Nat} {xs : Array Value} {T : TypeId} (h : Bx w k xs T) (hb : Below w.heap.size w w') : Bx w' k xs T := h.below hb h.lt
theorem Bx.new (w : World) (xs : Array Value) (T : TypeId) : Bx (w.alloc (.cells xs T)) w.heap.size xs T := heap_alloc_new w _
theorem Bx.alloc {w : World} {k : Nat} {xs : Array Value} {T : TypeId} (h : Bx w k xs T) (o : Obj) : Bx (w.alloc o) k xs T := h.next ((Below.refl _ w).alloc (Nat.le_refl _) o)
theorem Bx.drew {w : World} {k : Nat} {xs : Array Value} {T : TypeId} (h : Bx w k xs T) : Bx w.drew k xs T := h
theorem Bx.drewN {w : World} {k : Nat} {xs : Array Value} {T : TypeId} (h : Bx w k xs T) (n : Nat) : Bx (w.drewN n) k xs T := h.next (gr_drewN (Below.refl _ w) n)
theorem Bx.grown {w w' : World} {row : Option Nat} {k : Nat} {xs : Array Value} {T : TypeId} (h : Bx w k xs T) (hg : w.grownBy w' row) (hr : ∀ j, row = some j → j ≠ k) : Bx w' k xs T :=
  (hg.block k h.lt (fun e => hr k e.symm rfl)).trans h
theorem Bx.own {w : World} {k : Nat} {xs : Array Value} {T t : TypeId} (h : Bx w k xs T) {B size : Nat} {v : Value} {n : Nat} {ys : List Value} (h' : w.ownsRow B t size v n ys) (ht : T ≠ t) : ∀ j, v.ownBlock = some j → j ≠ k := by
  intro j hj e
  subst e
  rcases h'.2 with ⟨rfl, _⟩ | ⟨g, cap, cur, rfl, _, hg, _⟩
  · simp [Value.ownBlock] at hj
  · simp only [Value.ownBlock, Option.some.injEq] at hj
    subst hj
    rw [show w.heap[g]? = _ from h] at hg
    exact ht (by simpa using (by cases hg; rfl : T = t))
theorem Bx.cell {w : World} {k : Nat} {xs : Array Value} {T : TypeId} (h : Bx w k xs T) (i : Nat) : w.cell? ⟨k, i, none⟩ = xs[i]? := by
  simp [World.cell?, show w.heap[k]? = _ from h]
theorem Bx.frozen {w : World} {k : Nat} {xs : Array Value} {T : TypeId} (h : Bx w k xs T) (i : Nat) : w.frozen? ⟨k, i, none⟩ = false := by
  simp [World.frozen?, show w.heap[k]? = _ from h]
theorem Bx.arr3 {w : World} {k : Nat} {a b c : Int} {T : TypeId} (h : Bx w k #[.int .i64 a, .int .i64 b, .int .i64 c] T) : Arr3 w k a b c :=
  ⟨h.lt, h.cell 0, h.cell 1, h.cell 2, h.frozen 0, h.frozen 1, h.frozen 2⟩
theorem Bx.arr4 {w : World} {k : Nat} {a b c d : Int} {T : TypeId} (h : Bx w k #[.int .i64 a, .int .i64 b, .int .i64 c, .int .i64 d] T) : Arr w k a b c d :=
  ⟨h.lt, h.cell 0, h.cell 1, h.cell 2, h.cell 3, h.frozen 0, h.frozen 1, h.frozen 2, h.frozen 3⟩
theorem Bx.arr9 {w : World} {k : Nat} {p0 p1 p2 p3 p4 p5 p6 p7 p8 : Int} {T : TypeId} (h : Bx w k #[.int .i64 p0, .int .i64 p1, .int .i64 p2, .int .i64 p3, .int .i64 p4, .int .i64 p5, .int .i64 p6, .int .i64 p7, .int .i64 p8] T) : Arr9 w k p0 p1 p2 p3 p4 p5 p6 p7 p8 :=
  ⟨h.lt, h.cell 0, h.cell 1, h.cell 2, h.cell 3, h.cell 4, h.cell 5, h.cell 6, h.cell 7, h.cell 8⟩
theorem gr_own {w w' w'' : World} {row : Option Nat} (h : Below w.heap.size w w') (hg : w'.grownBy w'' row) (hr : ∀ k, row = some k → w.heap.size ≤ k) : Below w.heap.size w w'' :=
  ⟨hg.os.trans h.os, by rw [hg.tape, h.tape], hg.output.trans h.output, Nat.le_trans h.size hg.size, fun k hk => (hg.block k (Nat.lt_of_lt_of_le hk h.size) (fun e => by have := hr k e.symm; omega)).trans (h.block k hk)⟩
/-- Kept by an append of a new block's cells to a row of another type. -/
theorem Bx.app {W W' : World} {k : Nat} {xs : Array Value} {T t : TypeId} (h : Bx W k xs T) {B size : Nat} {v : Value} {n : Nat} {ys : List Value} (h' : W.ownsRow B t size v n ys) (ht : T ≠ t) {o : Obj} (hg : (W.alloc o).grownBy W' v.ownBlock) : Bx W' k xs T :=
  (h.alloc o).grown hg ((h.alloc o).own (h'.alloc o) ht)

end Go.Proofs.Ytehbkmohfipmgaa
