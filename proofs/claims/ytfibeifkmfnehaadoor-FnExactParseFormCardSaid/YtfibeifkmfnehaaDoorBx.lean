/- Blocks known whole: kept by growth, by appends to other blocks. No Go function in sight. -/
import Derived.Test.YtfibeifkmfnehaaDoorE0
import Derived.OwnWalk
import Derived.WalkMore
namespace Go.Proofs.YtfibeifkmfnehaaDoor
open Go.RowKit

/-- Block k of w is just these cells, of type T. -/
def Bx (w : World) (k : Nat) (xs : Array Value) (T : TypeId) : Prop := w.heap[k]? = some (.cells xs T)
theorem Bx.lt {w : World} {k : Nat} {xs : Array Value} {T : TypeId} (h : Bx w k xs T) : k < w.heap.size := (Array.getElem?_eq_some_iff.1 h).1
theorem Bx.below {w w' : World} {k : Nat} {xs : Array Value} {T : TypeId} (h : Bx w k xs T) {B : Nat} (hb : Below B w w') (hB : k < B) : Bx w' k xs T := (hb.block k hB).trans h
theorem Bx.next {w w' : World} {k : Nat} {xs : Array Value} {T : TypeId} (h : Bx w k xs T) (hb : Below w.heap.size w w') : Bx w' k xs T := h.below hb h.lt
theorem Bx.new (w : World) (xs : Array Value) (T : TypeId) : Bx (w.alloc (.cells xs T)) w.heap.size xs T := heap_alloc_new w _
theorem Bx.alloc {w : World} {k : Nat} {xs : Array Value} {T : TypeId} (h : Bx w k xs T) (o : Obj) : Bx (w.alloc o) k xs T := h.next ((Below.refl _ w).alloc (Nat.le_refl _) o)
theorem Bx.drew {w : World} {k : Nat} {xs : Array Value} {T : TypeId} (h : Bx w k xs T) : Bx w.drew k xs T := h
theorem Bx.drewN {w : World} {k : Nat} {xs : Array Value} {T : TypeId} (h : Bx w k xs T) (n : Nat) : Bx (w.drewN n) k xs T := h.next (gr_drewN (Below.refl _ w) n)
theorem Bx.grown {w w' : World} {row : Option Nat} {k : Nat} {xs : Array Value} {T : TypeId} (h : Bx w k xs T) (hg : w.grownBy w' row) (hr : ∀ j, row = some j → j ≠ k) : Bx w' k xs T :=
  (hg.block k h.lt (fun e => hr k e.symm rfl)).trans h
theorem Bx.own {w : World} {k : Nat} {xs : Array Value} {T t : TypeId} (h : Bx w k xs T) {B size : Nat} {v : Value} {n : Nat} {ys : List Value} (h' : w.ownsRow B t size v n ys) (ht : T ≠ t) : ∀ j, v.ownBlock = some j → j ≠ k := by
  intro j hj e
  subst e
  rcases h'.2 with ⟨rfl, _⟩ | ⟨g, cap, cur, rfl, _, hg, _⟩
  · simp [Value.ownBlock] at hj
  · simp only [Value.ownBlock, Option.some.injEq] at hj
    subst hj
    rw [show w.heap[g]? = _ from h] at hg
    exact ht (by simpa using (by cases hg; rfl : T = t))
theorem Bx.cell {w : World} {k : Nat} {xs : Array Value} {T : TypeId} (h : Bx w k xs T) (i : Nat) : w.cell? ⟨k, i, none⟩ = xs[i]? := by
  simp [World.cell?, show w.heap[k]? = _ from h]
theorem Bx.frozen {w : World} {k : Nat} {xs : Array Value} {T : TypeId} (h : Bx w k xs T) (i : Nat) : w.frozen? ⟨k, i, none⟩ = false := by
  simp [World.frozen?, show w.heap[k]? = _ from h]
theorem Bx.arr3 {w : World} {k : Nat} {a b c : Int} {T : TypeId} (h : Bx w k #[.int .i64 a, .int .i64 b, .int .i64 c] T) : Arr3 w k a b c :=
  ⟨h.lt, h.cell 0, h.cell 1, h.cell 2, h.frozen 0, h.frozen 1, h.frozen 2⟩
theorem Bx.arr4 {w : World} {k : Nat} {a b c d : Int} {T : TypeId} (h : Bx w k #[.int .i64 a, .int .i64 b, .int .i64 c, .int .i64 d] T) : Arr w k a b c d :=
  ⟨h.lt, h.cell 0, h.cell 1, h.cell 2, h.cell 3, h.frozen 0, h.frozen 1, h.frozen 2, h.frozen 3⟩
theorem Bx.arr9 {w : World} {k : Nat} {p0 p1 p2 p3 p4 p5 p6 p7 p8 : Int} {T : TypeId} (h : Bx w k #[.int .i64 p0, .int .i64 p1, .int .i64 p2, .int .i64 p3, .int .i64 p4, .int .i64 p5, .int .i64 p6, .int .i64 p7, .int .i64 p8] T) : Arr9 w k p0 p1 p2 p3 p4 p5 p6 p7 p8 :=
  ⟨h.lt, h.cell 0, h.cell 1, h.cell 2, h.cell 3, h.cell 4, h.cell 5, h.cell 6, h.cell 7, h.cell 8⟩
theorem gr_own {w w' w'' : World} {row : Option Nat} (h : Below w.heap.size w w') (hg : w'.grownBy w'' row) (hr : ∀ k, row = some k → w.heap.size ≤ k) : Below w.heap.size w w'' :=
  ⟨hg.os.trans h.os, by rw [hg.tape, h.tape], hg.output.trans h.output, Nat.le_trans h.size hg.size, fun k hk => (hg.block k (Nat.lt_of_lt_of_le hk h.size) (fun e => by have := hr k e.symm; omega)).trans (h.block k hk)⟩
/-- Kept by an append of a new block's cells to a row of another type. -/
theorem Bx.app {W W' : World} {k : Nat} {xs : Array Value} {T t : TypeId} (h : Bx W k xs T) {B size : Nat} {v : Value} {n : Nat} {ys : List Value} (h' : W.ownsRow B t size v n ys) (ht : T ≠ t) {o : Obj} (hg : (W.alloc o).grownBy W' v.ownBlock) : Bx W' k xs T :=
  (h.alloc o).grown hg ((h.alloc o).own (h'.alloc o) ht)

end Go.Proofs.YtfibeifkmfnehaaDoor
