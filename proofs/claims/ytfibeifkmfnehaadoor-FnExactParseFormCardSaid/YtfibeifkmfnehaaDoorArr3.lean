/- Boxes of three numbers. No Go function in sight. -/
import Derived.Test.YtfibeifkmfnehaaDoorBase
namespace Go.Proofs.YtfibeifkmfnehaaDoor
open Go.RowKit

section
variable {P : Program}
theorem loadVar3 (w : World) (b : Nat) (ty e : TypeId) (x0 x1 x2 : Value) (hu : P.underlying ty = some (.array 3 e)) (hi : (P.info? ty).map (·.size) = some 3)
    (c0 : w.cell? ⟨b, 0, none⟩ = some x0) (c1 : w.cell? ⟨b, 1, none⟩ = some x1) (c2 : w.cell? ⟨b, 2, none⟩ = some x2) :
    (loadVar ty ⟨b, 0, none⟩).run P w = .ok (.agg #[x0, x1, x2]) w := by
  have hl : (loadCells ⟨b, 0, none⟩ [x0, x1, x2].length).run P w = .ok [x0, x1, x2].toArray w :=
    run_loadCells_list (P := P) w ⟨b, 0, none⟩ [x0, x1, x2] (fun j v hv => by
      have hadd : (⟨b, 0, none⟩ : Addr).add j = ⟨b, j, none⟩ := by unfold Addr.add; split <;> simp_all
      rw [hadd]
      match j, hv with
      | 0, hv => cases hv; exact c0
      | 1, hv => cases hv; exact c1
      | 2, hv => cases hv; exact c2)
  cases hq : P.info? ty with
  | none => simp [hq] at hi
  | some i =>
    have hs : i.size = 3 := by simpa [hq] using hi
    have hagg : (isAgg ty).run P w = .ok true w := by
      unfold isAgg
      rw [Sem.run_bind, run_underlying hu w]
      simp
    simp only [List.length_cons, List.length_nil, Nat.reduceAdd] at hl
    simp [loadVar, Sem.run_bind, hagg, sizeOf, typeInfo, hq, hs, hl]
end

/-- Block k of w holds the three numbers. -/
structure Arr3 (w : World) (k : Nat) (a b c : Int) : Prop where
  lt : k < w.heap.size
  c0 : w.cell? ⟨k, 0, none⟩ = some (.int .i64 a)
  c1 : w.cell? ⟨k, 1, none⟩ = some (.int .i64 b)
  c2 : w.cell? ⟨k, 2, none⟩ = some (.int .i64 c)
  f0 : w.frozen? ⟨k, 0, none⟩ = false
  f1 : w.frozen? ⟨k, 1, none⟩ = false
  f2 : w.frozen? ⟨k, 2, none⟩ = false
theorem Arr3.below {w w' : World} {k : Nat} {a b c : Int} (h : Arr3 w k a b c) {B : Nat} (hb : Below B w w') (hB : k < B) : Arr3 w' k a b c :=
  ⟨Nat.lt_of_lt_of_le h.lt hb.size, (hb.cell (p := ⟨k, 0, none⟩) hB).trans h.c0, (hb.cell (p := ⟨k, 1, none⟩) hB).trans h.c1, (hb.cell (p := ⟨k, 2, none⟩) hB).trans h.c2,
    (hb.frozen (p := ⟨k, 0, none⟩) hB).trans h.f0, (hb.frozen (p := ⟨k, 1, none⟩) hB).trans h.f1, (hb.frozen (p := ⟨k, 2, none⟩) hB).trans h.f2⟩
theorem Arr3.next {w w' : World} {k : Nat} {a b c : Int} (h : Arr3 w k a b c) (hb : Below w.heap.size w w') : Arr3 w' k a b c := h.below hb h.lt
theorem Arr3.new (w : World) (a b c : Int) (t : TypeId) : Arr3 (w.alloc (.cells #[.int .i64 a, .int .i64 b, .int .i64 c] t)) w.heap.size a b c := by
  constructor <;> simp [go_sem]
theorem Arr3.alloc {w : World} {k : Nat} {a b c : Int} (h : Arr3 w k a b c) (o : Obj) : Arr3 (w.alloc o) k a b c := h.next ((Below.refl _ w).alloc (Nat.le_refl _) o)
theorem Arr3.drew {w : World} {k : Nat} {a b c : Int} (h : Arr3 w k a b c) : Arr3 w.drew k a b c := h.next ((Below.refl _ w).drew)
theorem Arr3.drewN {w : World} {k : Nat} {a b c : Int} (h : Arr3 w k a b c) (n : Nat) : Arr3 (w.drewN n) k a b c := h.next (gr_drewN (Below.refl _ w) n)
theorem Arr3.oth {w : World} {k : Nat} {a b c : Int} (h : Arr3 w k a b c) {p : Addr} (hp : k ≠ p.block) (v : Value) : Arr3 (w.setCell p v) k a b c := by
  have ne : ∀ o, p ≠ (⟨k, o, none⟩ : Addr) := fun o e => hp (by rw [e])
  exact ⟨by rw [World.size_setCell]; exact h.lt, (World.cell?_setCell_other _ _ _ _ (ne 0)).trans h.c0, (World.cell?_setCell_other _ _ _ _ (ne 1)).trans h.c1, (World.cell?_setCell_other _ _ _ _ (ne 2)).trans h.c2,
    (World.frozen?_setCell _ _ _ _).trans h.f0, (World.frozen?_setCell _ _ _ _).trans h.f1, (World.frozen?_setCell _ _ _ _).trans h.f2⟩
theorem Arr3.set0 {w : World} {k : Nat} {a b c : Int} (h : Arr3 w k a b c) (x : Int) : Arr3 (w.setCell ⟨k, 0, none⟩ (.int .i64 x)) k x b c :=
  ⟨by rw [World.size_setCell]; exact h.lt, World.cell?_setCell_same' _ _ _ (by rw [h.c0]; rfl), (World.cell?_setCell_other _ _ _ _ (ne_off (by decide))).trans h.c1, (World.cell?_setCell_other _ _ _ _ (ne_off (by decide))).trans h.c2, (World.frozen?_setCell _ _ _ _).trans h.f0, (World.frozen?_setCell _ _ _ _).trans h.f1, (World.frozen?_setCell _ _ _ _).trans h.f2⟩
theorem Arr3.set1 {w : World} {k : Nat} {a b c : Int} (h : Arr3 w k a b c) (x : Int) : Arr3 (w.setCell ⟨k, 1, none⟩ (.int .i64 x)) k a x c :=
  ⟨by rw [World.size_setCell]; exact h.lt, (World.cell?_setCell_other _ _ _ _ (ne_off (by decide))).trans h.c0, World.cell?_setCell_same' _ _ _ (by rw [h.c1]; rfl), (World.cell?_setCell_other _ _ _ _ (ne_off (by decide))).trans h.c2, (World.frozen?_setCell _ _ _ _).trans h.f0, (World.frozen?_setCell _ _ _ _).trans h.f1, (World.frozen?_setCell _ _ _ _).trans h.f2⟩
theorem Arr3.set2 {w : World} {k : Nat} {a b c : Int} (h : Arr3 w k a b c) (x : Int) : Arr3 (w.setCell ⟨k, 2, none⟩ (.int .i64 x)) k a b x :=
  ⟨by rw [World.size_setCell]; exact h.lt, (World.cell?_setCell_other _ _ _ _ (ne_off (by decide))).trans h.c0, (World.cell?_setCell_other _ _ _ _ (ne_off (by decide))).trans h.c1, World.cell?_setCell_same' _ _ _ (by rw [h.c2]; rfl), (World.frozen?_setCell _ _ _ _).trans h.f0, (World.frozen?_setCell _ _ _ _).trans h.f1, (World.frozen?_setCell _ _ _ _).trans h.f2⟩
/-- Block k of w holds three numbers, whatever they are. -/
def Box3 (w : World) (k : Nat) : Prop := ∃ a b c, Arr3 w k a b c
theorem Arr3.box {w : World} {k : Nat} {a b c : Int} (h : Arr3 w k a b c) : Box3 w k := ⟨a, b, c, h⟩
theorem Box3.oth {w : World} {k : Nat} (h : Box3 w k) {p : Addr} (hp : k ≠ p.block) (v : Value) : Box3 (w.setCell p v) k := by
  obtain ⟨a, b, c, h⟩ := h
  exact (h.oth hp v).box
theorem Box3.drew {w : World} {k : Nat} (h : Box3 w k) : Box3 w.drew k := by
  obtain ⟨a, b, c, h⟩ := h
  exact h.drew.box
theorem Box3.drewN {w : World} {k : Nat} (h : Box3 w k) (n : Nat) : Box3 (w.drewN n) k := by
  obtain ⟨a, b, c, h⟩ := h
  exact (h.drewN n).box
theorem Box3.alloc {w : World} {k : Nat} (h : Box3 w k) (o : Obj) : Box3 (w.alloc o) k := by
  obtain ⟨a, b, c, h⟩ := h
  exact (h.alloc o).box
theorem Box3.next {w w' : World} {k : Nat} (h : Box3 w k) (hb : Below w.heap.size w w') : Box3 w' k := by
  obtain ⟨a, b, c, h⟩ := h
  exact (h.next hb).box
theorem Box3.new (w : World) (a b c : Int) (t : TypeId) : Box3 (w.alloc (.cells #[.int .i64 a, .int .i64 b, .int .i64 c] t)) w.heap.size := (Arr3.new w a b c t).box
theorem Box3.elim {G : Prop} {w : World} {k : Nat} (h : Box3 w k) (K : ∀ a b c, Arr3 w k a b c → G) : G := by
  obtain ⟨a, b, c, h⟩ := h
  exact K a b c h
theorem cells43 {W : World} {i j : Nat} {a b c d p q r : Int} (L : Arr3 W j p q r) (K : Arr W i a b c d) :
    W.cell? ⟨j, 0, none⟩ = some (.int .i64 p) ∧ W.cell? ⟨j, 1, none⟩ = some (.int .i64 q) ∧ W.cell? ⟨j, 2, none⟩ = some (.int .i64 r) ∧ W.cell? ⟨i, 0, none⟩ = some (.int .i64 a) ∧ W.cell? ⟨i, 1, none⟩ = some (.int .i64 b) ∧ W.cell? ⟨i, 2, none⟩ = some (.int .i64 c) ∧ W.cell? ⟨i, 3, none⟩ = some (.int .i64 d) :=
  ⟨L.c0, L.c1, L.c2, K.c0, K.c1, K.c2, K.c3⟩
theorem Arr3.store3 {w : World} {k : Nat} (h : Box3 w k) {x y z : Int} : Arr3 (((w.setCell ⟨k, 0, none⟩ (.int .i64 x)).setCell ⟨k, 1, none⟩ (.int .i64 y)).setCell ⟨k, 2, none⟩ (.int .i64 z)) k x y z := by
  obtain ⟨a, b, c, h⟩ := h
  exact ((h.set0 x).set1 y).set2 z
theorem Arr3.oth4 {w : World} {j i : Nat} {a b c : Int} (h : Arr3 w j a b c) (hne : j ≠ i) {x y z u : Value} : Arr3 ((((w.setCell ⟨i, 0, none⟩ x).setCell ⟨i, 1, none⟩ y).setCell ⟨i, 2, none⟩ z).setCell ⟨i, 3, none⟩ u) j a b c :=
  (((h.oth (p := ⟨i, 0, none⟩) hne _).oth (p := ⟨i, 1, none⟩) hne _).oth (p := ⟨i, 2, none⟩) hne _).oth (p := ⟨i, 3, none⟩) hne _
theorem Arr3.oth3 {w : World} {j i : Nat} {a b c : Int} (h : Arr3 w j a b c) (hne : j ≠ i) {x y z : Value} : Arr3 (((w.setCell ⟨i, 0, none⟩ x).setCell ⟨i, 1, none⟩ y).setCell ⟨i, 2, none⟩ z) j a b c :=
  ((h.oth (p := ⟨i, 0, none⟩) hne _).oth (p := ⟨i, 1, none⟩) hne _).oth (p := ⟨i, 2, none⟩) hne _
theorem Arr.oth3 {w : World} {j i : Nat} {a b c d : Int} (h : Arr w j a b c d) (hne : j ≠ i) {x y z : Value} : Arr (((w.setCell ⟨i, 0, none⟩ x).setCell ⟨i, 1, none⟩ y).setCell ⟨i, 2, none⟩ z) j a b c d :=
  ((h.oth (p := ⟨i, 0, none⟩) hne _).oth (p := ⟨i, 1, none⟩) hne _).oth (p := ⟨i, 2, none⟩) hne _
/-- The answer that lies in block b, and a code. -/
theorem res_A3 {P : Program} {fn : Func} {p u : Tmp} {ty e : TypeId} {tmps : Array Value} {w : World} {b : Nat} {x0 x1 x2 : Int} (h : fn.results = #[.cell p ty, .tmp u]) (hu : P.underlying ty = some (.array 3 e)) (hi : (P.info? ty).map (·.size) = some 3)
    (hp : tmps.getD p undef = .pointer (some ⟨b, 0, none⟩)) (hA : Arr3 w b x0 x1 x2) :
    (results fn tmps).run P w = .ok (.tuple #[.agg #[.int .i64 x0, .int .i64 x1, .int .i64 x2], tmps.getD u undef]) w := by
  rw [results_cell_tmp h, hp]
  simp [asAddr, loadVar3 w b ty e _ _ _ hu hi hA.c0 hA.c1 hA.c2]
theorem res_A31 {P : Program} {fn : Func} {p : Tmp} {ty e : TypeId} {tmps : Array Value} {w : World} {b : Nat} {x0 x1 x2 : Int} (h : fn.results = #[.cell p ty]) (hu : P.underlying ty = some (.array 3 e)) (hi : (P.info? ty).map (·.size) = some 3)
    (hp : tmps.getD p undef = .pointer (some ⟨b, 0, none⟩)) (hA : Arr3 w b x0 x1 x2) :
    (results fn tmps).run P w = .ok (.agg #[.int .i64 x0, .int .i64 x1, .int .i64 x2]) w := by
  have hp' : tmps[p]?.getD undef = .pointer (some ⟨b, 0, none⟩) := by simpa using hp
  simp [results, h, hp', asAddr, loadVar3 w b ty e _ _ _ hu hi hA.c0 hA.c1 hA.c2]
theorem cells3 {W : World} {i : Nat} {a b c : Int} (K : Arr3 W i a b c) : W.cell? ⟨i, 0, none⟩ = some (.int .i64 a) ∧ W.cell? ⟨i, 1, none⟩ = some (.int .i64 b) ∧ W.cell? ⟨i, 2, none⟩ = some (.int .i64 c) := ⟨K.c0, K.c1, K.c2⟩
theorem ret_q {a b c k a' b' c' k' : Int} (h0 : a = a') (h1 : b = b') (h2 : c = c') (h4 : k = k') : Ending.returned (.tuple #[.agg #[.int .i64 a, .int .i64 b, .int .i64 c], .int .i64 k]) = .returned (.tuple #[.agg #[.int .i64 a', .int .i64 b', .int .i64 c'], .int .i64 k']) := by rw [h0, h1, h2, h4]
theorem ret_F3 {a b c a' b' c' : Int} (h0 : a = a') (h1 : b = b') (h2 : c = c') : Ending.returned (.agg #[.int .i64 a, .int .i64 b, .int .i64 c]) = .returned (.agg #[.int .i64 a', .int .i64 b', .int .i64 c']) := by rw [h0, h1, h2]

end Go.Proofs.YtfibeifkmfnehaaDoor
