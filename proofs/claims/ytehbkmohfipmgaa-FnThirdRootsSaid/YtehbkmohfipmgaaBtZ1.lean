/- Several texts in one: XBase, XOpen. -/
import Derived.Test.YtehbkmohfipmgaaChecked
import Derived.WalkKit
import Derived.WalkSpells
import Derived.WalkLawsBesides
import Derived.Handy
import Derived.Deep.Light
import Derived.Deep.QuietTactic
import Derived.BigQuiet
import Derived.StillTailTactics
import Derived.Test.YtehbkmohfipmgaaRows
import Derived.ProofKit
import Derived.OpenShut
import Derived.ShutString
import Derived.ChangeOld
import Derived.Below
import Derived.Lib.SmallJoins
import Derived.Laws.IdiomArrays

/- Plain lemmas: worlds that only grow, boxes of four numbers, ranges. No Go function in sight. -/
namespace Go.Proofs.Ytehbkmohfipmgaa
open Go.RowKit

theorem hid {p : Prop} (h : p) : Hid p := h
section
variable {P : Program}
theorem loadVar4 (w : World) (b : Nat) (ty e : TypeId) (x0 x1 x2 x3 : Value) (hu : P.underlying ty = some (.array 4 e)) (hi : (P.info? ty).map (·.size) = some 4)
    (c0 : w.cell? ⟨b, 0, none⟩ = some x0) (c1 : w.cell? ⟨b, 1, none⟩ = some x1) (c2 : w.cell? ⟨b, 2, none⟩ = some x2) (c3 : w.cell? ⟨b, 3, none⟩ = some x3) :
    (loadVar ty ⟨b, 0, none⟩).run P w = .ok (.agg #[x0, x1, x2, x3]) w := by
  have hl : (loadCells ⟨b, 0, none⟩ [x0, x1, x2, x3].length).run P w = .ok [x0, x1, x2, x3].toArray w :=
    run_loadCells_list (P := P) w ⟨b, 0, none⟩ [x0, x1, x2, x3] (fun j v hv => by
      have hadd : (⟨b, 0, none⟩ : Addr).add j = ⟨b, j, none⟩ := by unfold Addr.add; split <;> simp_all
      rw [hadd]
      match j, hv with
      | 0, hv => cases hv; exact c0
      | 1, hv => cases hv; exact c1
      | 2, hv => cases hv; exact c2
      | 3, hv => cases hv; exact c3)
  cases hq : P.info? ty with
  | none => simp [hq] at hi
  | some i =>
    have hs : i.size = 4 := by simpa [hq] using hi
    have hagg : (isAgg ty).run P w = .ok true w := by
      unfold isAgg
      rw [Sem.run_bind, run_underlying hu w]
      simp
    simp only [List.length_cons, List.length_nil, Nat.reduceAdd] at hl
    simp [loadVar, Sem.run_bind, hagg, sizeOf, typeInfo, hq, hs, hl]
theorem res_arr {fn : Func} {p u : Tmp} {ty e : TypeId} {tmps : Array Value} {w : World} {b : Nat} (h : fn.results = #[.cell p ty, .tmp u]) (hu : P.underlying ty = some (.array 4 e)) (hi : (P.info? ty).map (·.size) = some 4)
    (hp : tmps.getD p undef = .pointer (some ⟨b, 0, none⟩)) {x0 x1 x2 x3 : Value}
    (c0 : w.cell? ⟨b, 0, none⟩ = some x0) (c1 : w.cell? ⟨b, 1, none⟩ = some x1) (c2 : w.cell? ⟨b, 2, none⟩ = some x2) (c3 : w.cell? ⟨b, 3, none⟩ = some x3) :
    (results fn tmps).run P w = .ok (.tuple #[.agg #[x0, x1, x2, x3], tmps.getD u undef]) w := by
  rw [results_cell_tmp h, hp]
  simp [asAddr, loadVar4 w b ty e x0 x1 x2 x3 hu hi c0 c1 c2 c3]
theorem res_arr1 {fn : Func} {p : Tmp} {ty e : TypeId} {tmps : Array Value} {w : World} {b : Nat} (h : fn.results = #[.cell p ty]) (hu : P.underlying ty = some (.array 4 e)) (hi : (P.info? ty).map (·.size) = some 4)
    (hp : tmps.getD p undef = .pointer (some ⟨b, 0, none⟩)) {x0 x1 x2 x3 : Value}
    (c0 : w.cell? ⟨b, 0, none⟩ = some x0) (c1 : w.cell? ⟨b, 1, none⟩ = some x1) (c2 : w.cell? ⟨b, 2, none⟩ = some x2) (c3 : w.cell? ⟨b, 3, none⟩ = some x3) :
    (results fn tmps).run P w = .ok (.agg #[x0, x1, x2, x3]) w := by
  have hp' : tmps[p]?.getD undef = .pointer (some ⟨b, 0, none⟩) := by simpa using hp
  simp [results, h, hp', asAddr, loadVar4 w b ty e x0 x1 x2 x3 hu hi c0 c1 c2 c3]
end

theorem quiet_s {P : Program} {f : FuncId} {args : Array Value} {w : World} {n : Nat} {v : Value}
    (h : Calls P f args (w.drewN n) fun e w' => e = .returned v ∧ w.drewN n = w') : Calls P f args (w.drewN n) fun e w'' => e = .returned v ∧ ∃ m, w'' = w.drewN m :=
  Calls.quiet_of_same (h.mono fun _ _ ⟨he, hm⟩ => ⟨he, hm.symm⟩)
theorem ret_bool {a b : Bool} (h : a = b) : Ending.returned (.bool a) = .returned (.bool b) := by rw [h]
theorem ret_int {k : IntKind} {a b : Int} (h : a = b) : Ending.returned (.int k a) = .returned (.int k b) := by rw [h]

/-- 'lo <= n && n <= hi'. -/
def rng (lo hi n : Int) : Bool := decide (lo ≤ n) && decide (n ≤ hi)
theorem rng_t {lo hi n : Int} (h : rng lo hi n = true) : lo ≤ n ∧ n ≤ hi := by simpa [rng] using h
theorem rng_f {lo hi n : Int} (h : rng lo hi n = false) : n < lo ∨ hi < n := by
  simp [rng] at h; omega
theorem rng_mk {lo hi n : Int} (h : lo ≤ n) (h' : n ≤ hi) : rng lo hi n = true := by simp [rng, h, h']

/-- A form, a matrix: four numbers of at most 1000. -/
def isF (a b c d : Int) : Bool := rng (-1000) 1000 a && rng (-1000) 1000 b && rng (-1000) 1000 c && rng (-1000) 1000 d
theorem isF_t {a b c d : Int} (h : isF a b c d = true) : (-1000 ≤ a ∧ a ≤ 1000) ∧ (-1000 ≤ b ∧ b ≤ 1000) ∧ (-1000 ≤ c ∧ c ≤ 1000) ∧ (-1000 ≤ d ∧ d ≤ 1000) := by
  simp only [isF, Bool.and_eq_true] at h
  exact ⟨rng_t h.1.1.1, rng_t h.1.1.2, rng_t h.1.2, rng_t h.2⟩
theorem isF_mk {a b c d : Int} (ha : -1000 ≤ a ∧ a ≤ 1000) (hb : -1000 ≤ b ∧ b ≤ 1000) (hc : -1000 ≤ c ∧ c ≤ 1000) (hd : -1000 ≤ d ∧ d ≤ 1000) : isF a b c d = true := by
  simp [isF, rng_mk ha.1 ha.2, rng_mk hb.1 hb.2, rng_mk hc.1 hc.2, rng_mk hd.1 hd.2]
theorem isF_eq {a b c d : Int} {r : Bool} (h : r = true ↔ (-1000 ≤ a ∧ a ≤ 1000) ∧ (-1000 ≤ b ∧ b ≤ 1000) ∧ (-1000 ≤ c ∧ c ≤ 1000) ∧ (-1000 ≤ d ∧ d ≤ 1000)) : r = isF a b c d := by
  rw [Bool.eq_iff_iff, h]
  exact ⟨fun ⟨p, q, r, s⟩ => isF_mk p q r s, isF_t⟩

/-- int64's sum, difference, product, as the walk writes them where no bound is known. -/
def pl (x y : Int) : Int := wrap64 (x + y)
def mi (x y : Int) : Int := wrap64 (x - y)
def mu (x y : Int) : Int := wrap64 (x * y)

theorem bcell {W w1 : World} (hb : Below W.heap.size W w1) : (∀ b o, b < W.heap.size → w1.cell? ⟨b, o, none⟩ = W.cell? ⟨b, o, none⟩) ∧ (∀ b o, b < W.heap.size → w1.frozen? ⟨b, o, none⟩ = W.frozen? ⟨b, o, none⟩) :=
  ⟨fun b o h => hb.cell (p := ⟨b, o, none⟩) h, fun b o h => hb.frozen (p := ⟨b, o, none⟩) h⟩

theorem blt {W w1 : World} (hb : Below W.heap.size W w1) : ∀ n, n < W.heap.size → n < w1.heap.size := fun _ h => Nat.lt_of_lt_of_le h hb.size
theorem gr_trans {w w1 w2 : World} (h1 : Below w.heap.size w w1) (h2 : Below w1.heap.size w1 w2) : Below w.heap.size w w2 := h1.trans (h2.mono h1.size)
theorem gr_alloc {w w1 : World} (h1 : Below w.heap.size w w1) (o : Obj) : Below w.heap.size w (w1.alloc o) := h1.alloc h1.size o
theorem gr_drew {w w1 : World} (h1 : Below w.heap.size w w1) : Below w.heap.size w w1.drew := h1.drew
theorem gr_drewN {w w1 : World} (h1 : Below w.heap.size w w1) (n : Nat) : Below w.heap.size w (w1.drewN n) := ⟨h1.os, h1.tape, h1.output, h1.size, h1.block⟩
theorem gr_set {w w1 : World} (h1 : Below w.heap.size w w1) {p : Addr} (hp : w.heap.size ≤ p.block) (u : Value) : Below w.heap.size w (w1.setCell p u) := h1.setCell hp u

/-- Block k of w holds the four numbers. -/
structure Arr (w : World) (k : Nat) (a b c d : Int) : Prop where
  lt : k < w.heap.size
  c0 : w.cell? ⟨k, 0, none⟩ = some (.int .i64 a)
  c1 : w.cell? ⟨k, 1, none⟩ = some (.int .i64 b)
  c2 : w.cell? ⟨k, 2, none⟩ = some (.int .i64 c)
  c3 : w.cell? ⟨k, 3, none⟩ = some (.int .i64 d)
  f0 : w.frozen? ⟨k, 0, none⟩ = false
  f1 : w.frozen? ⟨k, 1, none⟩ = false
  f2 : w.frozen? ⟨k, 2, none⟩ = false
  f3 : w.frozen? ⟨k, 3, none⟩ = false
theorem Arr.below {w w' : World} {k : Nat} {a b c d : Int} (h : Arr w k a b c d) {B : Nat} (hb : Below B w w') (hB : k < B) : Arr w' k a b c d :=
  ⟨Nat.lt_of_lt_of_le h.lt hb.size, (hb.cell (p := ⟨k, 0, none⟩) hB).trans h.c0, (hb.cell (p := ⟨k, 1, none⟩) hB).trans h.c1, (hb.cell (p := ⟨k, 2, none⟩) hB).trans h.c2, (hb.cell (p := ⟨k, 3, none⟩) hB).trans h.c3,
    (hb.frozen (p := ⟨k, 0, none⟩) hB).trans h.f0, (hb.frozen (p := ⟨k, 1, none⟩) hB).trans h.f1, (hb.frozen (p := ⟨k, 2, none⟩) hB).trans h.f2, (hb.frozen (p := ⟨k, 3, none⟩) hB).trans h.f3⟩
theorem Arr.next {w w' : World} {k : Nat} {a b c d : Int} (h : Arr w k a b c d) (hb : Below w.heap.size w w') : Arr w' k a b c d := h.below hb h.lt
theorem Arr.new (w : World) (a b c d : Int) (t : TypeId) : Arr (w.alloc (.cells #[.int .i64 a, .int .i64 b, .int .i64 c, .int .i64 d] t)) w.heap.size a b c d := by
  constructor <;> simp [go_sem]
theorem Arr.alloc {w : World} {k : Nat} {a b c d : Int} (h : Arr w k a b c d) (o : Obj) : Arr (w.alloc o) k a b c d := h.next ((Below.refl _ w).alloc (Nat.le_refl _) o)
theorem Arr.drew {w : World} {k : Nat} {a b c d : Int} (h : Arr w k a b c d) : Arr w.drew k a b c d := h.next ((Below.refl _ w).drew)

theorem Arr.drewN {w : World} {k : Nat} {a b c d : Int} (h : Arr w k a b c d) (n : Nat) : Arr (w.drewN n) k a b c d := h.next (gr_drewN (Below.refl _ w) n)
theorem Arr.oth {w : World} {k : Nat} {a b c d : Int} (h : Arr w k a b c d) {p : Addr} (hp : k ≠ p.block) (v : Value) : Arr (w.setCell p v) k a b c d := by
  have ne : ∀ o, p ≠ (⟨k, o, none⟩ : Addr) := fun o e => hp (by rw [e])
  exact ⟨by rw [World.size_setCell]; exact h.lt, (World.cell?_setCell_other _ _ _ _ (ne 0)).trans h.c0, (World.cell?_setCell_other _ _ _ _ (ne 1)).trans h.c1, (World.cell?_setCell_other _ _ _ _ (ne 2)).trans h.c2, (World.cell?_setCell_other _ _ _ _ (ne 3)).trans h.c3,
    (World.frozen?_setCell _ _ _ _).trans h.f0, (World.frozen?_setCell _ _ _ _).trans h.f1, (World.frozen?_setCell _ _ _ _).trans h.f2, (World.frozen?_setCell _ _ _ _).trans h.f3⟩
theorem ne_off {k i j : Nat} (h : i ≠ j) : (⟨k, i, none⟩ : Addr) ≠ ⟨k, j, none⟩ := fun e => h (by cases e; rfl)
theorem Arr.set0 {w : World} {k : Nat} {a b c d : Int} (h : Arr w k a b c d) (x : Int) : Arr (w.setCell ⟨k, 0, none⟩ (.int .i64 x)) k x b c d :=
  ⟨by rw [World.size_setCell]; exact h.lt, World.cell?_setCell_same' _ _ _ (by rw [h.c0]; rfl), (World.cell?_setCell_other _ _ _ _ (ne_off (by decide))).trans h.c1, (World.cell?_setCell_other _ _ _ _ (ne_off (by decide))).trans h.c2, (World.cell?_setCell_other _ _ _ _ (ne_off (by decide))).trans h.c3, (World.frozen?_setCell _ _ _ _).trans h.f0, (World.frozen?_setCell _ _ _ _).trans h.f1, (World.frozen?_setCell _ _ _ _).trans h.f2, (World.frozen?_setCell _ _ _ _).trans h.f3⟩
theorem Arr.set1 {w : World} {k : Nat} {a b c d : Int} (h : Arr w k a b c d) (x : Int) : Arr (w.setCell ⟨k, 1, none⟩ (.int .i64 x)) k a x c d :=
  ⟨by rw [World.size_setCell]; exact h.lt, (World.cell?_setCell_other _ _ _ _ (ne_off (by decide))).trans h.c0, World.cell?_setCell_same' _ _ _ (by rw [h.c1]; rfl), (World.cell?_setCell_other _ _ _ _ (ne_off (by decide))).trans h.c2, (World.cell?_setCell_other _ _ _ _ (ne_off (by decide))).trans h.c3, (World.frozen?_setCell _ _ _ _).trans h.f0, (World.frozen?_setCell _ _ _ _).trans h.f1, (World.frozen?_setCell _ _ _ _).trans h.f2, (World.frozen?_setCell _ _ _ _).trans h.f3⟩
theorem Arr.set2 {w : World} {k : Nat} {a b c d : Int} (h : Arr w k a b c d) (x : Int) : Arr (w.setCell ⟨k, 2, none⟩ (.int .i64 x)) k a b x d :=
  ⟨by rw [World.size_setCell]; exact h.lt, (World.cell?_setCell_other _ _ _ _ (ne_off (by decide))).trans h.c0, (World.cell?_setCell_other _ _ _ _ (ne_off (by decide))).trans h.c1, World.cell?_setCell_same' _ _ _ (by rw [h.c2]; rfl), (World.cell?_setCell_other _ _ _ _ (ne_off (by decide))).trans h.c3, (World.frozen?_setCell _ _ _ _).trans h.f0, (World.frozen?_setCell _ _ _ _).trans h.f1, (World.frozen?_setCell _ _ _ _).trans h.f2, (World.frozen?_setCell _ _ _ _).trans h.f3⟩
theorem Arr.set3 {w : World} {k : Nat} {a b c d : Int} (h : Arr w k a b c d) (x : Int) : Arr (w.setCell ⟨k, 3, none⟩ (.int .i64 x)) k a b c x :=
  ⟨by rw [World.size_setCell]; exact h.lt, (World.cell?_setCell_other _ _ _ _ (ne_off (by decide))).trans h.c0, (World.cell?_setCell_other _ _ _ _ (ne_off (by decide))).trans h.c1, (World.cell?_setCell_other _ _ _ _ (ne_off (by decide))).trans h.c2, World.cell?_setCell_same' _ _ _ (by rw [h.c3]; rfl), (World.frozen?_setCell _ _ _ _).trans h.f0, (World.frozen?_setCell _ _ _ _).trans h.f1, (World.frozen?_setCell _ _ _ _).trans h.f2, (World.frozen?_setCell _ _ _ _).trans h.f3⟩
/-- Block k of w holds four numbers, whatever they are. -/
def Box (w : World) (k : Nat) : Prop := ∃ a b c d, Arr w k a b c d
theorem Arr.box {w : World} {k : Nat} {a b c d : Int} (h : Arr w k a b c d) : Box w k := ⟨a, b, c, d, h⟩
theorem Box.oth {w : World} {k : Nat} (h : Box w k) {p : Addr} (hp : k ≠ p.block) (v : Value) : Box (w.setCell p v) k := by
  obtain ⟨a, b, c, d, h⟩ := h
  exact (h.oth hp v).box
theorem Box.drew {w : World} {k : Nat} (h : Box w k) : Box w.drew k := by
  obtain ⟨a, b, c, d, h⟩ := h
  exact h.drew.box
theorem Box.drewN {w : World} {k : Nat} (h : Box w k) (n : Nat) : Box (w.drewN n) k := by
  obtain ⟨a, b, c, d, h⟩ := h
  exact (h.drewN n).box
theorem Box.alloc {w : World} {k : Nat} (h : Box w k) (o : Obj) : Box (w.alloc o) k := by
  obtain ⟨a, b, c, d, h⟩ := h
  exact (h.alloc o).box
theorem Box.next {w w' : World} {k : Nat} (h : Box w k) (hb : Below w.heap.size w w') : Box w' k := by
  obtain ⟨a, b, c, d, h⟩ := h
  exact (h.next hb).box
theorem Box.new (w : World) (a b c d : Int) (t : TypeId) : Box (w.alloc (.cells #[.int .i64 a, .int .i64 b, .int .i64 c, .int .i64 d] t)) w.heap.size := (Arr.new w a b c d t).box
theorem Arr.elim {G : Prop} {w : World} {k : Nat} {a b c d : Int} (h : Arr w k a b c d) (K : Arr w k a b c d → G) : G := K h
theorem Box.elim {G : Prop} {w : World} {k : Nat} (h : Box w k) (K : ∀ a b c d, Arr w k a b c d → G) : G := by
  obtain ⟨a, b, c, d, h⟩ := h
  exact K a b c d h
/-- The cells of two boxes, as a region that draws its order wants them. -/
theorem cells8 {W : World} {i j : Nat} {a b c d p q r s : Int} (K : Arr W i a b c d) (L : Arr W j p q r s) :
    W.cell? ⟨i, 0, none⟩ = some (.int .i64 a) ∧ W.cell? ⟨i, 1, none⟩ = some (.int .i64 b) ∧ W.cell? ⟨i, 2, none⟩ = some (.int .i64 c) ∧ W.cell? ⟨i, 3, none⟩ = some (.int .i64 d) ∧
      W.cell? ⟨j, 0, none⟩ = some (.int .i64 p) ∧ W.cell? ⟨j, 1, none⟩ = some (.int .i64 q) ∧ W.cell? ⟨j, 2, none⟩ = some (.int .i64 r) ∧ W.cell? ⟨j, 3, none⟩ = some (.int .i64 s) :=
  ⟨K.c0, K.c1, K.c2, K.c3, L.c0, L.c1, L.c2, L.c3⟩
theorem cells4 {W : World} {i : Nat} {a b c d : Int} (K : Arr W i a b c d) : W.cell? ⟨i, 0, none⟩ = some (.int .i64 a) ∧ W.cell? ⟨i, 1, none⟩ = some (.int .i64 b) ∧ W.cell? ⟨i, 2, none⟩ = some (.int .i64 c) ∧ W.cell? ⟨i, 3, none⟩ = some (.int .i64 d) := ⟨K.c0, K.c1, K.c2, K.c3⟩
theorem Arr.store4 {w : World} {k : Nat} (h : Box w k) {x y z u : Int} : Arr ((((w.setCell ⟨k, 0, none⟩ (.int .i64 x)).setCell ⟨k, 1, none⟩ (.int .i64 y)).setCell ⟨k, 2, none⟩ (.int .i64 z)).setCell ⟨k, 3, none⟩ (.int .i64 u)) k x y z u := by
  obtain ⟨a, b, c, d, h⟩ := h
  exact (((h.set0 x).set1 y).set2 z).set3 u
/-- The answer that lies in block b, and a code. -/
theorem res_A {P : Program} {fn : Func} {p u : Tmp} {ty e : TypeId} {tmps : Array Value} {w : World} {b : Nat} {x0 x1 x2 x3 : Int} (h : fn.results = #[.cell p ty, .tmp u]) (hu : P.underlying ty = some (.array 4 e)) (hi : (P.info? ty).map (·.size) = some 4)
    (hp : tmps.getD p undef = .pointer (some ⟨b, 0, none⟩)) (hA : Arr w b x0 x1 x2 x3) :
    (results fn tmps).run P w = .ok (.tuple #[.agg #[.int .i64 x0, .int .i64 x1, .int .i64 x2, .int .i64 x3], tmps.getD u undef]) w := res_arr h hu hi hp hA.c0 hA.c1 hA.c2 hA.c3
theorem res_A1 {P : Program} {fn : Func} {p : Tmp} {ty e : TypeId} {tmps : Array Value} {w : World} {b : Nat} {x0 x1 x2 x3 : Int} (h : fn.results = #[.cell p ty]) (hu : P.underlying ty = some (.array 4 e)) (hi : (P.info? ty).map (·.size) = some 4)
    (hp : tmps.getD p undef = .pointer (some ⟨b, 0, none⟩)) (hA : Arr w b x0 x1 x2 x3) :
    (results fn tmps).run P w = .ok (.agg #[.int .i64 x0, .int .i64 x1, .int .i64 x2, .int .i64 x3]) w := res_arr1 h hu hi hp hA.c0 hA.c1 hA.c2 hA.c3

/-- The code of a form and a place: 1 no form, 2 out of range, 0. -/
def plc (a b c d x y : Int) : Int := if isF a b c d then (if rng (-10000) 10000 x && rng (-10000) 10000 y then 0 else 2) else 1
def plcn (L a b c d x y : Int) : Int := if isF a b c d then (if rng (-L) L x && rng (-L) L y then 0 else 2) else 1
/-- a x^3 + b x^2 y + c x y^2 + d y^3, as int64 has it. -/
def vl (a b c d x y : Int) : Int := pl (pl (pl (mu (mu (mu a x) x) x) (mu (mu (mu b x) x) y)) (mu (mu (mu c x) y) y)) (mu (mu (mu d y) y) y)
/-- What ValueAt answers: the value, the code. -/
def va0 (a b c d x y : Int) : Int := if plc a b c d x y = 0 then vl a b c d x y else 0
theorem ret_tup2 {a b c d : Int} (h : a = c) (h' : b = d) : Ending.returned (.tuple #[.int .i64 a, .int .i64 b]) = .returned (.tuple #[.int .i64 c, .int .i64 d]) := by rw [h, h']

/-- The discriminant, as int64 has it. -/
def dsc (a b c d : Int) : Int := pl (mi (mi (mi (mu (mu (mu b b) c) c) (mu (mu (mu (mu 4 a) c) c) c)) (mu (mu (mu (mu 4 b) b) b) d)) (mu (mu (mu (mu 27 a) a) d) d)) (mu (mu (mu (mu 18 a) b) c) d)
def cif (a b c d : Int) : Int := if isF a b c d then 0 else 1
def dsc0 (a b c d : Int) : Int := if isF a b c d then dsc a b c d else 0
/-- The determinant. -/
def det (p q r s : Int) : Int := mi (mu p s) (mu q r)
def det0 (p q r s : Int) : Int := if isF p q r s then det p q r s else 0
/-- The slopes. -/
def sl1 (a b c x y : Int) : Int := pl (pl (mu (mu (mu 3 a) x) x) (mu (mu (mu 2 b) x) y)) (mu (mu c y) y)
def sl2 (b c d x y : Int) : Int := pl (pl (mu (mu b x) x) (mu (mu (mu 2 c) x) y)) (mu (mu (mu 3 d) y) y)
def if0 (k v : Int) : Int := if k = 0 then v else 0
theorem ret_form {a b c d k a' b' c' d' k' : Int} (h0 : a = a') (h1 : b = b') (h2 : c = c') (h3 : d = d') (h4 : k = k') : Ending.returned (.tuple #[.agg #[.int .i64 a, .int .i64 b, .int .i64 c, .int .i64 d], .int .i64 k]) = .returned (.tuple #[.agg #[.int .i64 a', .int .i64 b', .int .i64 c', .int .i64 d'], .int .i64 k']) := by rw [h0, h1, h2, h3, h4]
theorem ret_tup3 {a b c a' b' c' : Int} (h : a = a') (h' : b = b') (h'' : c = c') : Ending.returned (.tuple #[.int .i64 a, .int .i64 b, .int .i64 c]) = .returned (.tuple #[.int .i64 a', .int .i64 b', .int .i64 c']) := by rw [h, h', h'']
/-- One number of a product of matrices; the code of a product. -/
def mp (a b c d : Int) : Int := pl (mu a b) (mu c d)
def mulc (a b c d p q r s : Int) : Int := if isF a b c d && isF p q r s then (if isF (mp a p b r) (mp a q b s) (mp c p d r) (mp c q d s) then 0 else 3) else 1
/-- The content. -/
def cnt (a b c d : Int) : Int := Int.gcd (Int.gcd a b) (Int.gcd c d)
theorem gcd_le {m n B : Int} (hm : -B ≤ m ∧ m ≤ B) (hn : -B ≤ n ∧ n ≤ B) : (Int.gcd m n : Int) ≤ B := by
  by_cases h : m = 0
  · subst h; rw [Int.gcd_zero_left]; omega
  · have := Nat.gcd_le_left n.natAbs (m := m.natAbs) (by omega)
    have e : Int.gcd m n = Nat.gcd m.natAbs n.natAbs := rfl
    rw [e]; omega
theorem cnt_fold (a b c d : Int) : (Int.gcd (Int.gcd (Int.gcd a.natAbs b) c) d : Int) = cnt a b c d := by
  simp only [cnt, Int.gcd, Int.natAbs_natCast]
  rw [Nat.gcd_assoc]
/-- The code of PrimitivePart; one of its numbers. -/
def ppc (a b c d : Int) : Int := if isF a b c d then (if cnt a b c d = 0 then 5 else 0) else 1
theorem gcd_nn (m n : Int) : 0 ≤ (Int.gcd m n : Int) := by omega
theorem cnt_bd {a b c d : Int} (ha : -1000 ≤ a ∧ a ≤ 1000) (hb : -1000 ≤ b ∧ b ≤ 1000) (hc : -1000 ≤ c ∧ c ≤ 1000) (hd : -1000 ≤ d ∧ d ≤ 1000) : 0 ≤ cnt a b c d ∧ cnt a b c d ≤ 1000 := by
  have := gcd_le ha hb
  have := gcd_le hc hd
  exact ⟨gcd_nn _ _, gcd_le (by have := gcd_nn a b; omega) (by have := gcd_nn c d; omega)⟩
theorem cnt_0 {a b c d : Int} : cnt a b c d = 0 ↔ a = 0 ∧ b = 0 ∧ c = 0 ∧ d = 0 := by
  simp [cnt, Int.gcd_eq_zero_iff, and_assoc]
/-- A number of the answer: 0 where there is an error. -/
def ifF (a b c d v : Int) : Int := if isF a b c d then v else 0
/-- 0 where there is none. -/
def ifB (w : Bool) (v : Int) : Int := if w then v else 0
theorem ret_fb {a b c d a' b' c' d' : Int} {k k' : Bool} (h0 : a = a') (h1 : b = b') (h2 : c = c') (h3 : d = d') (h4 : k = k') : Ending.returned (.tuple #[.agg #[.int .i64 a, .int .i64 b, .int .i64 c, .int .i64 d], .bool k]) = .returned (.tuple #[.agg #[.int .i64 a', .int .i64 b', .int .i64 c', .int .i64 d'], .bool k']) := by rw [h0, h1, h2, h3, h4]

end Go.Proofs.Ytehbkmohfipmgaa

/- How an argument of a law is opened: an array of four or three numbers, a row of integers. No Go function in sight. -/
namespace Go.Proofs.Ytehbkmohfipmgaa
open Go.ChangeShapes Go.WideShapes Go.ChangeAt Go.RowKit

theorem laidOut : laidOutB Try.prog = true := by kernel_rfl
theorem own : ownKnob Try.prog.godebug = none := by kernel_rfl

def Wf4 (a b c d : Int) : Prop := (Lit.int .i64 a).wf = true ∧ (Lit.int .i64 b).wf = true ∧ (Lit.int .i64 c).wf = true ∧ (Lit.int .i64 d).wf = true
def Wf3 (a b c : Int) : Prop := (Lit.int .i64 a).wf = true ∧ (Lit.int .i64 b).wf = true ∧ (Lit.int .i64 c).wf = true

section
variable {H : Type} {enc : TypeId × Value → H} {P : Program} {w : World} {base : Nat} {spare : Nat → Bool} {held : Bool}

theorem open_arr4 {r : Reach} {b0 : Nat} {t e : TypeId} {v : Value} {x : DataW H} {p : List MemPlace} (ht : P.underlying t = some (.array 4 e)) (he : P.underlying e = some (.int .i64)) (hct : P.cellsOf t = 4) (hce : P.cellsOf e = 1)
    (hv : Value.okWide P w r b0 t v) (h : DataW.Trod enc P w base spare held t v x p) : ∃ a b c d : Int, v = .agg #[.int .i64 a, .int .i64 b, .int .i64 c, .int .i64 d] ∧ Wf4 a b c d := by
  obtain ⟨cs, rfl, hsz, _⟩ : ∃ cs, v = .agg cs ∧ cs.size = P.cellsOf t ∧ Row.okWide P w r b0 t cs := by
    simpa [Value.okWide, ht] using hv
  rw [hct] at hsz
  obtain ⟨c0, c1, c2, c3, rfl⟩ := Joins.array4 hsz
  obtain ⟨fuel, hf⟩ := h
  obtain ⟨y0, y1, y2, y3, m, hx, hy0, hy1, hy2, hy3⟩ := trod_array4 ht hce hf
  obtain ⟨x0, e0, rfl, w0⟩ := DataW.trod_int he hy0
  obtain ⟨x1, e1, rfl, w1⟩ := DataW.trod_int he hy1
  obtain ⟨x2, e2, rfl, w2⟩ := DataW.trod_int he hy2
  obtain ⟨x3, e3, rfl, w3⟩ := DataW.trod_int he hy3
  simp at e0 e1 e2 e3
  subst e0 e1 e2 e3
  exact ⟨x0, x1, x2, x3, rfl, w0, w1, w2, w3⟩

theorem open_arr3 {r : Reach} {b0 : Nat} {t e : TypeId} {v : Value} {x : DataW H} {p : List MemPlace} (ht : P.underlying t = some (.array 3 e)) (he : P.underlying e = some (.int .i64)) (hct : P.cellsOf t = 3) (hce : P.cellsOf e = 1)
    (hv : Value.okWide P w r b0 t v) (h : DataW.Trod enc P w base spare held t v x p) : ∃ a b c : Int, v = .agg #[.int .i64 a, .int .i64 b, .int .i64 c] ∧ Wf3 a b c := by
  obtain ⟨cs, rfl, hsz, _⟩ : ∃ cs, v = .agg cs ∧ cs.size = P.cellsOf t ∧ Row.okWide P w r b0 t cs := by
    simpa [Value.okWide, ht] using hv
  rw [hct] at hsz
  obtain ⟨c0, c1, c2, rfl⟩ := Joins.array3 hsz
  obtain ⟨fuel, hf⟩ := h
  obtain ⟨y0, y1, y2, m, hx, hy0, hy1, hy2⟩ := trod_array3 ht hce hf
  obtain ⟨x0, e0, rfl, w0⟩ := DataW.trod_int he hy0
  obtain ⟨x1, e1, rfl, w1⟩ := DataW.trod_int he hy1
  obtain ⟨x2, e2, rfl, w2⟩ := DataW.trod_int he hy2
  simp at e0 e1 e2
  subst e0 e1 e2
  exact ⟨x0, x1, x2, rfl, w0, w1, w2⟩

/-- A slice of integers that came in: nil; or a row of 'cap' cells, the numbers zs, of which the first 'len' are its elements. -/
def IsRow (k : IntKind) (w : World) (a : Option Addr) (len cap : Nat) (zs : List Int) : Prop :=
  (a = none ∧ len = 0 ∧ cap = 0 ∧ zs = []) ∨
  ∃ x, a = some x ∧ len ≤ cap ∧ cap ≤ maxLen ∧ zs.length = cap ∧ (∀ i, i < zs.length → w.cell? (x.add i) = some (.int k (zs.getD i 0))) ∧ ∀ n ∈ zs, (Lit.int k n).wf = true

theorem open_row {k : IntKind} {t e : TypeId} {a : Option Addr} {len cap : Nat} {x : DataW H} {p : List MemPlace} (ht : P.underlying t = some (.slice e)) (he : P.underlying e = some (.int k)) (hce : P.cellsOf e = 1)
    (h : DataW.Trod enc P w base (fun _ => true) held t (.slice a len cap) x p) : ∃ zs, IsRow k w a len cap zs := by
  obtain ⟨fuel, hf⟩ := h
  rcases open_ints ht he hce hf with ⟨hcs, _⟩ | ⟨x, l, c, zs, hcs, _, hl, hm, hz, _, hcell, hwz⟩
  · simp [Value.cells] at hcs
    obtain ⟨rfl, rfl, rfl⟩ := hcs
    exact ⟨[], .inl ⟨rfl, rfl, rfl, rfl⟩⟩
  · simp [Value.cells] at hcs
    obtain ⟨rfl, rfl, rfl⟩ := hcs
    exact ⟨zs, .inr ⟨_, rfl, hl, hm, by simpa using hz, hcell, hwz⟩⟩
end

end Go.Proofs.Ytehbkmohfipmgaa
