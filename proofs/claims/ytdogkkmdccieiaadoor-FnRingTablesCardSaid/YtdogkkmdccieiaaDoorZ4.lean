/- Several texts in one: XE2, XBx. -/
import Derived.Test.YtdogkkmdccieiaaDoorZ3
import Derived.Test.YtdogkkmdccieiaaDoorZ2
import Derived.OwnWalk
import Derived.WalkMore

/- Chapter 4: products of elements by a table, the program's. -/
namespace Go.Proofs.YtdogkkmdccieiaaDoor
open Go.RowKit

set_option maxRecDepth 100000 in
set_option maxHeartbeats 1000000 in
theorem addM_any (a b c p q r k : Int) (w : World) :
    Calls Tryd.prog 94 #[.agg #[.int .i64 a, .int .i64 b, .int .i64 c], .agg #[.int .i64 p, .int .i64 q, .int .i64 r], .int .i64 k] w fun e w' => e = .returned (.agg #[.int .i64 (wrap64 (a + k * p)), .int .i64 (wrap64 (b + k * q)), .int .i64 (wrap64 (c + k * r))]) ∧ Below w.heap.size w w' := by
  have A0 := ((Arr3.new w a b c 27).alloc (.cells #[.int .i64 p, .int .i64 q, .int .i64 r] 27)).alloc (.cells #[.int .i64 0, .int .i64 0, .int .i64 0] 27)
  have G0 := (Arr3.new (w.alloc (.cells #[.int .i64 a, .int .i64 b, .int .i64 c] 27)) p q r 27).alloc (.cells #[.int .i64 0, .int .i64 0, .int .i64 0] 27)
  have R0 := Arr3.new ((w.alloc (.cells #[.int .i64 a, .int .i64 b, .int .i64 c] 27)).alloc (.cells #[.int .i64 p, .int .i64 q, .int .i64 r] 27)) 0 0 0 27
  have B0 := gr_alloc (gr_alloc (gr_alloc (Below.refl w.heap.size w) (.cells #[.int .i64 a, .int .i64 b, .int .i64 c] 27)) (.cells #[.int .i64 p, .int .i64 q, .int .i64 r] 27)) (.cells #[.int .i64 0, .int .i64 0, .int .i64 0] 27)
  simp only [World.size_alloc] at G0 R0
  go_enter Tryd.func94, Tryd.ntmps94
  go_wp2
  generalize ((w.alloc (.cells #[.int .i64 a, .int .i64 b, .int .i64 c] 27)).alloc (.cells #[.int .i64 p, .int .i64 q, .int .i64 r] 27)).alloc (.cells #[.int .i64 0, .int .i64 0, .int .i64 0] 27) = W0 at A0 G0 R0 B0 ⊢
  refine wp_loop_rounds 4 ?_
  obtain ⟨_, c0, c1, c2, f0, f1, f2⟩ := id A0
  obtain ⟨_, g0, g1, g2, _⟩ := id G0
  rw [rounds_succ]; go_wp2
  go_still_tail 10, (by kernel_rfl)
  go_wp2
  have A1 := (A0.set0 (wrap64 (a + wrap64 (k * p)))).drew
  have G1 := (G0.oth (p := ⟨w.heap.size, 0, none⟩) (by simp) (.int .i64 (wrap64 (a + wrap64 (k * p))))).drew
  have R1 := (R0.oth (p := ⟨w.heap.size, 0, none⟩) (by simp; omega) (.int .i64 (wrap64 (a + wrap64 (k * p))))).drew
  have B1 := gr_drew (gr_set B0 (p := ⟨w.heap.size, 0, none⟩) (by simp) (.int .i64 (wrap64 (a + wrap64 (k * p)))))
  clear c0 c1 c2 f0 f1 f2 g0 g1 g2
  generalize (World.setCell W0 ⟨w.heap.size, 0, none⟩ (.int .i64 (wrap64 (a + wrap64 (k * p))))).drew = W1 at A1 G1 R1 B1 ⊢
  clear A0 G0 R0 B0
  obtain ⟨_, c0, c1, c2, f0, f1, f2⟩ := id A1
  obtain ⟨_, g0, g1, g2, _⟩ := id G1
  rw [rounds_succ]; go_wp2
  go_still_tail 10, (by kernel_rfl)
  go_wp2
  have A2 := (A1.set1 (wrap64 (b + wrap64 (k * q)))).drew
  have G2 := (G1.oth (p := ⟨w.heap.size, 1, none⟩) (by simp) (.int .i64 (wrap64 (b + wrap64 (k * q))))).drew
  have R2 := (R1.oth (p := ⟨w.heap.size, 1, none⟩) (by simp; omega) (.int .i64 (wrap64 (b + wrap64 (k * q))))).drew
  have B2 := gr_drew (gr_set B1 (p := ⟨w.heap.size, 1, none⟩) (by simp) (.int .i64 (wrap64 (b + wrap64 (k * q)))))
  clear c0 c1 c2 f0 f1 f2 g0 g1 g2
  generalize (World.setCell W1 ⟨w.heap.size, 1, none⟩ (.int .i64 (wrap64 (b + wrap64 (k * q))))).drew = W2 at A2 G2 R2 B2 ⊢
  clear A1 G1 R1 B1
  obtain ⟨_, c0, c1, c2, f0, f1, f2⟩ := id A2
  obtain ⟨_, g0, g1, g2, _⟩ := id G2
  rw [rounds_succ]; go_wp2
  go_still_tail 10, (by kernel_rfl)
  go_wp2
  have A3 := (A2.set2 (wrap64 (c + wrap64 (k * r)))).drew
  have G3 := (G2.oth (p := ⟨w.heap.size, 2, none⟩) (by simp) (.int .i64 (wrap64 (c + wrap64 (k * r))))).drew
  have R3 := (R2.oth (p := ⟨w.heap.size, 2, none⟩) (by simp; omega) (.int .i64 (wrap64 (c + wrap64 (k * r))))).drew
  have B3 := gr_drew (gr_set B2 (p := ⟨w.heap.size, 2, none⟩) (by simp) (.int .i64 (wrap64 (c + wrap64 (k * r)))))
  clear c0 c1 c2 f0 f1 f2 g0 g1 g2
  generalize (World.setCell W2 ⟨w.heap.size, 2, none⟩ (.int .i64 (wrap64 (c + wrap64 (k * r))))).drew = W3 at A3 G3 R3 B3 ⊢
  clear A2 G2 R2 B2
  obtain ⟨_, c0, c1, c2, f0, f1, f2⟩ := id A3
  obtain ⟨_, r0, r1, r2, g0, g1, g2⟩ := id R3
  rw [rounds_succ]; go_wp2
  refine bodyPost_ret (res_A31 (e := 2) rfl Tryd.underlying27 (by kernel_rfl) rfl (by (repeat (first | with_reducible assumption | with_reducible exact Arr3.box (by assumption) | with_reducible exact Arr3.new _ _ _ _ _ | with_reducible refine Arr3.drew ?_ | with_reducible refine Arr3.drewN ?_ _ | with_reducible refine Arr3.store3 ?_ | with_reducible refine Arr3.alloc ?_ _ | with_reducible refine Arr3.next ?_ (by assumption) | refine Arr3.oth ?_ (by first | (simp; done) | omega | (simp; omega)) _ )))) rfl ?_
  exact ⟨ret_F3 (wr_ar _ _) (wr_ar _ _) (wr_ar _ _), by (repeat' (first | with_reducible exact Below.refl _ _ | with_reducible assumption | with_reducible refine gr_alloc ?_ _ | with_reducible refine gr_drew ?_ | with_reducible refine gr_drewN ?_ _ | with_reducible refine gr_trans ?_ (by assumption) | with_reducible refine gr_set ?_ ?_ _ | (simp; done) | omega | (simp; omega)))⟩

set_option maxHeartbeats 1000000 in
theorem iProducts_any (a b c d : Int) (w : World) :
    Calls Tryd.prog 52 #[.agg #[.int .i64 a, .int .i64 b, .int .i64 c, .int .i64 d]] w fun e w' => e = .returned (.agg #[.int .i64 (np a c), .int .i64 b, .int .i64 (ng a), .int .i64 (np a d), .int .i64 0, .int .i64 0, .int .i64 (np b d), .int .i64 d, .int .i64 (ng c)]) ∧ Below w.heap.size w w' := by
  have A0 := (Arr.new w a b c d 25).alloc (.cells #[.int .i64 0, .int .i64 0, .int .i64 0, .int .i64 0, .int .i64 0, .int .i64 0, .int .i64 0, .int .i64 0, .int .i64 0] 73)
  have R0 := Arr9.new (w.alloc (.cells #[.int .i64 a, .int .i64 b, .int .i64 c, .int .i64 d] 25)) 0 0 0 0 0 0 0 0 0 73
  have U0 := gr_alloc (gr_alloc (Below.refl w.heap.size w) (.cells #[.int .i64 a, .int .i64 b, .int .i64 c, .int .i64 d] 25)) (.cells #[.int .i64 0, .int .i64 0, .int .i64 0, .int .i64 0, .int .i64 0, .int .i64 0, .int .i64 0, .int .i64 0, .int .i64 0] 73)
  go_enter Tryd.func52, Tryd.ntmps52
  go_upto_region 1 with fail
  obtain ⟨_, a0, a1, a2, a3, _⟩ := id A0
  go_quiet (fail)
  clear a0 a1 a2 a3
  go_wp2
  go_returns
  exact ⟨by simp only [np, ng, wr_ml], by (repeat' (first | with_reducible exact Below.refl _ _ | with_reducible assumption | with_reducible refine gr_alloc ?_ _ | with_reducible refine gr_drew ?_ | with_reducible refine gr_drewN ?_ _ | with_reducible refine gr_trans ?_ (by assumption) | with_reducible refine gr_set ?_ ?_ _ | (simp; done) | omega | (simp; omega)))⟩

set_option maxRecDepth 100000 in
set_option maxHeartbeats 2000000 in
theorem iMul_any (p0 p1 p2 p3 p4 p5 p6 p7 p8 x0 x1 x2 y0 y1 y2 : Int) (w : World) :
    Calls Tryd.prog 74 #[.agg #[.int .i64 p0, .int .i64 p1, .int .i64 p2, .int .i64 p3, .int .i64 p4, .int .i64 p5, .int .i64 p6, .int .i64 p7, .int .i64 p8], .agg #[.int .i64 x0, .int .i64 x1, .int .i64 x2], .agg #[.int .i64 y0, .int .i64 y1, .int .i64 y2]] w fun e w' =>
      e = .returned (.agg #[.int .i64 (m0 p0 p3 p6 x0 x1 x2 y0 y1 y2), .int .i64 (m1 p1 p4 p7 x0 x1 x2 y0 y1 y2), .int .i64 (m2 p2 p5 p8 x0 x1 x2 y0 y1 y2)]) ∧ Below w.heap.size w w' := by
  have P0 := ((((Arr9.new w p0 p1 p2 p3 p4 p5 p6 p7 p8 73).alloc (.cells #[.int .i64 x0, .int .i64 x1, .int .i64 x2] 27)).alloc (.cells #[.int .i64 y0, .int .i64 y1, .int .i64 y2] 27)).alloc (.cells #[.int .i64 0, .int .i64 0, .int .i64 0] 27)).alloc (.cells #[.int .i64 (wrap64 (x0 * y0)), .int .i64 (wrap64 (wrap64 (x0 * y1) + wrap64 (x1 * y0))), .int .i64 (wrap64 (wrap64 (x0 * y2) + wrap64 (x2 * y0)))] 27)
  have X0 := (((Arr3.new (w.alloc (.cells #[.int .i64 p0, .int .i64 p1, .int .i64 p2, .int .i64 p3, .int .i64 p4, .int .i64 p5, .int .i64 p6, .int .i64 p7, .int .i64 p8] 73)) x0 x1 x2 27).alloc (.cells #[.int .i64 y0, .int .i64 y1, .int .i64 y2] 27)).alloc (.cells #[.int .i64 0, .int .i64 0, .int .i64 0] 27)).alloc (.cells #[.int .i64 (wrap64 (x0 * y0)), .int .i64 (wrap64 (wrap64 (x0 * y1) + wrap64 (x1 * y0))), .int .i64 (wrap64 (wrap64 (x0 * y2) + wrap64 (x2 * y0)))] 27)
  have Y0 := ((Arr3.new ((w.alloc (.cells #[.int .i64 p0, .int .i64 p1, .int .i64 p2, .int .i64 p3, .int .i64 p4, .int .i64 p5, .int .i64 p6, .int .i64 p7, .int .i64 p8] 73)).alloc (.cells #[.int .i64 x0, .int .i64 x1, .int .i64 x2] 27)) y0 y1 y2 27).alloc (.cells #[.int .i64 0, .int .i64 0, .int .i64 0] 27)).alloc (.cells #[.int .i64 (wrap64 (x0 * y0)), .int .i64 (wrap64 (wrap64 (x0 * y1) + wrap64 (x1 * y0))), .int .i64 (wrap64 (wrap64 (x0 * y2) + wrap64 (x2 * y0)))] 27)
  have R0 := (Arr3.new (((w.alloc (.cells #[.int .i64 p0, .int .i64 p1, .int .i64 p2, .int .i64 p3, .int .i64 p4, .int .i64 p5, .int .i64 p6, .int .i64 p7, .int .i64 p8] 73)).alloc (.cells #[.int .i64 x0, .int .i64 x1, .int .i64 x2] 27)).alloc (.cells #[.int .i64 y0, .int .i64 y1, .int .i64 y2] 27)) 0 0 0 27).alloc (.cells #[.int .i64 (wrap64 (x0 * y0)), .int .i64 (wrap64 (wrap64 (x0 * y1) + wrap64 (x1 * y0))), .int .i64 (wrap64 (wrap64 (x0 * y2) + wrap64 (x2 * y0)))] 27)
  have T0 := Arr3.new ((((w.alloc (.cells #[.int .i64 p0, .int .i64 p1, .int .i64 p2, .int .i64 p3, .int .i64 p4, .int .i64 p5, .int .i64 p6, .int .i64 p7, .int .i64 p8] 73)).alloc (.cells #[.int .i64 x0, .int .i64 x1, .int .i64 x2] 27)).alloc (.cells #[.int .i64 y0, .int .i64 y1, .int .i64 y2] 27)).alloc (.cells #[.int .i64 0, .int .i64 0, .int .i64 0] 27)) (wrap64 (x0 * y0)) (wrap64 (wrap64 (x0 * y1) + wrap64 (x1 * y0))) (wrap64 (wrap64 (x0 * y2) + wrap64 (x2 * y0))) 27
  have U0 := gr_alloc (gr_alloc (gr_alloc (gr_alloc (gr_alloc (Below.refl w.heap.size w) (.cells #[.int .i64 p0, .int .i64 p1, .int .i64 p2, .int .i64 p3, .int .i64 p4, .int .i64 p5, .int .i64 p6, .int .i64 p7, .int .i64 p8] 73)) (.cells #[.int .i64 x0, .int .i64 x1, .int .i64 x2] 27)) (.cells #[.int .i64 y0, .int .i64 y1, .int .i64 y2] 27)) (.cells #[.int .i64 0, .int .i64 0, .int .i64 0] 27)) (.cells #[.int .i64 (wrap64 (x0 * y0)), .int .i64 (wrap64 (wrap64 (x0 * y1) + wrap64 (x1 * y0))), .int .i64 (wrap64 (wrap64 (x0 * y2) + wrap64 (x2 * y0)))] 27)
  simp only [World.size_alloc] at X0 Y0 R0 T0
  go_enter Tryd.func74, Tryd.ntmps74
  obtain ⟨_, hx0, hx1, hx2, _⟩ := id X0
  obtain ⟨_, hy0, hy1, hy2, _⟩ := id Y0
  obtain ⟨_, hp0, hp1, hp2, _⟩ := id P0
  go_wp2_with fail
  refine (addM_any _ _ _ _ _ _ _ _).mono ?_
  rintro e w1 ⟨rfl, hb1⟩
  have P1 := P0.next hb1
  have X1 := X0.next hb1
  have Y1 := Y0.next hb1
  have R1 := R0.next hb1
  have T1 := T0.next hb1
  have U1 := gr_trans U0 hb1
  clear hx0 hx1 hx2 hy0 hy1 hy2 hp0 hp1 hp2 P0 X0 Y0 R0 T0 U0
  obtain ⟨_, hx0, hx1, hx2, _⟩ := id X1
  obtain ⟨_, hy0, hy1, hy2, _⟩ := id Y1
  obtain ⟨_, _, _, _, hp3, hp4, hp5, _⟩ := id P1
  obtain ⟨_, ht0, ht1, ht2, hf0, hf1, hf2⟩ := id T1
  go_wp2_with fail
  refine (addM_any _ _ _ _ _ _ _ _).mono ?_
  rintro e w2 ⟨rfl, hb2⟩
  have P2 := (P1.oth3 (by omega)).next hb2
  have X2 := (X1.oth3 (by omega)).next hb2
  have Y2 := (Y1.oth3 (by omega)).next hb2
  have R2 := (R1.oth3 (by omega)).next hb2
  have T2 := (Arr3.store3 T1.box).next hb2
  have U2 := gr_trans (gr_set (gr_set (gr_set U1 (by simp; omega) _) (by simp; omega) _) (by simp; omega) _) hb2
  clear hx0 hx1 hx2 hy0 hy1 hy2 hp3 hp4 hp5 ht0 ht1 ht2 hf0 hf1 hf2 P1 X1 Y1 R1 T1 U1
  obtain ⟨_, hx0, hx1, hx2, _⟩ := id X2
  obtain ⟨_, hy0, hy1, hy2, _⟩ := id Y2
  obtain ⟨_, _, _, _, _, _, _, hp6, hp7, hp8⟩ := id P2
  obtain ⟨_, ht0, ht1, ht2, hf0, hf1, hf2⟩ := id T2
  go_wp2_with fail
  refine (addM_any _ _ _ _ _ _ _ _).mono ?_
  rintro e w3 ⟨rfl, hb3⟩
  have R3 := (R2.oth3 (by omega)).next hb3
  have U3 := gr_trans (gr_set (gr_set (gr_set U2 (by simp; omega) _) (by simp; omega) _) (by simp; omega) _) hb3
  clear hx0 hx1 hx2 hy0 hy1 hy2 hp6 hp7 hp8 ht0 ht1 ht2 hf0 hf1 hf2 P2 X2 Y2 R2 T2 U2
  obtain ⟨_, hr0, hr1, hr2, hf0, hf1, hf2⟩ := id R3
  go_wp2
  refine bodyPost_ret (res_A31 (e := 2) rfl Tryd.underlying27 (by kernel_rfl) rfl (by (repeat (first | with_reducible assumption | with_reducible exact Arr3.box (by assumption) | with_reducible exact Arr3.new _ _ _ _ _ | with_reducible refine Arr3.drew ?_ | with_reducible refine Arr3.drewN ?_ _ | with_reducible refine Arr3.store3 ?_ | with_reducible refine Arr3.alloc ?_ _ | with_reducible refine Arr3.next ?_ (by assumption) | refine Arr3.oth ?_ (by first | (simp; done) | omega | (simp; omega)) _ )))) rfl ?_
  exact ⟨ret_F3 (by simp only [m0, mm, wr_al, wr_ar, wr_mm]) (by simp only [m1, mm, wr_al, wr_ar, wr_mm]) (by simp only [m2, mm, wr_al, wr_ar, wr_mm]), by (repeat' (first | with_reducible exact Below.refl _ _ | with_reducible assumption | with_reducible refine gr_alloc ?_ _ | with_reducible refine gr_drew ?_ | with_reducible refine gr_drewN ?_ _ | with_reducible refine gr_trans ?_ (by assumption) | with_reducible refine gr_set ?_ ?_ _ | (simp; done) | omega | (simp; omega)))⟩


end Go.Proofs.YtdogkkmdccieiaaDoor

/- Blocks known whole: kept by growth, by appends to other blocks. No Go function in sight. -/
namespace Go.Proofs.YtdogkkmdccieiaaDoor
open Go.RowKit

/-- Block k of w is just these cells, of type T. -/
def Bx (w : World) (k : Nat) (xs : Array Value) (T : TypeId) : Prop := w.heap[k]? = some (.cells xs T)
theorem Bx.lt {w : World} {k : Nat} {xs : Array Value} {T : TypeId} (h : Bx w k xs T) : k < w.heap.size := (Array.getElem?_eq_some_iff.1 h).1
theorem Bx.below {w w' : World} {k : Nat} {xs : Array Value} {T : TypeId} (h : Bx w k xs T) {B : Nat} (hb : Below B w w') (hB : k < B) : Bx w' k xs T := (hb.block k hB).trans h
theorem Bx.next {w w' : World} {k : Nat} {xs : Array Value} {T : TypeId} (h : Bx w k xs T) (hb : Below w.heap.size w w') : Bx w' k xs T := h.below hb h.lt
theorem Bx.new (w : World) (xs : Array Value) (T : TypeId) : Bx (w.alloc (.cells xs T)) w.heap.size xs T := heap_alloc_new w _
theorem Bx.alloc {w : World} {k : Nat} {xs : Array Value} {T : TypeId} (h : Bx w k xs T) (o : Obj) : Bx (w.alloc o) k xs T := h.next ((Below.refl _ w).alloc (Nat.le_refl _) o)
theorem Bx.drew {w : World} {k : Nat} {xs : Array Value} {T : TypeId} (h : Bx w k xs T) : Bx w.drew k xs T := h
theorem Bx.drewN {w : World} {k : Nat} {xs : Array Value} {T : TypeId} (h : Bx w k xs T) (n : Nat) : Bx (w.drewN n) k xs T := h.next (gr_drewN (Below.refl _ w) n)
theorem Bx.grown {w w' : World} {row : Option Nat} {k : Nat} {xs : Array Value} {T : TypeId} (h : Bx w k xs T) (hg : w.grownBy w' row) (hr : ∀ j, row = some j → j ≠ k) : Bx w' k xs T :=
  (hg.block k h.lt (fun e => hr k e.symm rfl)).trans h
theorem Bx.own {w : World} {k : Nat} {xs : Array Value} {T t : TypeId} (h : Bx w k xs T) {B size : Nat} {v : Value} {n : Nat} {ys : List Value} (h' : w.ownsRow B t size v n ys) (ht : T ≠ t) : ∀ j, v.ownBlock = some j → j ≠ k := by
  intro j hj e
  subst e
  rcases h'.2 with ⟨rfl, _⟩ | ⟨g, cap, cur, rfl, _, hg, _⟩
  · simp [Value.ownBlock] at hj
  · simp only [Value.ownBlock, Option.some.injEq] at hj
    subst hj
    rw [show w.heap[g]? = _ from h] at hg
    exact ht (by simpa using (by cases hg; rfl : T = t))
theorem Bx.cell {w : World} {k : Nat} {xs : Array Value} {T : TypeId} (h : Bx w k xs T) (i : Nat) : w.cell? ⟨k, i, none⟩ = xs[i]? := by
  simp [World.cell?, show w.heap[k]? = _ from h]
theorem Bx.frozen {w : World} {k : Nat} {xs : Array Value} {T : TypeId} (h : Bx w k xs T) (i : Nat) : w.frozen? ⟨k, i, none⟩ = false := by
  simp [World.frozen?, show w.heap[k]? = _ from h]
theorem Bx.arr3 {w : World} {k : Nat} {a b c : Int} {T : TypeId} (h : Bx w k #[.int .i64 a, .int .i64 b, .int .i64 c] T) : Arr3 w k a b c :=
  ⟨h.lt, h.cell 0, h.cell 1, h.cell 2, h.frozen 0, h.frozen 1, h.frozen 2⟩
theorem Bx.arr4 {w : World} {k : Nat} {a b c d : Int} {T : TypeId} (h : Bx w k #[.int .i64 a, .int .i64 b, .int .i64 c, .int .i64 d] T) : Arr w k a b c d :=
  ⟨h.lt, h.cell 0, h.cell 1, h.cell 2, h.cell 3, h.frozen 0, h.frozen 1, h.frozen 2, h.frozen 3⟩
theorem Bx.arr9 {w : World} {k : Nat} {p0 p1 p2 p3 p4 p5 p6 p7 p8 : Int} {T : TypeId} (h : Bx w k #[.int .i64 p0, .int .i64 p1, .int .i64 p2, .int .i64 p3, .int .i64 p4, .int .i64 p5, .int .i64 p6, .int .i64 p7, .int .i64 p8] T) : Arr9 w k p0 p1 p2 p3 p4 p5 p6 p7 p8 :=
  ⟨h.lt, h.cell 0, h.cell 1, h.cell 2, h.cell 3, h.cell 4, h.cell 5, h.cell 6, h.cell 7, h.cell 8⟩
theorem gr_own {w w' w'' : World} {row : Option Nat} (h : Below w.heap.size w w') (hg : w'.grownBy w'' row) (hr : ∀ k, row = some k → w.heap.size ≤ k) : Below w.heap.size w w'' :=
  ⟨hg.os.trans h.os, by rw [hg.tape, h.tape], hg.output.trans h.output, Nat.le_trans h.size hg.size, fun k hk => (hg.block k (Nat.lt_of_lt_of_le hk h.size) (fun e => by have := hr k e.symm; omega)).trans (h.block k hk)⟩
/-- Kept by an append of a new block's cells to a row of another type. -/
theorem Bx.app {W W' : World} {k : Nat} {xs : Array Value} {T t : TypeId} (h : Bx W k xs T) {B size : Nat} {v : Value} {n : Nat} {ys : List Value} (h' : W.ownsRow B t size v n ys) (ht : T ≠ t) {o : Obj} (hg : (W.alloc o).grownBy W' v.ownBlock) : Bx W' k xs T :=
  (h.alloc o).grown hg ((h.alloc o).own (h'.alloc o) ht)

end Go.Proofs.YtdogkkmdccieiaaDoor
