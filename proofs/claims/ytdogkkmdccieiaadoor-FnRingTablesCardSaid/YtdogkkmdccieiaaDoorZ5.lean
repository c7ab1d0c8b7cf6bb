/- Several texts in one: XE3, XC1b. -/
import Derived.Test.YtdogkkmdccieiaaDoorZ3
import Derived.Test.YtdogkkmdccieiaaDoorZ4

/- Chapter 4: products of elements by a table, the model's. -/
namespace Go.Proofs.YtdogkkmdccieiaaDoor
open Go.RowKit

/-- A table of three elements in block k, laid by the call. -/
def TabOut (p0 p1 p2 p3 p4 p5 p6 p7 p8 : Int) (w : World) (e : Ending) (w' : World) : Prop :=
  ∃ k, e = .returned (.slice (some ⟨k, 0, none⟩) 3 3) ∧ w.heap.size ≤ k ∧ Arr9 w' k p0 p1 p2 p3 p4 p5 p6 p7 p8 ∧ Below w.heap.size w w'

/-- The same, the block known whole. -/
def TabB (p0 p1 p2 p3 p4 p5 p6 p7 p8 : Int) (w : World) (e : Ending) (w' : World) : Prop :=
  ∃ k, e = .returned (.slice (some ⟨k, 0, none⟩) 3 3) ∧ w.heap.size ≤ k ∧ Bx w' k #[.int .i64 p0, .int .i64 p1, .int .i64 p2, .int .i64 p3, .int .i64 p4, .int .i64 p5, .int .i64 p6, .int .i64 p7, .int .i64 p8] 27 ∧ Below w.heap.size w w'
theorem TabB.out {p0 p1 p2 p3 p4 p5 p6 p7 p8 : Int} {w : World} {e : Ending} {w' : World} (h : TabB p0 p1 p2 p3 p4 p5 p6 p7 p8 w e w') : TabOut p0 p1 p2 p3 p4 p5 p6 p7 p8 w e w' := by
  obtain ⟨k, h1, h2, h3, h4⟩ := h
  exact ⟨k, h1, h2, h3.arr9, h4⟩

set_option maxHeartbeats 1000000 in
theorem sTableB_any (a b c d : Int) (w : World) :
    Calls Tryd.prog 58 #[.agg #[.int .i64 a, .int .i64 b, .int .i64 c, .int .i64 d]] w (TabB (np a c) b (ng a) (np a d) 0 0 (np b d) d (ng c) w) := by
  have A0 := Arr.new w a b c d 25
  have U0 := gr_alloc (Below.refl w.heap.size w) (.cells #[.int .i64 a, .int .i64 b, .int .i64 c, .int .i64 d] 25)
  go_enter Tryd.func58, Tryd.ntmps58
  go_upto_region 1 with fail
  generalize w.alloc (.cells #[.int .i64 a, .int .i64 b, .int .i64 c, .int .i64 d] 25) = W0 at A0 U0 ⊢
  obtain ⟨_, a0, a1, a2, a3, _⟩ := id A0
  go_quiet (fail)
  have U1 := gr_drewN U0 nq
  have hz := U1.size
  go_wp2
  go_ret
  exact ⟨_, rfl, hz, by simp only [np, ng, wr_ml]; exact Bx.new _ _ _, by (repeat' (first | with_reducible exact Below.refl _ _ | with_reducible assumption | with_reducible refine gr_alloc ?_ _ | with_reducible refine gr_drew ?_ | with_reducible refine gr_drewN ?_ _ | with_reducible refine gr_trans ?_ (by assumption) | with_reducible refine gr_set ?_ ?_ _ | (simp; done) | omega | (simp; omega)))⟩

theorem sTable_any (a b c d : Int) (w : World) :
    Calls Tryd.prog 58 #[.agg #[.int .i64 a, .int .i64 b, .int .i64 c, .int .i64 d]] w (TabOut (np a c) b (ng a) (np a d) 0 0 (np b d) d (ng c) w) := (sTableB_any a b c d w).mono fun _ _ h => h.out

set_option maxRecDepth 100000 in
set_option maxHeartbeats 2000000 in
theorem sBy_any (k cap : Nat) (p0 p1 p2 p3 p4 p5 p6 p7 p8 x0 x1 x2 y0 y1 y2 : Int) (w : World) (hP : Arr9 w k p0 p1 p2 p3 p4 p5 p6 p7 p8) :
    Calls Tryd.prog 57 #[.slice (some ⟨k, 0, none⟩) 3 cap, .agg #[.int .i64 x0, .int .i64 x1, .int .i64 x2], .agg #[.int .i64 y0, .int .i64 y1, .int .i64 y2]] w fun e w' =>
      e = .returned (.agg #[.int .i64 (m0 p0 p3 p6 x0 x1 x2 y0 y1 y2), .int .i64 (m1 p1 p4 p7 x0 x1 x2 y0 y1 y2), .int .i64 (m2 p2 p5 p8 x0 x1 x2 y0 y1 y2)]) ∧ Below w.heap.size w w' := by
  have hk := hP.lt
  have P0 := (((hP.alloc (.cells #[.int .i64 x0, .int .i64 x1, .int .i64 x2] 27)).alloc (.cells #[.int .i64 y0, .int .i64 y1, .int .i64 y2] 27)).alloc (.cells #[.int .i64 0, .int .i64 0, .int .i64 0] 27)).alloc (.cells #[.int .i64 (wrap64 (x0 * y0)), .int .i64 (wrap64 (wrap64 (x0 * y1) + wrap64 (x1 * y0))), .int .i64 (wrap64 (wrap64 (x0 * y2) + wrap64 (x2 * y0)))] 27)
  have X0 := (((Arr3.new w x0 x1 x2 27).alloc (.cells #[.int .i64 y0, .int .i64 y1, .int .i64 y2] 27)).alloc (.cells #[.int .i64 0, .int .i64 0, .int .i64 0] 27)).alloc (.cells #[.int .i64 (wrap64 (x0 * y0)), .int .i64 (wrap64 (wrap64 (x0 * y1) + wrap64 (x1 * y0))), .int .i64 (wrap64 (wrap64 (x0 * y2) + wrap64 (x2 * y0)))] 27)
  have Y0 := ((Arr3.new (w.alloc (.cells #[.int .i64 x0, .int .i64 x1, .int .i64 x2] 27)) y0 y1 y2 27).alloc (.cells #[.int .i64 0, .int .i64 0, .int .i64 0] 27)).alloc (.cells #[.int .i64 (wrap64 (x0 * y0)), .int .i64 (wrap64 (wrap64 (x0 * y1) + wrap64 (x1 * y0))), .int .i64 (wrap64 (wrap64 (x0 * y2) + wrap64 (x2 * y0)))] 27)
  have R0 := (Arr3.new ((w.alloc (.cells #[.int .i64 x0, .int .i64 x1, .int .i64 x2] 27)).alloc (.cells #[.int .i64 y0, .int .i64 y1, .int .i64 y2] 27)) 0 0 0 27).alloc (.cells #[.int .i64 (wrap64 (x0 * y0)), .int .i64 (wrap64 (wrap64 (x0 * y1) + wrap64 (x1 * y0))), .int .i64 (wrap64 (wrap64 (x0 * y2) + wrap64 (x2 * y0)))] 27)
  have T0 := Arr3.new (((w.alloc (.cells #[.int .i64 x0, .int .i64 x1, .int .i64 x2] 27)).alloc (.cells #[.int .i64 y0, .int .i64 y1, .int .i64 y2] 27)).alloc (.cells #[.int .i64 0, .int .i64 0, .int .i64 0] 27)) (wrap64 (x0 * y0)) (wrap64 (wrap64 (x0 * y1) + wrap64 (x1 * y0))) (wrap64 (wrap64 (x0 * y2) + wrap64 (x2 * y0))) 27
  have U0 := gr_alloc (gr_alloc (gr_alloc (gr_alloc (Below.refl w.heap.size w) (.cells #[.int .i64 x0, .int .i64 x1, .int .i64 x2] 27)) (.cells #[.int .i64 y0, .int .i64 y1, .int .i64 y2] 27)) (.cells #[.int .i64 0, .int .i64 0, .int .i64 0] 27)) (.cells #[.int .i64 (wrap64 (x0 * y0)), .int .i64 (wrap64 (wrap64 (x0 * y1) + wrap64 (x1 * y0))), .int .i64 (wrap64 (wrap64 (x0 * y2) + wrap64 (x2 * y0)))] 27)
  simp only [World.size_alloc] at Y0 R0 T0
  clear hP
  go_enter Tryd.func57, Tryd.ntmps57
  go_wp2
  generalize (((w.alloc (.cells #[.int .i64 x0, .int .i64 x1, .int .i64 x2] 27)).alloc (.cells #[.int .i64 y0, .int .i64 y1, .int .i64 y2] 27)).alloc (.cells #[.int .i64 0, .int .i64 0, .int .i64 0] 27)).alloc (.cells #[.int .i64 (wrap64 (x0 * y0)), .int .i64 (wrap64 (wrap64 (x0 * y1) + wrap64 (x1 * y0))), .int .i64 (wrap64 (wrap64 (x0 * y2) + wrap64 (x2 * y0)))] 27) = W0 at P0 X0 Y0 R0 T0 U0 ⊢
  refine wp_loop_rounds 4 ?_
  obtain ⟨_, _, hx1, hx2, _⟩ := id X0
  obtain ⟨_, _, hy1, hy2, _⟩ := id Y0
  obtain ⟨_, t0, t1, t2, f0, f1, f2⟩ := id T0
  obtain ⟨_, hp0, hp1, hp2, hp3, hp4, hp5, hp6, hp7, hp8⟩ := id P0
  rw [rounds_succ]; go_wp2
  go_still_tail 47, (by kernel_rfl)
  go_wp2
  have P1 := (P0.oth (p := ⟨w.heap.size + 1 + 1 + 1, 0, none⟩) (by first | omega | (simp; done) | (simp; omega)) (.int .i64 (wrap64 (wrap64 (wrap64 (wrap64 (x0 * y0) + wrap64 (wrap64 (x1 * y1) * p0)) + wrap64 (wrap64 (wrap64 (x1 * y2) + wrap64 (x2 * y1)) * p3)) + wrap64 (wrap64 (x2 * y2) * p6))))).drew
  have X1 := (X0.oth (p := ⟨w.heap.size + 1 + 1 + 1, 0, none⟩) (by first | omega | (simp; done) | (simp; omega)) (.int .i64 (wrap64 (wrap64 (wrap64 (wrap64 (x0 * y0) + wrap64 (wrap64 (x1 * y1) * p0)) + wrap64 (wrap64 (wrap64 (x1 * y2) + wrap64 (x2 * y1)) * p3)) + wrap64 (wrap64 (x2 * y2) * p6))))).drew
  have Y1 := (Y0.oth (p := ⟨w.heap.size + 1 + 1 + 1, 0, none⟩) (by first | omega | (simp; done) | (simp; omega)) (.int .i64 (wrap64 (wrap64 (wrap64 (wrap64 (x0 * y0) + wrap64 (wrap64 (x1 * y1) * p0)) + wrap64 (wrap64 (wrap64 (x1 * y2) + wrap64 (x2 * y1)) * p3)) + wrap64 (wrap64 (x2 * y2) * p6))))).drew
  have R1 := (R0.oth (p := ⟨w.heap.size + 1 + 1 + 1, 0, none⟩) (by first | omega | (simp; done)) (.int .i64 (wrap64 (wrap64 (wrap64 (wrap64 (x0 * y0) + wrap64 (wrap64 (x1 * y1) * p0)) + wrap64 (wrap64 (wrap64 (x1 * y2) + wrap64 (x2 * y1)) * p3)) + wrap64 (wrap64 (x2 * y2) * p6))))).drew
  have T1 := (T0.set0 (wrap64 (wrap64 (wrap64 (wrap64 (x0 * y0) + wrap64 (wrap64 (x1 * y1) * p0)) + wrap64 (wrap64 (wrap64 (x1 * y2) + wrap64 (x2 * y1)) * p3)) + wrap64 (wrap64 (x2 * y2) * p6)))).drew
  have U1 := gr_drew (gr_set U0 (p := ⟨w.heap.size + 1 + 1 + 1, 0, none⟩) (by first | omega | (simp; done) | (simp; omega)) (.int .i64 (wrap64 (wrap64 (wrap64 (wrap64 (x0 * y0) + wrap64 (wrap64 (x1 * y1) * p0)) + wrap64 (wrap64 (wrap64 (x1 * y2) + wrap64 (x2 * y1)) * p3)) + wrap64 (wrap64 (x2 * y2) * p6)))))
  clear hx1 hx2 hy1 hy2 t0 t1 t2 f0 f1 f2 hp0 hp1 hp2 hp3 hp4 hp5 hp6 hp7 hp8
  generalize (World.setCell W0 ⟨w.heap.size + 1 + 1 + 1, 0, none⟩ (.int .i64 (wrap64 (wrap64 (wrap64 (wrap64 (x0 * y0) + wrap64 (wrap64 (x1 * y1) * p0)) + wrap64 (wrap64 (wrap64 (x1 * y2) + wrap64 (x2 * y1)) * p3)) + wrap64 (wrap64 (x2 * y2) * p6))))).drew = W1 at P1 X1 Y1 R1 T1 U1 ⊢
  clear P0 X0 Y0 R0 T0 U0
  obtain ⟨_, _, hx1, hx2, _⟩ := id X1
  obtain ⟨_, _, hy1, hy2, _⟩ := id Y1
  obtain ⟨_, t0, t1, t2, f0, f1, f2⟩ := id T1
  obtain ⟨_, hp0, hp1, hp2, hp3, hp4, hp5, hp6, hp7, hp8⟩ := id P1
  rw [rounds_succ]; go_wp2
  go_still_tail 47, (by kernel_rfl)
  go_wp2
  have P2 := (P1.oth (p := ⟨w.heap.size + 1 + 1 + 1, 1, none⟩) (by first | omega | (simp; done) | (simp; omega)) (.int .i64 (wrap64 (wrap64 (wrap64 (wrap64 (wrap64 (x0 * y1) + wrap64 (x1 * y0)) + wrap64 (wrap64 (x1 * y1) * p1)) + wrap64 (wrap64 (wrap64 (x1 * y2) + wrap64 (x2 * y1)) * p4)) + wrap64 (wrap64 (x2 * y2) * p7))))).drew
  have X2 := (X1.oth (p := ⟨w.heap.size + 1 + 1 + 1, 1, none⟩) (by first | omega | (simp; done) | (simp; omega)) (.int .i64 (wrap64 (wrap64 (wrap64 (wrap64 (wrap64 (x0 * y1) + wrap64 (x1 * y0)) + wrap64 (wrap64 (x1 * y1) * p1)) + wrap64 (wrap64 (wrap64 (x1 * y2) + wrap64 (x2 * y1)) * p4)) + wrap64 (wrap64 (x2 * y2) * p7))))).drew
  have Y2 := (Y1.oth (p := ⟨w.heap.size + 1 + 1 + 1, 1, none⟩) (by first | omega | (simp; done) | (simp; omega)) (.int .i64 (wrap64 (wrap64 (wrap64 (wrap64 (wrap64 (x0 * y1) + wrap64 (x1 * y0)) + wrap64 (wrap64 (x1 * y1) * p1)) + wrap64 (wrap64 (wrap64 (x1 * y2) + wrap64 (x2 * y1)) * p4)) + wrap64 (wrap64 (x2 * y2) * p7))))).drew
  have R2 := (R1.oth (p := ⟨w.heap.size + 1 + 1 + 1, 1, none⟩) (by first | omega | (simp; done)) (.int .i64 (wrap64 (wrap64 (wrap64 (wrap64 (wrap64 (x0 * y1) + wrap64 (x1 * y0)) + wrap64 (wrap64 (x1 * y1) * p1)) + wrap64 (wrap64 (wrap64 (x1 * y2) + wrap64 (x2 * y1)) * p4)) + wrap64 (wrap64 (x2 * y2) * p7))))).drew
  have T2 := (T1.set1 (wrap64 (wrap64 (wrap64 (wrap64 (wrap64 (x0 * y1) + wrap64 (x1 * y0)) + wrap64 (wrap64 (x1 * y1) * p1)) + wrap64 (wrap64 (wrap64 (x1 * y2) + wrap64 (x2 * y1)) * p4)) + wrap64 (wrap64 (x2 * y2) * p7)))).drew
  have U2 := gr_drew (gr_set U1 (p := ⟨w.heap.size + 1 + 1 + 1, 1, none⟩) (by first | omega | (simp; done) | (simp; omega)) (.int .i64 (wrap64 (wrap64 (wrap64 (wrap64 (wrap64 (x0 * y1) + wrap64 (x1 * y0)) + wrap64 (wrap64 (x1 * y1) * p1)) + wrap64 (wrap64 (wrap64 (x1 * y2) + wrap64 (x2 * y1)) * p4)) + wrap64 (wrap64 (x2 * y2) * p7)))))
  clear hx1 hx2 hy1 hy2 t0 t1 t2 f0 f1 f2 hp0 hp1 hp2 hp3 hp4 hp5 hp6 hp7 hp8
  generalize (World.setCell W1 ⟨w.heap.size + 1 + 1 + 1, 1, none⟩ (.int .i64 (wrap64 (wrap64 (wrap64 (wrap64 (wrap64 (x0 * y1) + wrap64 (x1 * y0)) + wrap64 (wrap64 (x1 * y1) * p1)) + wrap64 (wrap64 (wrap64 (x1 * y2) + wrap64 (x2 * y1)) * p4)) + wrap64 (wrap64 (x2 * y2) * p7))))).drew = W2 at P2 X2 Y2 R2 T2 U2 ⊢
  clear P1 X1 Y1 R1 T1 U1
  obtain ⟨_, _, hx1, hx2, _⟩ := id X2
  obtain ⟨_, _, hy1, hy2, _⟩ := id Y2
  obtain ⟨_, t0, t1, t2, f0, f1, f2⟩ := id T2
  obtain ⟨_, hp0, hp1, hp2, hp3, hp4, hp5, hp6, hp7, hp8⟩ := id P2
  rw [rounds_succ]; go_wp2
  go_still_tail 47, (by kernel_rfl)
  go_wp2
  have P3 := (P2.oth (p := ⟨w.heap.size + 1 + 1 + 1, 2, none⟩) (by first | omega | (simp; done) | (simp; omega)) (.int .i64 (wrap64 (wrap64 (wrap64 (wrap64 (wrap64 (x0 * y2) + wrap64 (x2 * y0)) + wrap64 (wrap64 (x1 * y1) * p2)) + wrap64 (wrap64 (wrap64 (x1 * y2) + wrap64 (x2 * y1)) * p5)) + wrap64 (wrap64 (x2 * y2) * p8))))).drew
  have X3 := (X2.oth (p := ⟨w.heap.size + 1 + 1 + 1, 2, none⟩) (by first | omega | (simp; done) | (simp; omega)) (.int .i64 (wrap64 (wrap64 (wrap64 (wrap64 (wrap64 (x0 * y2) + wrap64 (x2 * y0)) + wrap64 (wrap64 (x1 * y1) * p2)) + wrap64 (wrap64 (wrap64 (x1 * y2) + wrap64 (x2 * y1)) * p5)) + wrap64 (wrap64 (x2 * y2) * p8))))).drew
  have Y3 := (Y2.oth (p := ⟨w.heap.size + 1 + 1 + 1, 2, none⟩) (by first | omega | (simp; done) | (simp; omega)) (.int .i64 (wrap64 (wrap64 (wrap64 (wrap64 (wrap64 (x0 * y2) + wrap64 (x2 * y0)) + wrap64 (wrap64 (x1 * y1) * p2)) + wrap64 (wrap64 (wrap64 (x1 * y2) + wrap64 (x2 * y1)) * p5)) + wrap64 (wrap64 (x2 * y2) * p8))))).drew
  have R3 := (R2.oth (p := ⟨w.heap.size + 1 + 1 + 1, 2, none⟩) (by first | omega | (simp; done)) (.int .i64 (wrap64 (wrap64 (wrap64 (wrap64 (wrap64 (x0 * y2) + wrap64 (x2 * y0)) + wrap64 (wrap64 (x1 * y1) * p2)) + wrap64 (wrap64 (wrap64 (x1 * y2) + wrap64 (x2 * y1)) * p5)) + wrap64 (wrap64 (x2 * y2) * p8))))).drew
  have T3 := (T2.set2 (wrap64 (wrap64 (wrap64 (wrap64 (wrap64 (x0 * y2) + wrap64 (x2 * y0)) + wrap64 (wrap64 (x1 * y1) * p2)) + wrap64 (wrap64 (wrap64 (x1 * y2) + wrap64 (x2 * y1)) * p5)) + wrap64 (wrap64 (x2 * y2) * p8)))).drew
  have U3 := gr_drew (gr_set U2 (p := ⟨w.heap.size + 1 + 1 + 1, 2, none⟩) (by first | omega | (simp; done) | (simp; omega)) (.int .i64 (wrap64 (wrap64 (wrap64 (wrap64 (wrap64 (x0 * y2) + wrap64 (x2 * y0)) + wrap64 (wrap64 (x1 * y1) * p2)) + wrap64 (wrap64 (wrap64 (x1 * y2) + wrap64 (x2 * y1)) * p5)) + wrap64 (wrap64 (x2 * y2) * p8)))))
  clear hx1 hx2 hy1 hy2 t0 t1 t2 f0 f1 f2 hp0 hp1 hp2 hp3 hp4 hp5 hp6 hp7 hp8
  generalize (World.setCell W2 ⟨w.heap.size + 1 + 1 + 1, 2, none⟩ (.int .i64 (wrap64 (wrap64 (wrap64 (wrap64 (wrap64 (x0 * y2) + wrap64 (x2 * y0)) + wrap64 (wrap64 (x1 * y1) * p2)) + wrap64 (wrap64 (wrap64 (x1 * y2) + wrap64 (x2 * y1)) * p5)) + wrap64 (wrap64 (x2 * y2) * p8))))).drew = W3 at P3 X3 Y3 R3 T3 U3 ⊢
  clear P2 X2 Y2 R2 T2 U2
  obtain ⟨_, t0, t1, t2, f0, f1, f2⟩ := id T3
  obtain ⟨_, r0, r1, r2, g0, g1, g2⟩ := id R3
  rw [rounds_succ]; go_wp2
  refine bodyPost_ret (res_A31 (e := 2) rfl Tryd.underlying27 (by kernel_rfl) rfl (by (repeat (first | with_reducible assumption | with_reducible exact Arr3.box (by assumption) | with_reducible exact Arr3.new _ _ _ _ _ | with_reducible refine Arr3.drew ?_ | with_reducible refine Arr3.drewN ?_ _ | with_reducible refine Arr3.store3 ?_ | with_reducible refine Arr3.alloc ?_ _ | with_reducible refine Arr3.next ?_ (by assumption) | refine Arr3.oth ?_ (by first | (simp; done) | omega | (simp; omega)) _ )))) rfl ?_
  exact ⟨ret_F3 (by simp only [m0, mm, wr_al, wr_ar, wr_ml]) (by simp only [m1, mm, wr_al, wr_ar, wr_ml]) (by simp only [m2, mm, wr_al, wr_ar, wr_ml]), by (repeat' (first | with_reducible exact Below.refl _ _ | with_reducible assumption | with_reducible refine gr_alloc ?_ _ | with_reducible refine gr_drew ?_ | with_reducible refine gr_drewN ?_ _ | with_reducible refine gr_trans ?_ (by assumption) | with_reducible refine gr_set ?_ ?_ _ | (simp; done) | omega | (simp; omega)))⟩

end Go.Proofs.YtdogkkmdccieiaaDoor

/- Chapter 1: the contracts of the functions that only look or reckon. -/
namespace Go.Proofs.YtdogkkmdccieiaaDoor
open Go.RowKit

set_option maxHeartbeats 400000 in
theorem iIsForm_any (a b c d : Int) (w : World) :
    Calls Tryd.prog 38 #[.agg #[.int .i64 a, .int .i64 b, .int .i64 c, .int .i64 d]] w fun e w' => e = .returned (.bool (isF a b c d)) ∧ Below w.heap.size w w' := by
  go_enter Tryd.func38, Tryd.ntmps38
  go_wp2_with fail
  refine (allWithin_any _ a b c d _ (Arr.new _ _ _ _ _ _)).mono ?_
  rintro e w1 ⟨rfl, rfl⟩
  go_wp2
  go_ret
  exact ⟨rfl, by go_grown⟩

set_option maxHeartbeats 400000 in
theorem iIsMatrix_any (a b c d : Int) (w : World) :
    Calls Tryd.prog 76 #[.agg #[.int .i64 a, .int .i64 b, .int .i64 c, .int .i64 d]] w fun e w' => e = .returned (.bool (isF a b c d)) ∧ Below w.heap.size w w' := by
  go_enter Tryd.func76, Tryd.ntmps76
  go_wp2_with fail
  refine (allWithin_any _ a b c d _ (Arr.new _ _ _ _ _ _)).mono ?_
  rintro e w1 ⟨rfl, rfl⟩
  go_wp2
  go_ret
  exact ⟨rfl, by go_grown⟩



end Go.Proofs.YtdogkkmdccieiaaDoor
