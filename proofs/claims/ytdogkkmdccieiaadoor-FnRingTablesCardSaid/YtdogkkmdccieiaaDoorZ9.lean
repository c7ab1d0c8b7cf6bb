/- Several texts in one: XDt3, XE5. -/
import Derived.Test.YtdogkkmdccieiaaDoorZ8
import Derived.Test.YtdogkkmdccieiaaDoorZ7

/- Chapter 3: determinants of the program: three rows of three numbers. -/
namespace Go.Proofs.YtdogkkmdccieiaaDoor.D3
open Go.RowKit

theorem lk_0 : findLabel (scp (Tryd.f100.body.getD .skip)) 0 = some (lk 0) := by kernel_rfl
theorem lk_1 : findLabel (scp (Tryd.f100.body.getD .skip)) 1 = some (lk 1) := by kernel_rfl
theorem lk_2 : findLabel (scp (Tryd.f100.body.getD .skip)) 2 = some (lk 2) := by kernel_rfl

theorem stt_0 (M : Nat → Nat → Int) (w : World) : Stt w.heap.size M (DS M 3 3 []) 1 (2 * mst 3 [] 0 + 1) (.int .i64 0) (.int .i64 0) (.int .i64 0) (.slice none 0 0) (.slice (some ⟨w.heap.size, 0, none⟩) 1 1) w (w.alloc (.cells #[.int .i64 1] 2)) := by
  refine ⟨[], 0, 0, by simp, by omega, by simp, by simp [wrap64], rfl, World.ownsRow_nil _ _ _ _, ?_, gr_alloc (Below.refl _ _) _, .inl ⟨rfl, rfl, ?_⟩⟩
  · exact ⟨by simp [prs], .inr ⟨w.heap.size, 1, #[.int .i64 1], rfl, Nat.le_refl _, heap_alloc_new w _, Nat.le_refl _, by decide, rfl, rfl⟩⟩
  · have := rest_zero (M := M) (n := 3) (K := [])
    simp only [List.reverse_nil, List.length_nil, Nat.sub_zero] at this
    simp [prd, pnd, this]

set_option maxRecDepth 1000000 in
set_option maxHeartbeats 4000000 in
theorem iDet3_any (M : Nat → Nat → Int) (rv : Value) (w : World) (hR : Rows3 w rv M) (hM : ∀ i j, -1000000000000 ≤ M i j ∧ M i j ≤ 1000000000000) :
    Calls Tryd.prog 100 #[rv] w fun e w' => e = .returned (.int .i64 (wrap64 (DS M 3 3 []))) ∧ Below w.heap.size w w' := by
  have HR := hid hR
  have HM := hid hM
  clear hR hM
  go_enter Tryd.func100, Tryd.ntmps100
  go_wp2
  refine wp_scope_machine (Jd rv w.heap.size M (DS M 3 3 []) w) ?_ ?_
  · go_wp2
    go_step3
    go_step
    go_step
    have h := fun Q => lookb_any w.heap.size M (DS M 3 3 []) rv w _ rfl HR HM (2 * mst 3 [] 0 + 1) undef (.int .i64 0) (.int .i64 0) (.int .i64 0) (.int .i64 0) (.slice none 0 0) (.slice (some ⟨w.heap.size, 0, none⟩) 1 1) (.slice (some ⟨w.heap.size, 0, none⟩) 1 1) undef undef undef undef undef undef undef undef undef undef undef undef undef undef undef undef undef undef undef undef undef undef undef undef undef undef undef undef undef undef undef undef undef undef undef undef undef undef undef undef undef undef undef undef undef undef undef undef undef undef undef undef undef undef undef undef undef undef undef undef undef undef (stt_0 M w) Q
    refine wp_mono (h (bodyPost Tryd.prog Tryd.f100 fun e w' => e = .returned (.int .i64 (wrap64 (DS M 3 3 []))) ∧ Below w.heap.size w w')) ?_
    intro e a w' h
    cases e with
    | goto l => obtain ⟨m', _, hj⟩ := h; exact ⟨m', hj⟩
    | _ => exact h
  · rintro l m a wr ⟨u1, u2, u3, u4, u5, u6, u7, u8, u9, u10, u11, u12, u13, u14, u15, u16, u17, u18, u19, u20, u21, u22, u23, u24, u25, u26, u27, u28, u29, u30, u31, u32, u33, u34, u35, u36, u37, u38, u39, u40, u41, u42, u43, u44, u45, u46, u47, u48, u49, u50, u51, u52, u53, u54, u55, u56, u57, u58, u59, u60, u61, u62, u63, u64, u65, u66, u67, u68, u69, u70, rfl, hS⟩
    have hl : l = 0 ∨ l = 1 ∨ l = 2 := by
      obtain ⟨K, col, s, _, _, _, _, _, _, _, _, h⟩ := hS
      rcases h with ⟨h, _⟩ | ⟨h, _⟩ | ⟨h, _⟩ <;> simp [h]
    rcases hl with rfl | rfl | rfl
    · exact ⟨_, lk_0, back_any w.heap.size M _ rv w wr rfl HR HM m _ _ _ _ _ _ _ _ _ _ _ _ _ _ _ _ _ _ _ _ _ _ _ _ _ _ _ _ _ _ _ _ _ _ _ _ _ _ _ _ _ _ _ _ _ _ _ _ _ _ _ _ _ _ _ _ _ _ _ _ _ _ _ _ _ _ _ _ _ _ hS⟩
    · exact ⟨_, lk_1, look_any w.heap.size M _ rv w wr rfl HR HM m _ _ _ _ _ _ _ _ _ _ _ _ _ _ _ _ _ _ _ _ _ _ _ _ _ _ _ _ _ _ _ _ _ _ _ _ _ _ _ _ _ _ _ _ _ _ _ _ _ _ _ _ _ _ _ _ _ _ _ _ _ _ _ _ _ _ _ _ _ _ hS _⟩
    · exact ⟨_, lk_2, take_any w.heap.size M _ rv w wr rfl HR HM m _ _ _ _ _ _ _ _ _ _ _ _ _ _ _ _ _ _ _ _ _ _ _ _ _ _ _ _ _ _ _ _ _ _ _ _ _ _ _ _ _ _ _ _ _ _ _ _ _ _ _ _ _ _ _ _ _ _ _ _ _ _ _ _ _ _ _ _ _ _ hS _⟩

end Go.Proofs.YtdogkkmdccieiaaDoor.D3

/- Chapter 4: traces, minors, determinants, polynomials of matrices, the program's. -/
namespace Go.Proofs.YtdogkkmdccieiaaDoor
open Go.RowKit

theorem RowsO.rows3 {B : Nat} {w : World} {v : Value} {M : Nat → Nat → Int} (h : RowsO B w v M) : D3.Rows3 w v M := by
  obtain ⟨rb, cap, t0, t1, t2, rfl, h2, h3, _, h5, _, _, _, _, _, _, _, _, c0, c1, c2, a0, a1, a2⟩ := h
  refine ⟨rb, cap, rfl, h2, h3, h5, fun i hi => ?_⟩
  match i, hi with
  | 0, _ => exact ⟨t0, 0, 3, c0, a0.lt, fun j hj => by
      match j, hj with
      | 0, _ => exact a0.c0
      | 1, _ => exact a0.c1
      | 2, _ => exact a0.c2⟩
  | 1, _ => exact ⟨t1, 0, 3, c1, a1.lt, fun j hj => by
      match j, hj with
      | 0, _ => exact a1.c0
      | 1, _ => exact a1.c1
      | 2, _ => exact a1.c2⟩
  | 2, _ => exact ⟨t2, 0, 3, c2, a2.lt, fun j hj => by
      match j, hj with
      | 0, _ => exact a2.c0
      | 1, _ => exact a2.c1
      | 2, _ => exact a2.c2⟩
/-- Trace, sum of the minors on the diagonal, determinant. -/
def tr3 (M : Nat → Nat → Int) : Int := M 0 0 + M 1 1 + M 2 2
def mi3 (M : Nat → Nat → Int) : Int := M 1 1 * M 0 0 - M 1 0 * M 0 1 + (M 2 2 * M 0 0 - M 2 0 * M 0 2) + (M 2 2 * M 1 1 - M 2 1 * M 1 2)
def de3 (M : Nat → Nat → Int) : Int := M 0 0 * (M 1 1 * M 2 2 - M 1 2 * M 2 1) - M 0 1 * (M 1 0 * M 2 2 - M 1 2 * M 2 0) + M 0 2 * (M 1 0 * M 2 1 - M 1 1 * M 2 0)
theorem DS_3 (M : Nat → Nat → Int) : DS M 3 3 [] = de3 M := by
  simp [DS, sumc, sgf, de3]
  grind

set_option maxRecDepth 100000 in
set_option maxHeartbeats 1000000 in
theorem iTrace_any {B : Nat} (v : Value) (M : Nat → Nat → Int) (w : World) (h : RowsO B w v M) :
    Calls Tryd.prog 98 #[v] w fun e w' => e = .returned (.int .i64 (wrap64 (tr3 M))) ∧ Below w.heap.size w w' := by
  obtain ⟨rb, cap, t0, t1, t2, rfl, h2, h3, _, h5, _, _, _, _, _, _, _, _, c0, c1, c2, a0, a1, a2⟩ := h
  obtain ⟨_, x0, _, _, _⟩ := a0
  obtain ⟨_, _, x1, _, _⟩ := a1
  obtain ⟨_, _, _, x2, _⟩ := a2
  go_enter Tryd.func98, Tryd.ntmps98
  go_wp2_with fail
  go_quiet (fail)
  go_wp2
  go_ret
  exact ⟨ret_int (by simp only [tr3, wr_al]), by (repeat' (first | with_reducible exact Below.refl _ _ | with_reducible assumption | with_reducible refine gr_alloc ?_ _ | with_reducible refine gr_drew ?_ | with_reducible refine gr_drewN ?_ _ | with_reducible refine gr_trans ?_ (by assumption) | with_reducible refine gr_set ?_ ?_ _ | (simp; done) | omega | (simp; omega)))⟩

set_option maxRecDepth 100000 in
set_option maxHeartbeats 2000000 in
theorem iMinors_any {B : Nat} (v : Value) (M : Nat → Nat → Int) (w : World) (h : RowsO B w v M) :
    Calls Tryd.prog 99 #[v] w fun e w' => e = .returned (.int .i64 (wrap64 (mi3 M))) ∧ Below w.heap.size w w' := by
  obtain ⟨rb, cap, t0, t1, t2, rfl, h2, h3, _, h5, _, _, _, _, _, _, _, _, c0, c1, c2, a0, a1, a2⟩ := h
  obtain ⟨_, x0, x1, x2, _⟩ := a0
  obtain ⟨_, y0, y1, y2, _⟩ := a1
  obtain ⟨_, z0, z1, z2, _⟩ := a2
  go_enter Tryd.func99, Tryd.ntmps99
  go_wp2_with fail
  refine wp_loop_rounds 4 ?_
  rw [rounds_succ]; go_wp2_with fail
  refine wp_loop_rounds 1 ?_
  rw [rounds_succ]; go_wp2_with fail
  rw [rounds_succ]; go_wp2_with fail
  refine wp_loop_rounds 2 ?_
  rw [rounds_succ]; go_wp2_with fail
  go_quiet (fail)
  go_wp2_with fail
  rw [rounds_succ]; go_wp2_with fail
  rw [rounds_succ]; go_wp2_with fail
  refine wp_loop_rounds 3 ?_
  rw [rounds_succ]; go_wp2_with fail
  go_quiet (fail)
  go_wp2_with fail
  rw [rounds_succ]; go_wp2_with fail
  go_quiet (fail)
  go_wp2_with fail
  rw [rounds_succ]; go_wp2_with fail
  rw [rounds_succ]; go_wp2_with fail
  go_ret
  exact ⟨ret_int (by simp only [mi3, wr_al, wr_ar, wr_sl, wr_sr]), by (repeat' (first | with_reducible exact Below.refl _ _ | with_reducible assumption | with_reducible refine gr_alloc ?_ _ | with_reducible refine gr_drew ?_ | with_reducible refine gr_drewN ?_ _ | with_reducible refine gr_trans ?_ (by assumption) | with_reducible refine gr_set ?_ ?_ _ | (simp; done) | omega | (simp; omega)))⟩

set_option maxRecDepth 100000 in
set_option maxHeartbeats 2000000 in
theorem iPoly_any (p0 p1 p2 p3 p4 p5 p6 p7 p8 x0 x1 x2 : Int) (w : World) (hM : ∀ i j, -1000000000000 ≤ mtx p0 p1 p2 p3 p4 p5 p6 p7 p8 x0 x1 x2 i j ∧ mtx p0 p1 p2 p3 p4 p5 p6 p7 p8 x0 x1 x2 i j ≤ 1000000000000) :
    Calls Tryd.prog 61 #[.agg #[.int .i64 p0, .int .i64 p1, .int .i64 p2, .int .i64 p3, .int .i64 p4, .int .i64 p5, .int .i64 p6, .int .i64 p7, .int .i64 p8], .agg #[.int .i64 x0, .int .i64 x1, .int .i64 x2]] w fun e w' =>
      e = .returned (.agg #[.int .i64 1, .int .i64 (wrap64 (-tr3 (mtx p0 p1 p2 p3 p4 p5 p6 p7 p8 x0 x1 x2))), .int .i64 (wrap64 (mi3 (mtx p0 p1 p2 p3 p4 p5 p6 p7 p8 x0 x1 x2))), .int .i64 (wrap64 (-de3 (mtx p0 p1 p2 p3 p4 p5 p6 p7 p8 x0 x1 x2)))]) ∧ Below w.heap.size w w' := by
  have hm := fun W => iMatrix_any p0 p1 p2 p3 p4 p5 p6 p7 p8 x0 x1 x2 W
  generalize mtx p0 p1 p2 p3 p4 p5 p6 p7 p8 x0 x1 x2 = M at hM hm ⊢
  have HMM := hid hm
  have HB := hid hM
  clear hm hM
  have R0 := Arr.new ((w.alloc (.cells #[.int .i64 p0, .int .i64 p1, .int .i64 p2, .int .i64 p3, .int .i64 p4, .int .i64 p5, .int .i64 p6, .int .i64 p7, .int .i64 p8] 73)).alloc (.cells #[.int .i64 x0, .int .i64 x1, .int .i64 x2] 27)) 0 0 0 0 25
  have U0 := gr_alloc (gr_alloc (gr_alloc (Below.refl w.heap.size w) (.cells #[.int .i64 p0, .int .i64 p1, .int .i64 p2, .int .i64 p3, .int .i64 p4, .int .i64 p5, .int .i64 p6, .int .i64 p7, .int .i64 p8] 73)) (.cells #[.int .i64 x0, .int .i64 x1, .int .i64 x2] 27)) (.cells #[.int .i64 0, .int .i64 0, .int .i64 0, .int .i64 0] 25)
  simp only [World.size_alloc] at R0
  go_enter Tryd.func61, Tryd.ntmps61
  go_wp2_with fail
  refine (HMM.out _).mono ?_
  rintro e w1 ⟨v, rfl, hV1, hb1⟩
  have R1 := R0.next hb1
  have U1 := gr_trans U0 hb1
  clear R0 U0
  go_wp2_with fail
  refine (iTrace_any v M _ hV1).mono ?_
  rintro e w2 ⟨rfl, hb2⟩
  have hV2 := hV1.next hb2
  have R2 := R1.next hb2
  have U2 := gr_trans U1 hb2
  clear R1 U1 hV1
  go_wp2_with fail
  refine (iMinors_any v M _ hV2).mono ?_
  rintro e w3 ⟨rfl, hb3⟩
  have hV3 := hV2.next hb3
  have R3 := R2.next hb3
  have U3 := gr_trans U2 hb3
  clear R2 U2 hV2
  go_wp2_with fail
  refine (D3.iDet3_any M v _ hV3.rows3 HB.out).mono ?_
  rintro e w4 ⟨rfl, hb4⟩
  have R4 := R3.next hb4
  have U4 := gr_trans U3 hb4
  clear R3 U3 hV3
  obtain ⟨_, r0, r1, r2, r3, f0, f1, f2, f3⟩ := id R4
  go_wp2
  refine bodyPost_ret (res_A1 (e := 2) rfl Tryd.underlying25 (by kernel_rfl) rfl (by (repeat (first | with_reducible assumption | with_reducible exact Arr.box (by assumption) | with_reducible apply Arr.drew | with_reducible apply Arr.drewN | with_reducible refine Arr.store4 ?_ | with_reducible apply Arr.alloc | with_reducible refine Box.drew ?_ | with_reducible refine Box.drewN ?_ _ | with_reducible refine Box.alloc ?_ _ | refine Arr.oth ?_ (by first | (simp; done) | omega | (simp; omega)) _ | refine Box.oth ?_ (by first | (simp; done) | omega | (simp; omega)) _)))) rfl ?_
  exact ⟨by rw [wr_n, wr_n, DS_3], by (repeat' (first | with_reducible exact Below.refl _ _ | with_reducible assumption | with_reducible refine gr_alloc ?_ _ | with_reducible refine gr_drew ?_ | with_reducible refine gr_drewN ?_ _ | with_reducible refine gr_trans ?_ (by assumption) | with_reducible refine gr_set ?_ ?_ _ | (simp; done) | omega | (simp; omega)))⟩

end Go.Proofs.YtdogkkmdccieiaaDoor
