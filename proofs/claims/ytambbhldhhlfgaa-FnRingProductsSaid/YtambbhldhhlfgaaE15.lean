/- Chapter 4: MatrixOfElem. -/
import Derived.Test.YtambbhldhhlfgaaE11
import Derived.Test.YtambbhldhhlfgaaRws
import Derived.Deep.AppendLies
namespace Go.Proofs.Ytambbhldhhlfgaa
open Go.RowKit

theorem cellsB0 {W : World} {k : Nat} {u v x r3 r4 r5 r6 r7 r8 : Int} {T : TypeId} (h : Bx W k #[.int .i64 u, .int .i64 v, .int .i64 x, .int .i64 r3, .int .i64 r4, .int .i64 r5, .int .i64 r6, .int .i64 r7, .int .i64 r8] T) : W.cell? ⟨k, 0, none⟩ = some (.int .i64 u) ∧ W.cell? ⟨k, 1, none⟩ = some (.int .i64 v) ∧ W.cell? ⟨k, 2, none⟩ = some (.int .i64 x) := ⟨h.cell 0, h.cell 1, h.cell 2⟩
theorem cellsB1 {W : World} {k : Nat} {u v x r3 r4 r5 r6 r7 r8 : Int} {T : TypeId} (h : Bx W k #[.int .i64 u, .int .i64 v, .int .i64 x, .int .i64 r3, .int .i64 r4, .int .i64 r5, .int .i64 r6, .int .i64 r7, .int .i64 r8] T) : W.cell? ⟨k, 3, none⟩ = some (.int .i64 r3) ∧ W.cell? ⟨k, 4, none⟩ = some (.int .i64 r4) ∧ W.cell? ⟨k, 5, none⟩ = some (.int .i64 r5) := ⟨h.cell 3, h.cell 4, h.cell 5⟩
theorem cellsB2 {W : World} {k : Nat} {u v x r3 r4 r5 r6 r7 r8 : Int} {T : TypeId} (h : Bx W k #[.int .i64 u, .int .i64 v, .int .i64 x, .int .i64 r3, .int .i64 r4, .int .i64 r5, .int .i64 r6, .int .i64 r7, .int .i64 r8] T) : W.cell? ⟨k, 6, none⟩ = some (.int .i64 r6) ∧ W.cell? ⟨k, 7, none⟩ = some (.int .i64 r7) ∧ W.cell? ⟨k, 8, none⟩ = some (.int .i64 r8) := ⟨h.cell 6, h.cell 7, h.cell 8⟩

set_option maxRecDepth 100000 in
set_option maxHeartbeats 2000000 in
theorem iMatE_any (a b c d u v x : Int) (w : World) :
    Calls Try.prog 22 #[.agg #[.int .i64 a, .int .i64 b, .int .i64 c, .int .i64 d], .agg #[.int .i64 u, .int .i64 v, .int .i64 x]] w (RowOut (fec a b c d u v x) 3 (mtf a b c d u v x) w) := by
  have hp := fun W => iProducts_any a b c d W
  have hm : ∀ W, Calls Try.prog 70 #[.agg #[.int .i64 (np a c), .int .i64 b, .int .i64 (ng a), .int .i64 (np a d), .int .i64 0, .int .i64 0, .int .i64 (np b d), .int .i64 d, .int .i64 (ng c)], .agg #[.int .i64 u, .int .i64 v, .int .i64 x]] W (RowsOut (mtf a b c d u v x) W) := fun W => iMatrix_any (np a c) b (ng a) (np a d) 0 0 (np b d) d (ng c) u v x W
  generalize mtf a b c d u v x = M at hm ⊢
  generalize np a c = t0 at hp hm
  generalize ng a = t2 at hp hm
  generalize np a d = t3 at hp hm
  generalize np b d = t6 at hp hm
  generalize ng c = t8 at hp hm
  have HP := hid hp; have HM := hid hm
  clear hp hm
  generalize hk : fec a b c d u v x = k
  have HK := hid hk
  clear hk
  have F0 := (Arr.new w a b c d 25).alloc (.cells #[.int .i64 u, .int .i64 v, .int .i64 x] 27)
  have X0 := Arr3.new (w.alloc (.cells #[.int .i64 a, .int .i64 b, .int .i64 c, .int .i64 d] 25)) u v x 27
  have U0 := gr_alloc (gr_alloc (Below.refl w.heap.size w) (.cells #[.int .i64 a, .int .i64 b, .int .i64 c, .int .i64 d] 25)) (.cells #[.int .i64 u, .int .i64 v, .int .i64 x] 27)
  simp only [World.size_alloc] at X0
  go_enter Try.func22, Try.ntmps22
  go_wp2_with fail
  refine (iIsForm_any a b c d _).mono ?_
  rintro e w1 ⟨rfl, hb1⟩
  have F1 := F0.next hb1
  have X1 := X0.next hb1
  have U1 := gr_trans U0 hb1
  clear F0 X0 U0
  by_cases h1 : isF a b c d = false
  · have k0 := fec_f (u := u) (v := v) (x := x) h1
    rw [HK.out] at k0
    subst k0
    go_wp2_with fail
    go_ret2
    exact ⟨_, rfl, .inl ⟨rfl, by simp⟩, by (repeat' (first | with_reducible exact Below.refl _ _ | with_reducible assumption | with_reducible refine gr_alloc ?_ _ | with_reducible refine gr_drew ?_ | with_reducible refine gr_drewN ?_ _ | with_reducible refine gr_trans ?_ (by assumption) | with_reducible refine gr_set ?_ ?_ _ | (simp; done) | omega | (simp; omega)))⟩
  have h1' : isF a b c d = true := by simpa using h1
  clear h1
  obtain ⟨_, x0, x1, x2, _⟩ := id X1
  go_wp2_with fail
  refine (iIsE_any u v x _).mono ?_
  rintro e w2 ⟨rfl, hb2⟩
  clear x0 x1 x2
  have F2 := F1.next hb2
  have X2 := X1.next hb2
  have U2 := gr_trans U1 hb2
  clear F1 X1 U1
  by_cases h2 : isE u v x = false
  · have k0 := fec_e (a := a) (b := b) (c := c) (d := d) h2
    rw [HK.out] at k0
    subst k0
    go_wp2_with fail
    go_ret2
    exact ⟨_, rfl, .inl ⟨rfl, by simp⟩, by (repeat' (first | with_reducible exact Below.refl _ _ | with_reducible assumption | with_reducible refine gr_alloc ?_ _ | with_reducible refine gr_drew ?_ | with_reducible refine gr_drewN ?_ _ | with_reducible refine gr_trans ?_ (by assumption) | with_reducible refine gr_set ?_ ?_ _ | (simp; done) | omega | (simp; omega)))⟩
  have h2' : isE u v x = true := by simpa using h2
  clear h2
  have k0 := fec_y h1' h2'
  rw [HK.out] at k0
  subst k0
  obtain ⟨_, a0, a1, a2, a3, _⟩ := id F2
  obtain ⟨_, x0, x1, x2, _⟩ := id X2
  go_upto_region 3 with fail
  have hz := U2.size
  go_region_held3 (fun W => W.cell? ⟨w.heap.size + 1, 0, none⟩ = some (.int .i64 u) ∧ W.cell? ⟨w.heap.size + 1, 1, none⟩ = some (.int .i64 v) ∧ W.cell? ⟨w.heap.size + 1, 2, none⟩ = some (.int .i64 x) ∧ W.cell? ⟨w.heap.size, 0, none⟩ = some (.int .i64 a) ∧ W.cell? ⟨w.heap.size, 1, none⟩ = some (.int .i64 b) ∧ W.cell? ⟨w.heap.size, 2, none⟩ = some (.int .i64 c) ∧ W.cell? ⟨w.heap.size, 3, none⟩ = some (.int .i64 d)) (refine cells43 ?_ ?_ <;> (repeat (first | with_reducible assumption | with_reducible exact Arr.box (by assumption) | with_reducible exact Box.new _ _ _ _ _ _ | with_reducible exact Arr.new _ _ _ _ _ _ | with_reducible refine Arr.drew ?_ | with_reducible refine Arr.drewN ?_ _ | with_reducible refine Arr.store4 ?_ | with_reducible refine Arr.alloc ?_ _ | with_reducible refine Box.drew ?_ | with_reducible refine Box.drewN ?_ _ | with_reducible refine Box.alloc ?_ _ | with_reducible refine Arr.next ?_ (by assumption) | with_reducible refine Box.next ?_ (by assumption) | refine Arr.oth ?_ (by first | (simp; done) | omega | (simp; omega)) _ | refine Box.oth ?_ (by first | (simp; done) | omega | (simp; omega)) _ | with_reducible exact Arr3.box (by assumption) | with_reducible exact Box3.new _ _ _ _ _ | with_reducible exact Arr3.new _ _ _ _ _ | with_reducible refine Arr3.drew ?_ | with_reducible refine Arr3.drewN ?_ _ | with_reducible refine Arr3.store3 ?_ | with_reducible refine Arr3.alloc ?_ _ | with_reducible refine Box3.drew ?_ | with_reducible refine Box3.drewN ?_ _ | with_reducible refine Box3.alloc ?_ _ | with_reducible refine Arr3.next ?_ (by assumption) | with_reducible refine Box3.next ?_ (by assumption) | refine Arr3.oth ?_ (by first | (simp; done) | omega | (simp; omega)) _ | refine Box3.oth ?_ (by first | (simp; done) | omega | (simp; omega)) _))) (first | (go_at_call 54; refine (HP.out _).mono ?_; rintro e w3 ⟨rfl, hbw3⟩; have hzw3 := hbw3.size; (try simp at hzw3)) | (go_at_call 70; refine (HM.out _).mono ?_; rintro e w4 ⟨vr, rfl, hVw4, hbw4⟩; have hzw4 := hbw4.size; (try simp at hzw4)))
  all_goals (go_wp2_with fail; go_ret2; exact ⟨_, rfl, .inr ⟨by simp, by (obtain ⟨rb, cap, q0, q1, q2, h1, h2, h3, h4, h5, h6, h7, h8, h9⟩ := hVw4; exact ⟨rb, cap, q0, q1, q2, h1, h2, h3, by omega, h5, by omega, by omega, by omega, h9⟩)⟩, by (repeat' (first | with_reducible exact Below.refl _ _ | with_reducible assumption | with_reducible refine gr_alloc ?_ _ | with_reducible refine gr_drew ?_ | with_reducible refine gr_drewN ?_ _ | with_reducible refine gr_trans ?_ (by assumption) | with_reducible refine gr_set ?_ ?_ _ | (simp; done) | omega | (simp; omega)))⟩)

set_option maxRecDepth 100000 in
set_option maxHeartbeats 2000000 in
theorem sMatE_any (a b c d u v x : Int) (w : World) :
    Calls Try.prog 23 #[.agg #[.int .i64 a, .int .i64 b, .int .i64 c, .int .i64 d], .agg #[.int .i64 u, .int .i64 v, .int .i64 x]] w (RowOut (fec a b c d u v x) 3 (mtf a b c d u v x) w) := by
  have hr := fun W => sRowsB_any a b c d u v x W
  have hc := fun k W => sCode1_any k a b c d u v x W
  have hM0 : fec a b c d u v x = 0 → mtf a b c d u v x 0 0 = u ∧ mtf a b c d u v x 0 1 = v ∧ mtf a b c d u v x 0 2 = x := fun h => mtx_00 (fec_0.1 h).2
  have hM1 : mtf a b c d u v x 1 0 = m0 (np a c) (np a d) (np b d) u v x 0 1 0 ∧ mtf a b c d u v x 1 1 = m1 b 0 d u v x 0 1 0 ∧ mtf a b c d u v x 1 2 = m2 (ng a) 0 (ng c) u v x 0 1 0 := ⟨rfl, rfl, rfl⟩
  have hM2 : mtf a b c d u v x 2 0 = m0 (np a c) (np a d) (np b d) u v x 0 0 1 ∧ mtf a b c d u v x 2 1 = m1 b 0 d u v x 0 0 1 ∧ mtf a b c d u v x 2 2 = m2 (ng a) 0 (ng c) u v x 0 0 1 := ⟨rfl, rfl, rfl⟩
  generalize mtf a b c d u v x = M at hM0 hM1 hM2 ⊢
  generalize m0 (np a c) (np a d) (np b d) u v x 0 1 0 = r3 at hr hM1
  generalize m1 b 0 d u v x 0 1 0 = r4 at hr hM1
  generalize m2 (ng a) 0 (ng c) u v x 0 1 0 = r5 at hr hM1
  generalize m0 (np a c) (np a d) (np b d) u v x 0 0 1 = r6 at hr hM2
  generalize m1 b 0 d u v x 0 0 1 = r7 at hr hM2
  generalize m2 (ng a) 0 (ng c) u v x 0 0 1 = r8 at hr hM2
  generalize fec a b c d u v x = k at hc hM0 ⊢
  have HR := hid hr; have HC := hid hc; have HM0 := hid hM0; have HM1 := hid hM1; have HM2 := hid hM2
  clear hr hc hM0 hM1 hM2
  obtain ⟨i0, hi, hi0, hi1, hi2⟩ := info_parts info_sl
  have HI := hid hi; have HZ0 := hid hi0; have HZ1 := hid hi1; have HZ2 := hid hi2
  clear hi hi0 hi1 hi2
  have F0 := (Arr.new w a b c d 25).alloc (.cells #[.int .i64 u, .int .i64 v, .int .i64 x] 27)
  have X0 := Arr3.new (w.alloc (.cells #[.int .i64 a, .int .i64 b, .int .i64 c, .int .i64 d] 25)) u v x 27
  have U0 := gr_alloc (gr_alloc (Below.refl w.heap.size w) (.cells #[.int .i64 a, .int .i64 b, .int .i64 c, .int .i64 d] 25)) (.cells #[.int .i64 u, .int .i64 v, .int .i64 x] 27)
  simp only [World.size_alloc] at X0
  have T0 := Arr3.new ((w.alloc (.cells #[.int .i64 a, .int .i64 b, .int .i64 c, .int .i64 d] 25)).alloc (.cells #[.int .i64 u, .int .i64 v, .int .i64 x] 27)) u v x 27
  simp only [World.size_alloc] at T0
  go_enter Try.func23, Try.ntmps23
  go_wp2_with fail
  refine (HC.out _ _ T0).mono ?_
  rintro e w1 ⟨rfl, hb1⟩
  have F1 := (F0.alloc (.cells #[.int .i64 u, .int .i64 v, .int .i64 x] 27)).next hb1
  have X1 := (X0.alloc (.cells #[.int .i64 u, .int .i64 v, .int .i64 x] 27)).next hb1
  have U1 := gr_trans (gr_alloc U0 (.cells #[.int .i64 u, .int .i64 v, .int .i64 x] 27)) hb1
  clear F0 X0 U0 T0
  by_cases hk : ¬ k = 0
  · have hk' : (k == 0) = false := by simpa using hk
    have HK := hid hk
    clear hk
    go_wp2_with fail
    go_ret2
    exact ⟨_, rfl, .inl ⟨rfl, by simp [HK.out]⟩, by (repeat' (first | with_reducible exact Below.refl _ _ | with_reducible assumption | with_reducible refine gr_alloc ?_ _ | with_reducible refine gr_drew ?_ | with_reducible refine gr_drewN ?_ _ | with_reducible refine gr_trans ?_ (by assumption) | with_reducible refine gr_set ?_ ?_ _ | (simp; done) | omega | (simp; omega)))⟩
  have hk0 : k = 0 := by omega
  subst hk0
  clear hk
  obtain ⟨_, a0, a1, a2, a3, _⟩ := id F1
  obtain ⟨_, x0, x1, x2, _⟩ := id X1
  go_wp2_with fail
  refine (HR.out _).mono ?_
  rintro e w2 ⟨kk, rfl, hkk, hP2, hb2⟩
  have U2 := gr_trans U1 hb2
  have P0 := hP2.alloc (.cells #[] 40)
  have hv0 := U2.size
  have HU0 := hid (gr_alloc U2 (.cells #[] 40))
  have O0 : (w2.alloc (.cells #[] 40)).ownsRow w.heap.size 40 1 (.slice (some ⟨w2.heap.size, 0, none⟩) 0 0) 0 [] :=
    ⟨rfl, .inr ⟨w2.heap.size, 0, #[], rfl, hv0, heap_alloc_new w2 _, Nat.le_refl _, by decide, rfl, rfl⟩⟩
  have HO0 := hid O0
  clear O0 hP2 hkk x0 x1 x2 a0 a1 a2 a3 F1 X1 U1 U2
  go_wp2_with fail
  generalize hW0 : w2.alloc (.cells #[] 40) = W0 at P0 HU0 HO0 ⊢
  have hv0 := HU0.out.size
  have y0e : ∃ y0, y0 = Value.slice (some ⟨w2.heap.size, 0, none⟩) 0 0 := ⟨_, rfl⟩
  obtain ⟨y0, hy0⟩ := y0e
  rw [← hy0] at HO0 ⊢
  have HW0 := hid hW0; have HY0 := hid hy0
  clear hW0 hy0
  refine wp_loop_rounds 4 ?_
  obtain ⟨_, hc0, hc1, hc2, hc3, hc4, hc5, hc6, hc7, hc8⟩ := P0.arr9
  rw [rounds_succ]
  go_wp2_with fail
  go_region_held3 (fun W => W.cell? ⟨kk, 0, none⟩ = some (.int .i64 u) ∧ W.cell? ⟨kk, 1, none⟩ = some (.int .i64 v) ∧ W.cell? ⟨kk, 2, none⟩ = some (.int .i64 x)) (refine cellsB0 (u := u) (v := v) (x := x) (r3 := r3) (r4 := r4) (r5 := r5) (r6 := r6) (r7 := r7) (r8 := r8) (T := 27) ?_ <;> (repeat (first | with_reducible assumption | with_reducible exact Bx.new _ _ _ | with_reducible refine Bx.drew ?_ | with_reducible refine Bx.drewN ?_ _ | with_reducible refine Bx.alloc ?_ _ | with_reducible refine Bx.next ?_ (by assumption)))) ((refine step_append_lies _ (by rfl) (.tmp 25) (.tmp 42) 44 (by rfl) w.heap.size 40 i0 (.slice none 0 0) 1 24 Try.underlying44 HI.out HZ0.out HZ1.out HZ2.out rfl (by decide) y0 0 [] (by rfl) (((HO0.out.drew).alloc (.cells #[.int .i64 u, .int .i64 v, .int .i64 x] 2)).alloc (.cells #[.slice (some ⟨W0.heap.size, 0, none⟩) 3 3] 40)) ⟨W0.heap.size + 1, 0, none⟩ 1 1 [.slice (some ⟨W0.heap.size, 0, none⟩) 3 3] (by rfl) rfl (by intro j u hj; match j, hj with | 0, hj => (simp at hj; subst hj; simp [Addr.add, go_sem])) (by intro u hu; simp at hu; subst hu; rfl) (by omega) (by unfold maxLen; omega) (by omega) (by simp; omega) (W0.heap.size + 2) (by simp) ?_; intro g1 cap1 W1 O1 hg1 hat1 hlt1; have P1 := ((P0.drew).alloc (.cells #[.int .i64 u, .int .i64 v, .int .i64 x] 2)).app ((HO0.out.drew).alloc _) (by decide) hg1))
  have B0_1 := (Bx.new W0.drew #[.int .i64 u, .int .i64 v, .int .i64 x] 2).app ((HO0.out.drew).alloc _) (by decide) hg1
  have HU1 := hid (gr_own (gr_alloc (gr_alloc (gr_drew HU0.out) (.cells #[.int .i64 u, .int .i64 v, .int .i64 x] 2)) (.cells #[.slice (some ⟨W0.heap.size, 0, none⟩) 3 3] 40)) hg1 (fun j hj => by have := (HO0.out.lt j hj).1; omega))
  have hv1 := HU1.out.size
  have hw1 : W0.heap.size + 2 ≤ W1.heap.size := by have := hg1.size; simpa using this
  have HO1 := hid O1
  clear hg1 O1 hat1 hlt1 HO0 HU0 P0 hc0 hc1 hc2 hc3 hc4 hc5 hc6 hc7 hc8 
  obtain ⟨y1, hy1⟩ : ∃ y, y = Value.slice (some ⟨g1, 0, none⟩) (0 + 1) cap1 := ⟨_, rfl⟩
  rw [← hy1] at HO1
  go_wp2_with fail
  try rw [← hy1]
  have HY1 := hid hy1
  clear hy1
  obtain ⟨_, hc0, hc1, hc2, hc3, hc4, hc5, hc6, hc7, hc8⟩ := P1.arr9
  rw [rounds_succ]
  go_wp2_with fail
  go_region_held3 (fun W => W.cell? ⟨kk, 3, none⟩ = some (.int .i64 r3) ∧ W.cell? ⟨kk, 4, none⟩ = some (.int .i64 r4) ∧ W.cell? ⟨kk, 5, none⟩ = some (.int .i64 r5)) (refine cellsB1 (u := u) (v := v) (x := x) (r3 := r3) (r4 := r4) (r5 := r5) (r6 := r6) (r7 := r7) (r8 := r8) (T := 27) ?_ <;> (repeat (first | with_reducible assumption | with_reducible exact Bx.new _ _ _ | with_reducible refine Bx.drew ?_ | with_reducible refine Bx.drewN ?_ _ | with_reducible refine Bx.alloc ?_ _ | with_reducible refine Bx.next ?_ (by assumption)))) ((refine step_append_lies _ (by rfl) (.tmp 25) (.tmp 42) 44 (by rfl) w.heap.size 40 i0 (.slice none 0 0) 1 24 Try.underlying44 HI.out HZ0.out HZ1.out HZ2.out rfl (by decide) y1 1 [.slice (some ⟨W0.heap.size, 0, none⟩) 3 3] (by rfl) (((HO1.out.drew).alloc (.cells #[.int .i64 r3, .int .i64 r4, .int .i64 r5] 2)).alloc (.cells #[.slice (some ⟨W1.heap.size, 0, none⟩) 3 3] 40)) ⟨W1.heap.size + 1, 0, none⟩ 1 1 [.slice (some ⟨W1.heap.size, 0, none⟩) 3 3] (by rfl) rfl (by intro j u hj; match j, hj with | 0, hj => (simp at hj; subst hj; simp [Addr.add, go_sem])) (by intro u hu; simp at hu; subst hu; rfl) (by omega) (by unfold maxLen; omega) (by omega) (by simp; omega) (W1.heap.size + 2) (by simp) ?_; intro g2 cap2 W2 O2 hg2 hat2 hlt2; have P2 := ((P1.drew).alloc (.cells #[.int .i64 r3, .int .i64 r4, .int .i64 r5] 2)).app ((HO1.out.drew).alloc _) (by decide) hg2))
  have B1_2 := (Bx.new W1.drew #[.int .i64 r3, .int .i64 r4, .int .i64 r5] 2).app ((HO1.out.drew).alloc _) (by decide) hg2
  have B0_2 := ((B0_1.drew).alloc (.cells #[.int .i64 r3, .int .i64 r4, .int .i64 r5] 2)).app ((HO1.out.drew).alloc _) (by decide) hg2
  have HU2 := hid (gr_own (gr_alloc (gr_alloc (gr_drew HU1.out) (.cells #[.int .i64 r3, .int .i64 r4, .int .i64 r5] 2)) (.cells #[.slice (some ⟨W1.heap.size, 0, none⟩) 3 3] 40)) hg2 (fun j hj => by have := (HO1.out.lt j hj).1; omega))
  have hv2 := HU2.out.size
  have hw2 : W1.heap.size + 2 ≤ W2.heap.size := by have := hg2.size; simpa using this
  have HO2 := hid O2
  clear hg2 O2 hat2 hlt2 HO1 HU1 P1 hc0 hc1 hc2 hc3 hc4 hc5 hc6 hc7 hc8 B0_1
  obtain ⟨y2, hy2⟩ : ∃ y, y = Value.slice (some ⟨g2, 0, none⟩) (1 + 1) cap2 := ⟨_, rfl⟩
  rw [← hy2] at HO2
  go_wp2_with fail
  try rw [← hy2]
  have HY2 := hid hy2
  clear hy2
  obtain ⟨_, hc0, hc1, hc2, hc3, hc4, hc5, hc6, hc7, hc8⟩ := P2.arr9
  rw [rounds_succ]
  go_wp2_with fail
  go_region_held3 (fun W => W.cell? ⟨kk, 6, none⟩ = some (.int .i64 r6) ∧ W.cell? ⟨kk, 7, none⟩ = some (.int .i64 r7) ∧ W.cell? ⟨kk, 8, none⟩ = some (.int .i64 r8)) (refine cellsB2 (u := u) (v := v) (x := x) (r3 := r3) (r4 := r4) (r5 := r5) (r6 := r6) (r7 := r7) (r8 := r8) (T := 27) ?_ <;> (repeat (first | with_reducible assumption | with_reducible exact Bx.new _ _ _ | with_reducible refine Bx.drew ?_ | with_reducible refine Bx.drewN ?_ _ | with_reducible refine Bx.alloc ?_ _ | with_reducible refine Bx.next ?_ (by assumption)))) ((refine step_append_lies _ (by rfl) (.tmp 25) (.tmp 42) 44 (by rfl) w.heap.size 40 i0 (.slice none 0 0) 1 24 Try.underlying44 HI.out HZ0.out HZ1.out HZ2.out rfl (by decide) y2 2 [.slice (some ⟨W0.heap.size, 0, none⟩) 3 3, .slice (some ⟨W1.heap.size, 0, none⟩) 3 3] (by rfl) (((HO2.out.drew).alloc (.cells #[.int .i64 r6, .int .i64 r7, .int .i64 r8] 2)).alloc (.cells #[.slice (some ⟨W2.heap.size, 0, none⟩) 3 3] 40)) ⟨W2.heap.size + 1, 0, none⟩ 1 1 [.slice (some ⟨W2.heap.size, 0, none⟩) 3 3] (by rfl) rfl (by intro j u hj; match j, hj with | 0, hj => (simp at hj; subst hj; simp [Addr.add, go_sem])) (by intro u hu; simp at hu; subst hu; rfl) (by omega) (by unfold maxLen; omega) (by omega) (by simp; omega) (W2.heap.size + 2) (by simp) ?_; intro g3 cap3 W3 O3 hg3 hat3 hlt3; have P3 := ((P2.drew).alloc (.cells #[.int .i64 r6, .int .i64 r7, .int .i64 r8] 2)).app ((HO2.out.drew).alloc _) (by decide) hg3))
  have B2_3 := (Bx.new W2.drew #[.int .i64 r6, .int .i64 r7, .int .i64 r8] 2).app ((HO2.out.drew).alloc _) (by decide) hg3
  have B0_3 := ((B0_2.drew).alloc (.cells #[.int .i64 r6, .int .i64 r7, .int .i64 r8] 2)).app ((HO2.out.drew).alloc _) (by decide) hg3
  have B1_3 := ((B1_2.drew).alloc (.cells #[.int .i64 r6, .int .i64 r7, .int .i64 r8] 2)).app ((HO2.out.drew).alloc _) (by decide) hg3
  have HU3 := hid (gr_own (gr_alloc (gr_alloc (gr_drew HU2.out) (.cells #[.int .i64 r6, .int .i64 r7, .int .i64 r8] 2)) (.cells #[.slice (some ⟨W2.heap.size, 0, none⟩) 3 3] 40)) hg3 (fun j hj => by have := (HO2.out.lt j hj).1; omega))
  have hv3 := HU3.out.size
  have hw3 : W2.heap.size + 2 ≤ W3.heap.size := by have := hg3.size; simpa using this
  have HO3 := hid O3
  clear hg3 O3 hat3 hlt3 HO2 HU2 P2 hc0 hc1 hc2 hc3 hc4 hc5 hc6 hc7 hc8 B0_2 B1_2
  obtain ⟨y3, hy3⟩ : ∃ y, y = Value.slice (some ⟨g3, 0, none⟩) (2 + 1) cap3 := ⟨_, rfl⟩
  rw [← hy3] at HO3
  go_wp2_with fail
  try rw [← hy3]
  have HY3 := hid hy3
  clear hy3
  have hM0 := HM0.out (by first | rfl | trivial)
  have hM1 := HM1.out
  have hM2 := HM2.out
  rw [← hM0.1, ← hM0.2.1, ← hM0.2.2] at B0_3
  rw [← hM1.1, ← hM1.2.1, ← hM1.2.2] at B1_3
  rw [← hM2.1, ← hM2.2.1, ← hM2.2.2] at B2_3
  clear hM0 hM1 hM2
  rw [rounds_succ]; go_wp2_with fail
  go_ret2
  exact ⟨_, rfl, .inr ⟨by simp, rowsO_of (by decide) (B := w.heap.size) (t0 := W0.heap.size) (t1 := W1.heap.size) (t2 := W2.heap.size) (by simpa using HO3.out) B0_3 B1_3 B2_3 (by omega) (by omega) (by omega) (by omega)⟩, HU3.out⟩

end Go.Proofs.Ytambbhldhhlfgaa
