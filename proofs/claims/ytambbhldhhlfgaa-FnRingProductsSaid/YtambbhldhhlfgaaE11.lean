/- Chapter 4: TraceOf, NormOf, IndexOf, DiscriminantOfElem. -/
import Derived.Test.YtambbhldhhlfgaaE9
import Derived.Test.YtambbhldhhlfgaaEN
import Derived.Test.YtambbhldhhlfgaaC1d
namespace Go.Proofs.Ytambbhldhhlfgaa
open Go.RowKit

/-- The code of an index. -/
def mx (y : Int) : Int := if y ≤ wrap64 (-y) then wrap64 (-y) else y
def ixc (k y : Int) : Int := if k = 0 then (if 1000000000000000 < mx y then 3 else 0) else k
theorem fec_f {a b c d u v x : Int} (h : isF a b c d = false) : fec a b c d u v x = 1 := by simp [fec, h]
theorem fec_e {a b c d u v x : Int} (h : isE u v x = false) : fec a b c d u v x = 1 := by simp [fec, h]
theorem fec_y {a b c d u v x : Int} (h : isF a b c d = true) (h' : isE u v x = true) : fec a b c d u v x = 0 := by simp [fec, h, h']

set_option maxRecDepth 100000 in
set_option maxHeartbeats 2000000 in
theorem iTraceE_any (a b c d u v x : Int) (w : World) :
    Calls Try.prog 20 #[.agg #[.int .i64 a, .int .i64 b, .int .i64 c, .int .i64 d], .agg #[.int .i64 u, .int .i64 v, .int .i64 x]] w fun e w' => e = .returned (.tuple #[.int .i64 (if0 (fec a b c d u v x) (wrap64 (tr3 (mtf a b c d u v x)))), .int .i64 (fec a b c d u v x)]) ∧ Below w.heap.size w w' := by
  have hp := fun W => iProducts_any a b c d W
  have hm := fun W => iMatrix_any (np a c) b (ng a) (np a d) 0 0 (np b d) d (ng c) u v x W
  have hm : ∀ W, Calls Try.prog 70 #[.agg #[.int .i64 (np a c), .int .i64 b, .int .i64 (ng a), .int .i64 (np a d), .int .i64 0, .int .i64 0, .int .i64 (np b d), .int .i64 d, .int .i64 (ng c)], .agg #[.int .i64 u, .int .i64 v, .int .i64 x]] W (RowsOut (mtf a b c d u v x) W) := hm
  generalize mtf a b c d u v x = M at hm ⊢
  generalize np a c = t0 at hp hm
  generalize ng a = t2 at hp hm
  generalize np a d = t3 at hp hm
  generalize np b d = t6 at hp hm
  generalize ng c = t8 at hp hm
  have HP := hid hp; have HM := hid hm
  clear hp hm
  generalize hk : fec a b c d u v x = k
  have HK := hid hk
  clear hk
  have F0 := (Arr.new w a b c d 25).alloc (.cells #[.int .i64 u, .int .i64 v, .int .i64 x] 27)
  have X0 := Arr3.new (w.alloc (.cells #[.int .i64 a, .int .i64 b, .int .i64 c, .int .i64 d] 25)) u v x 27
  have U0 := gr_alloc (gr_alloc (Below.refl w.heap.size w) (.cells #[.int .i64 a, .int .i64 b, .int .i64 c, .int .i64 d] 25)) (.cells #[.int .i64 u, .int .i64 v, .int .i64 x] 27)
  simp only [World.size_alloc] at X0
  go_enter Try.func20, Try.ntmps20
  go_wp2_with fail
  refine (iIsForm_any a b c d _).mono ?_
  rintro e w1 ⟨rfl, hb1⟩
  have F1 := F0.next hb1
  have X1 := X0.next hb1
  have U1 := gr_trans U0 hb1
  clear F0 X0 U0
  by_cases h1 : isF a b c d = false
  · have k0 := fec_f (u := u) (v := v) (x := x) h1
    rw [HK.out] at k0
    subst k0
    go_wp2_with fail
    go_ret2
    exact ⟨ret_tup2 (by simp [if0]) rfl, by (repeat' (first | with_reducible exact Below.refl _ _ | with_reducible assumption | with_reducible refine gr_alloc ?_ _ | with_reducible refine gr_drew ?_ | with_reducible refine gr_drewN ?_ _ | with_reducible refine gr_trans ?_ (by assumption) | with_reducible refine gr_set ?_ ?_ _ | (simp; done) | omega | (simp; omega)))⟩
  have h1' : isF a b c d = true := by simpa using h1
  clear h1
  obtain ⟨_, x0, x1, x2, _⟩ := id X1
  go_wp2_with fail
  refine (iIsE_any u v x _).mono ?_
  rintro e w2 ⟨rfl, hb2⟩
  clear x0 x1 x2
  have F2 := F1.next hb2
  have X2 := X1.next hb2
  have U2 := gr_trans U1 hb2
  clear F1 X1 U1
  by_cases h2 : isE u v x = false
  · have k0 := fec_e (a := a) (b := b) (c := c) (d := d) h2
    rw [HK.out] at k0
    subst k0
    go_wp2_with fail
    go_ret2
    exact ⟨ret_tup2 (by simp [if0]) rfl, by (repeat' (first | with_reducible exact Below.refl _ _ | with_reducible assumption | with_reducible refine gr_alloc ?_ _ | with_reducible refine gr_drew ?_ | with_reducible refine gr_drewN ?_ _ | with_reducible refine gr_trans ?_ (by assumption) | with_reducible refine gr_set ?_ ?_ _ | (simp; done) | omega | (simp; omega)))⟩
  have h2' : isE u v x = true := by simpa using h2
  clear h2
  have k0 := fec_y h1' h2'
  rw [HK.out] at k0
  subst k0
  obtain ⟨_, a0, a1, a2, a3, _⟩ := id F2
  obtain ⟨_, x0, x1, x2, _⟩ := id X2
  go_upto_region 3 with fail
  have hz := U2.size
  go_region_held3 (fun W => W.cell? ⟨w.heap.size + 1, 0, none⟩ = some (.int .i64 u) ∧ W.cell? ⟨w.heap.size + 1, 1, none⟩ = some (.int .i64 v) ∧ W.cell? ⟨w.heap.size + 1, 2, none⟩ = some (.int .i64 x) ∧ W.cell? ⟨w.heap.size, 0, none⟩ = some (.int .i64 a) ∧ W.cell? ⟨w.heap.size, 1, none⟩ = some (.int .i64 b) ∧ W.cell? ⟨w.heap.size, 2, none⟩ = some (.int .i64 c) ∧ W.cell? ⟨w.heap.size, 3, none⟩ = some (.int .i64 d)) (refine cells43 ?_ ?_ <;> (repeat (first | with_reducible assumption | with_reducible exact Arr.box (by assumption) | with_reducible exact Box.new _ _ _ _ _ _ | with_reducible exact Arr.new _ _ _ _ _ _ | with_reducible refine Arr.drew ?_ | with_reducible refine Arr.drewN ?_ _ | with_reducible refine Arr.store4 ?_ | with_reducible refine Arr.alloc ?_ _ | with_reducible refine Box.drew ?_ | with_reducible refine Box.drewN ?_ _ | with_reducible refine Box.alloc ?_ _ | with_reducible refine Arr.next ?_ (by assumption) | with_reducible refine Box.next ?_ (by assumption) | refine Arr.oth ?_ (by first | (simp; done) | omega | (simp; omega)) _ | refine Box.oth ?_ (by first | (simp; done) | omega | (simp; omega)) _ | with_reducible exact Arr3.box (by assumption) | with_reducible exact Box3.new _ _ _ _ _ | with_reducible exact Arr3.new _ _ _ _ _ | with_reducible refine Arr3.drew ?_ | with_reducible refine Arr3.drewN ?_ _ | with_reducible refine Arr3.store3 ?_ | with_reducible refine Arr3.alloc ?_ _ | with_reducible refine Box3.drew ?_ | with_reducible refine Box3.drewN ?_ _ | with_reducible refine Box3.alloc ?_ _ | with_reducible refine Arr3.next ?_ (by assumption) | with_reducible refine Box3.next ?_ (by assumption) | refine Arr3.oth ?_ (by first | (simp; done) | omega | (simp; omega)) _ | refine Box3.oth ?_ (by first | (simp; done) | omega | (simp; omega)) _))) (first | (go_at_call 54; refine (HP.out _).mono ?_; rintro e w3 ⟨rfl, hbw3⟩; have hzw3 := hbw3.size; (try simp at hzw3)) | (go_at_call 70; refine (HM.out _).mono ?_; rintro e w4 ⟨vr, rfl, hVw4, hbw4⟩; have hzw4 := hbw4.size; (try simp at hzw4)) | (go_at_call 75; refine (iTrace_any _ M _ (by first | assumption | (refine RowsO.next (by assumption) ?_; (repeat' (first | with_reducible exact Below.refl _ _ | with_reducible assumption | with_reducible refine gr_alloc ?_ _ | with_reducible refine gr_drew ?_ | with_reducible refine gr_drewN ?_ _ | with_reducible refine gr_trans ?_ (by assumption) | with_reducible refine gr_set ?_ ?_ _ | (simp; done) | omega | (simp; omega)))))).mono ?_; rintro e w5 ⟨rfl, hbw5⟩; have hzw5 := hbw5.size; (try simp at hzw5)))
  all_goals (go_wp2_with fail; go_ret2; exact ⟨ret_tup2 (by simp [if0]) rfl, by (repeat' (first | with_reducible exact Below.refl _ _ | with_reducible assumption | with_reducible refine gr_alloc ?_ _ | with_reducible refine gr_drew ?_ | with_reducible refine gr_drewN ?_ _ | with_reducible refine gr_trans ?_ (by assumption) | with_reducible refine gr_set ?_ ?_ _ | (simp; done) | omega | (simp; omega)))⟩)

set_option maxRecDepth 100000 in
set_option maxHeartbeats 2000000 in
theorem sTraceE_any (a b c d u v x : Int) (w : World) :
    Calls Try.prog 21 #[.agg #[.int .i64 a, .int .i64 b, .int .i64 c, .int .i64 d], .agg #[.int .i64 u, .int .i64 v, .int .i64 x]] w fun e w' => e = .returned (.tuple #[.int .i64 (if0 (fec a b c d u v x) (wrap64 (tr3 (mtf a b c d u v x)))), .int .i64 (fec a b c d u v x)]) ∧ Below w.heap.size w w' := by
  have hr := fun W => sRows_any a b c d u v x W
  have hc := fun k W => sCode1_any k a b c d u v x W
  have hv : fec a b c d u v x = 0 → tr3 (mtf a b c d u v x) = trm a b c d u v x := fun h => tr_mtf (fec_0.1 h).2
  unfold trm tr9 at hv
  generalize tr3 (mtf a b c d u v x) = T at hv ⊢
  generalize m0 (np a c) (np a d) (np b d) u v x 0 1 0 = r3 at hr
  generalize m1 b 0 d u v x 0 1 0 = r4 at hr hv
  generalize m2 (ng a) 0 (ng c) u v x 0 1 0 = r5 at hr
  generalize m0 (np a c) (np a d) (np b d) u v x 0 0 1 = r6 at hr
  generalize m1 b 0 d u v x 0 0 1 = r7 at hr
  generalize m2 (ng a) 0 (ng c) u v x 0 0 1 = r8 at hr hv
  generalize fec a b c d u v x = k at hc hv ⊢
  have HR := hid hr; have HC := hid hc; have HV := hid hv
  clear hr hc hv
  have F0 := (Arr.new w a b c d 25).alloc (.cells #[.int .i64 u, .int .i64 v, .int .i64 x] 27)
  have X0 := Arr3.new (w.alloc (.cells #[.int .i64 a, .int .i64 b, .int .i64 c, .int .i64 d] 25)) u v x 27
  have U0 := gr_alloc (gr_alloc (Below.refl w.heap.size w) (.cells #[.int .i64 a, .int .i64 b, .int .i64 c, .int .i64 d] 25)) (.cells #[.int .i64 u, .int .i64 v, .int .i64 x] 27)
  simp only [World.size_alloc] at X0
  have T0 := Arr3.new ((w.alloc (.cells #[.int .i64 a, .int .i64 b, .int .i64 c, .int .i64 d] 25)).alloc (.cells #[.int .i64 u, .int .i64 v, .int .i64 x] 27)) u v x 27
  simp only [World.size_alloc] at T0
  go_enter Try.func21, Try.ntmps21
  go_wp2_with fail
  refine (HC.out _ _ T0).mono ?_
  rintro e w1 ⟨rfl, hb1⟩
  have F1 := (F0.alloc (.cells #[.int .i64 u, .int .i64 v, .int .i64 x] 27)).next hb1
  have X1 := (X0.alloc (.cells #[.int .i64 u, .int .i64 v, .int .i64 x] 27)).next hb1
  have U1 := gr_trans (gr_alloc U0 (.cells #[.int .i64 u, .int .i64 v, .int .i64 x] 27)) hb1
  clear F0 X0 U0 T0
  by_cases hk : ¬ k = 0
  · have hk' : (k == 0) = false := by simpa using hk
    have HK := hid hk
    clear hk
    go_wp2_with fail
    go_ret2
    exact ⟨ret_tup2 (by simp [if0, HK.out]) rfl, by (repeat' (first | with_reducible exact Below.refl _ _ | with_reducible assumption | with_reducible refine gr_alloc ?_ _ | with_reducible refine gr_drew ?_ | with_reducible refine gr_drewN ?_ _ | with_reducible refine gr_trans ?_ (by assumption) | with_reducible refine gr_set ?_ ?_ _ | (simp; done) | omega | (simp; omega)))⟩
  have hk0 : k = 0 := by omega
  subst hk0
  clear hk
  obtain ⟨_, a0, a1, a2, a3, _⟩ := id F1
  obtain ⟨_, x0, x1, x2, _⟩ := id X1
  go_wp2_with fail
  refine (HR.out _).mono ?_
  rintro e w2 ⟨kk, rfl, hkk, hP2, hb2⟩
  obtain ⟨_, q0, q1, q2, q3, q4, q5, q6, q7, q8⟩ := id hP2
  clear hkk x0 x1 x2 a0 a1 a2 a3
  go_wp2_with fail
  go_quiet (fail)
  go_wp2_with fail
  go_ret2
  exact ⟨ret_tup2 (by rw [HV.out (by first | rfl | trivial)]; simp [if0, wr_al]) rfl, by (repeat' (first | with_reducible exact Below.refl _ _ | with_reducible assumption | with_reducible refine gr_alloc ?_ _ | with_reducible refine gr_drew ?_ | with_reducible refine gr_drewN ?_ _ | with_reducible refine gr_trans ?_ (by assumption) | with_reducible refine gr_set ?_ ?_ _ | (simp; done) | omega | (simp; omega)))⟩

set_option maxRecDepth 100000 in
set_option maxHeartbeats 2000000 in
theorem iNormE_any (a b c d u v x : Int) (w : World) :
    Calls Try.prog 15 #[.agg #[.int .i64 a, .int .i64 b, .int .i64 c, .int .i64 d], .agg #[.int .i64 u, .int .i64 v, .int .i64 x]] w fun e w' => e = .returned (.tuple #[.int .i64 (if0 (few 100 a b c d u v x) (wrap64 (de3 (mtf a b c d u v x)))), .int .i64 (few 100 a b c d u v x)]) ∧ Below w.heap.size w w' := by
  have hp := fun W => iProducts_any a b c d W
  have hm : ∀ W, Calls Try.prog 70 #[.agg #[.int .i64 (np a c), .int .i64 b, .int .i64 (ng a), .int .i64 (np a d), .int .i64 0, .int .i64 0, .int .i64 (np b d), .int .i64 d, .int .i64 (ng c)], .agg #[.int .i64 u, .int .i64 v, .int .i64 x]] W (RowsOut (mtf a b c d u v x) W) := fun W => iMatrix_any (np a c) b (ng a) (np a d) 0 0 (np b d) d (ng c) u v x W
  have hc := fun W => iWithinFE_any 100 a b c d u v x W (by omega) (by omega)
  have hB : few 100 a b c d u v x = 0 → ∀ i j, -1000000000000 ≤ mtf a b c d u v x i j ∧ mtf a b c d u v x i j ≤ 1000000000000 := fun h => mtf_bd (few_t h).1 (few_t h).2.1
  generalize mtf a b c d u v x = M at hm hB ⊢
  generalize np a c = t0 at hp hm
  generalize ng a = t2 at hp hm
  generalize np a d = t3 at hp hm
  generalize np b d = t6 at hp hm
  generalize ng c = t8 at hp hm
  generalize few 100 a b c d u v x = k at hc hB ⊢
  have HP := hid hp; have HM := hid hm; have HC := hid hc; have HB := hid hB
  clear hp hm hc hB
  have F0 := (Arr.new w a b c d 25).alloc (.cells #[.int .i64 u, .int .i64 v, .int .i64 x] 27)
  have X0 := Arr3.new (w.alloc (.cells #[.int .i64 a, .int .i64 b, .int .i64 c, .int .i64 d] 25)) u v x 27
  have U0 := gr_alloc (gr_alloc (Below.refl w.heap.size w) (.cells #[.int .i64 a, .int .i64 b, .int .i64 c, .int .i64 d] 25)) (.cells #[.int .i64 u, .int .i64 v, .int .i64 x] 27)
  simp only [World.size_alloc] at X0
  go_enter Try.func15, Try.ntmps15
  go_wp2_with fail
  refine (HC.out _).mono ?_
  rintro e w1 ⟨rfl, hb1⟩
  have F1 := F0.next hb1
  have X1 := X0.next hb1
  have U1 := gr_trans U0 hb1
  clear F0 X0 U0
  by_cases hk : ¬ k = 0
  · have hk' : (k == 0) = false := by simpa using hk
    have HK := hid hk
    clear hk
    go_wp2_with fail
    go_ret2
    exact ⟨ret_tup2 (by simp [if0, HK.out]) rfl, by (repeat' (first | with_reducible exact Below.refl _ _ | with_reducible assumption | with_reducible refine gr_alloc ?_ _ | with_reducible refine gr_drew ?_ | with_reducible refine gr_drewN ?_ _ | with_reducible refine gr_trans ?_ (by assumption) | with_reducible refine gr_set ?_ ?_ _ | (simp; done) | omega | (simp; omega)))⟩
  have hk0 : k = 0 := by omega
  subst hk0
  clear hk
  obtain ⟨_, a0, a1, a2, a3, _⟩ := id F1
  obtain ⟨_, x0, x1, x2, _⟩ := id X1
  have HBB : Hid (∀ i j, -1000000000000 ≤ M i j ∧ M i j ≤ 1000000000000) := hid (HB.out (by first | rfl | trivial))
  go_upto_region 4 with fail
  have hz := U1.size
  go_region_held3 (fun W => W.cell? ⟨w.heap.size + 1, 0, none⟩ = some (.int .i64 u) ∧ W.cell? ⟨w.heap.size + 1, 1, none⟩ = some (.int .i64 v) ∧ W.cell? ⟨w.heap.size + 1, 2, none⟩ = some (.int .i64 x) ∧ W.cell? ⟨w.heap.size, 0, none⟩ = some (.int .i64 a) ∧ W.cell? ⟨w.heap.size, 1, none⟩ = some (.int .i64 b) ∧ W.cell? ⟨w.heap.size, 2, none⟩ = some (.int .i64 c) ∧ W.cell? ⟨w.heap.size, 3, none⟩ = some (.int .i64 d)) (refine cells43 ?_ ?_ <;> (repeat (first | with_reducible assumption | with_reducible exact Arr.box (by assumption) | with_reducible exact Box.new _ _ _ _ _ _ | with_reducible exact Arr.new _ _ _ _ _ _ | with_reducible refine Arr.drew ?_ | with_reducible refine Arr.drewN ?_ _ | with_reducible refine Arr.store4 ?_ | with_reducible refine Arr.alloc ?_ _ | with_reducible refine Box.drew ?_ | with_reducible refine Box.drewN ?_ _ | with_reducible refine Box.alloc ?_ _ | with_reducible refine Arr.next ?_ (by assumption) | with_reducible refine Box.next ?_ (by assumption) | refine Arr.oth ?_ (by first | (simp; done) | omega | (simp; omega)) _ | refine Box.oth ?_ (by first | (simp; done) | omega | (simp; omega)) _ | with_reducible exact Arr3.box (by assumption) | with_reducible exact Box3.new _ _ _ _ _ | with_reducible exact Arr3.new _ _ _ _ _ | with_reducible refine Arr3.drew ?_ | with_reducible refine Arr3.drewN ?_ _ | with_reducible refine Arr3.store3 ?_ | with_reducible refine Arr3.alloc ?_ _ | with_reducible refine Box3.drew ?_ | with_reducible refine Box3.drewN ?_ _ | with_reducible refine Box3.alloc ?_ _ | with_reducible refine Arr3.next ?_ (by assumption) | with_reducible refine Box3.next ?_ (by assumption) | refine Arr3.oth ?_ (by first | (simp; done) | omega | (simp; omega)) _ | refine Box3.oth ?_ (by first | (simp; done) | omega | (simp; omega)) _))) (first | (go_at_call 54; refine (HP.out _).mono ?_; rintro e w3 ⟨rfl, hbw3⟩; have hzw3 := hbw3.size; (try simp at hzw3)) | (go_at_call 70; refine (HM.out _).mono ?_; rintro e w4 ⟨vr, rfl, hVw4, hbw4⟩; have hzw4 := hbw4.size; (try simp at hzw4)) | (go_at_call 69; refine (D3.iDet3_any M _ _ (RowsO.rows3 (B := w3.heap.size) (by first | assumption | (refine RowsO.next (by assumption) ?_; (repeat' (first | with_reducible exact Below.refl _ _ | with_reducible assumption | with_reducible refine gr_alloc ?_ _ | with_reducible refine gr_drew ?_ | with_reducible refine gr_drewN ?_ _ | with_reducible refine gr_trans ?_ (by assumption) | with_reducible refine gr_set ?_ ?_ _ | (simp; done) | omega | (simp; omega)))))) HBB.out).mono ?_; rintro e w5 ⟨rfl, hbw5⟩; have hzw5 := hbw5.size; (try simp at hzw5)))
  all_goals (go_wp2_with fail; go_ret2; exact ⟨ret_tup2 (by simp [if0, DS_3]) rfl, by (repeat' (first | with_reducible exact Below.refl _ _ | with_reducible assumption | with_reducible refine gr_alloc ?_ _ | with_reducible refine gr_drew ?_ | with_reducible refine gr_drewN ?_ _ | with_reducible refine gr_trans ?_ (by assumption) | with_reducible refine gr_set ?_ ?_ _ | (simp; done) | omega | (simp; omega)))⟩)

set_option maxRecDepth 100000 in
set_option maxHeartbeats 2000000 in
theorem sNormE_any (a b c d u v x : Int) (w : World) :
    Calls Try.prog 16 #[.agg #[.int .i64 a, .int .i64 b, .int .i64 c, .int .i64 d], .agg #[.int .i64 u, .int .i64 v, .int .i64 x]] w fun e w' => e = .returned (.tuple #[.int .i64 (if0 (few 100 a b c d u v x) (wrap64 (de3 (mtf a b c d u v x)))), .int .i64 (few 100 a b c d u v x)]) ∧ Below w.heap.size w w' := by
  have hn : ∀ W, Calls Try.prog 72 #[.agg #[.int .i64 a, .int .i64 b, .int .i64 c, .int .i64 d], .agg #[.int .i64 u, .int .i64 v, .int .i64 x]] W fun e w' => e = .returned (.int .i64 (wrap64 (dem a b c d u v x))) ∧ Below W.heap.size W w' := fun W => sNorm0_any a b c d u v x W
  have hc := fun W => sWithin_any 100 a b c d u v x W (by omega) (by omega)
  have hv : few 100 a b c d u v x = 0 → wrap64 (de3 (mtf a b c d u v x)) = wrap64 (dem a b c d u v x) ∧ rng (-1000000000000000) 1000000000000000 (wrap64 (dem a b c d u v x)) = true := fun h => by
    have hb := dem_bd (few_t h).2.2.1 (few_t h).2.2.2
    exact ⟨by rw [de_mtf (few_t h).2.1], by rw [wr_in (by omega)]; exact rng_mk hb.1 hb.2⟩
  generalize wrap64 (de3 (mtf a b c d u v x)) = T at hv ⊢
  generalize wrap64 (dem a b c d u v x) = N at hn hv
  generalize few 100 a b c d u v x = k at hc hv ⊢
  have HN := hid hn; have HC := hid hc; have HV := hid hv
  clear hn hc hv
  have F0 := (Arr.new w a b c d 25).alloc (.cells #[.int .i64 u, .int .i64 v, .int .i64 x] 27)
  have X0 := Arr3.new (w.alloc (.cells #[.int .i64 a, .int .i64 b, .int .i64 c, .int .i64 d] 25)) u v x 27
  have U0 := gr_alloc (gr_alloc (Below.refl w.heap.size w) (.cells #[.int .i64 a, .int .i64 b, .int .i64 c, .int .i64 d] 25)) (.cells #[.int .i64 u, .int .i64 v, .int .i64 x] 27)
  simp only [World.size_alloc] at X0
  go_enter Try.func16, Try.ntmps16
  go_wp2_with fail
  refine (HC.out _).mono ?_
  rintro e w1 ⟨rfl, hb1⟩
  have F1 := F0.next hb1
  have X1 := X0.next hb1
  have U1 := gr_trans U0 hb1
  clear F0 X0 U0
  by_cases hk : ¬ k = 0
  · have hk' : (k == 0) = false := by simpa using hk
    have HK := hid hk
    clear hk
    go_wp2_with fail
    go_ret2
    exact ⟨ret_tup2 (by simp [if0, HK.out]) rfl, by (repeat' (first | with_reducible exact Below.refl _ _ | with_reducible assumption | with_reducible refine gr_alloc ?_ _ | with_reducible refine gr_drew ?_ | with_reducible refine gr_drewN ?_ _ | with_reducible refine gr_trans ?_ (by assumption) | with_reducible refine gr_set ?_ ?_ _ | (simp; done) | omega | (simp; omega)))⟩
  have hk0 : k = 0 := by omega
  subst hk0
  clear hk
  obtain ⟨_, a0, a1, a2, a3, _⟩ := id F1
  obtain ⟨_, x0, x1, x2, _⟩ := id X1
  obtain ⟨hTN, hrg⟩ := HV.out (by first | rfl | trivial)
  have HTN := hid hTN
  clear hTN
  go_wp2_with fail
  refine (HN.out _).mono ?_
  rintro e w2 ⟨rfl, hb2⟩
  go_wp2_with fail
  refine (l01In_any _ _ _ _).mono ?_
  rintro e w3 ⟨rfl, rfl⟩
  go_wp2_with fail
  go_ret2
  exact ⟨ret_tup2 (by rw [HTN.out]; simp [if0]) rfl, by (repeat' (first | with_reducible exact Below.refl _ _ | with_reducible assumption | with_reducible refine gr_alloc ?_ _ | with_reducible refine gr_drew ?_ | with_reducible refine gr_drewN ?_ _ | with_reducible refine gr_trans ?_ (by assumption) | with_reducible refine gr_set ?_ ?_ _ | (simp; done) | omega | (simp; omega)))⟩


end Go.Proofs.Ytambbhldhhlfgaa
