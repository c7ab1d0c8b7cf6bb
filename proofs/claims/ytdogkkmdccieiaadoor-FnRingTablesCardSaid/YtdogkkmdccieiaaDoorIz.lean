/- Chapter 4: inverses of units, the model's. -/
import Derived.Test.YtdogkkmdccieiaaDoorZ17
import Derived.BigRegion
namespace Go.Proofs.YtdogkkmdccieiaaDoor
open Go.RowKit

theorem ivn_s (y3 S P1 u P2 e : Int) : wrap64 (wrap64 (-y3) * wrap64 (wrap64 (S + wrap64 (P1 * u)) + P2 * e)) = ivn (wrap64 (-y3)) S P1 u P2 e := by
  simp only [ivn, wr_mr, wr_ml, wr_al, wr_ar]
theorem ivn_s1 (y3 S P1 u P2 : Int) : wrap64 (wrap64 (-y3) * wrap64 (wrap64 (S + wrap64 (P1 * u)) + P2)) = ivn (wrap64 (-y3)) S P1 u P2 1 := by
  rw [← ivn_s]; simp only [Int.mul_one]
theorem ivn_s0 (y3 S P1 u P2 : Int) : wrap64 (wrap64 (-y3) * wrap64 (S + wrap64 (P1 * u))) = ivn (wrap64 (-y3)) S P1 u P2 0 := by
  simp only [ivn, wr_mr, wr_ml, wr_ar, Int.mul_zero, Int.add_zero]

theorem cells43' {W : World} {kf kx : Nat} {a b c d u v x : Int} (F : Arr W kf a b c d) (X : Arr3 W kx u v x) :
    W.cell? ⟨kf, 0, none⟩ = some (.int .i64 a) ∧ W.cell? ⟨kf, 1, none⟩ = some (.int .i64 b) ∧ W.cell? ⟨kf, 2, none⟩ = some (.int .i64 c) ∧ W.cell? ⟨kf, 3, none⟩ = some (.int .i64 d) ∧ W.cell? ⟨kx, 0, none⟩ = some (.int .i64 u) ∧ W.cell? ⟨kx, 1, none⟩ = some (.int .i64 v) ∧ W.cell? ⟨kx, 2, none⟩ = some (.int .i64 x) :=
  ⟨F.c0, F.c1, F.c2, F.c3, X.c0, X.c1, X.c2⟩

theorem cells334 {W : World} {g kx kk : Nat} {a b c u v x p q r t : Int} (S : Arr3 W g a b c) (X : Arr3 W kx u v x) (P : Arr W kk p q r t) :
    W.cell? ⟨g, 0, none⟩ = some (.int .i64 a) ∧ W.cell? ⟨g, 1, none⟩ = some (.int .i64 b) ∧ W.cell? ⟨g, 2, none⟩ = some (.int .i64 c) ∧ W.cell? ⟨kx, 0, none⟩ = some (.int .i64 u) ∧ W.cell? ⟨kx, 1, none⟩ = some (.int .i64 v) ∧ W.cell? ⟨kx, 2, none⟩ = some (.int .i64 x) ∧ W.cell? ⟨kk, 0, none⟩ = some (.int .i64 p) ∧ W.cell? ⟨kk, 1, none⟩ = some (.int .i64 q) ∧ W.cell? ⟨kk, 2, none⟩ = some (.int .i64 r) ∧ W.cell? ⟨kk, 3, none⟩ = some (.int .i64 t) :=
  ⟨S.c0, S.c1, S.c2, X.c0, X.c1, X.c2, P.c0, P.c1, P.c2, P.c3⟩

set_option maxRecDepth 100000 in
set_option maxHeartbeats 4000000 in
theorem sInverseElem_any (a b c d u v x : Int) (w : World) :
    Calls Tryd.prog 11 #[.agg #[.int .i64 a, .int .i64 b, .int .i64 c, .int .i64 d], .agg #[.int .i64 u, .int .i64 v, .int .i64 x]] w fun e w' =>
      e = .returned (.tuple #[.agg #[.int .i64 (if0 (ivc a b c d u v x) (iv0 a b c d u v x)), .int .i64 (if0 (ivc a b c d u v x) (iv1 a b c d u v x)), .int .i64 (if0 (ivc a b c d u v x) (iv2 a b c d u v x))], .int .i64 (ivc a b c d u v x)]) ∧ Below w.heap.size w w' := by
  have hc := fun W => sWithin_any 100 a b c d u v x W (by omega) (by omega)
  have hn : ∀ W, Calls Tryd.prog 56 #[.agg #[.int .i64 a, .int .i64 b, .int .i64 c, .int .i64 d], .agg #[.int .i64 u, .int .i64 v, .int .i64 x]] W (PolOut (wrap64 (-trm a b c d u v x)) (wrap64 (mim a b c d u v x)) (wrap64 (-dem a b c d u v x)) W) := fun W => sPoly_any a b c d u v x W
  have ht := fun W => sTable_any a b c d W
  have hm := fun k cap W => sBy_any k cap (np a c) b (ng a) (np a d) 0 0 (np b d) d (ng c) u v x u v x W
  have hl := fun r0 r1 r2 W => sTold_any r0 r1 r2 W
  have hv : few 100 a b c d u v x = 0 → (wrap64 (-tr3 (mtf a b c d u v x)) = wrap64 (-trm a b c d u v x) ∧ wrap64 (mi3 (mtf a b c d u v x)) = wrap64 (mim a b c d u v x) ∧ wrap64 (-de3 (mtf a b c d u v x)) = wrap64 (-dem a b c d u v x)) ∧ ((wrap64 (-(wrap64 (-dem a b c d u v x))) = 1 ∨ wrap64 (-(wrap64 (-dem a b c d u v x))) = -1) ↔ (wrap64 (-dem a b c d u v x) = 1 ∨ wrap64 (-dem a b c d u v x) = -1)) := fun h => by
    have hb := dem_bd (few_t h).2.2.1 (few_t h).2.2.2
    refine ⟨⟨by rw [tr_mtf (few_t h).2.1], by rw [mi_mtf (few_t h).2.1], by rw [de_mtf (few_t h).2.1]⟩, ?_⟩
    rw [wr_in (x := -dem a b c d u v x) (by omega), wr_in (by omega)]
    omega
  unfold ivc iv0 iv1 iv2 ivN
  generalize m0 (np a c) (np a d) (np b d) u v x u v x = S0 at hm ⊢
  generalize m1 b 0 d u v x u v x = S1 at hm ⊢
  generalize m2 (ng a) 0 (ng c) u v x u v x = S2 at hm ⊢
  generalize np a c = t0 at ht hm
  generalize ng a = t2 at ht hm
  generalize np a d = t3 at ht hm
  generalize np b d = t6 at ht hm
  generalize ng c = t8 at ht hm
  generalize wrap64 (-tr3 (mtf a b c d u v x)) = T1 at hv ⊢
  generalize wrap64 (mi3 (mtf a b c d u v x)) = T2 at hv ⊢
  generalize wrap64 (-de3 (mtf a b c d u v x)) = T3 at hv ⊢
  generalize wrap64 (-trm a b c d u v x) = y1 at hn hv
  generalize wrap64 (mim a b c d u v x) = y2 at hn hv
  generalize wrap64 (-dem a b c d u v x) = y3 at hn hv
  generalize few 100 a b c d u v x = k at hc hv ⊢
  generalize hR0 : ivn (wrap64 (-T3)) S0 T1 u T2 1 = R0
  generalize hR1 : ivn (wrap64 (-T3)) S1 T1 v T2 0 = R1
  generalize hR2 : ivn (wrap64 (-T3)) S2 T1 x T2 0 = R2
  generalize hKK : ivK k (wrap64 (-T3)) (elc R0 R1 R2) = K
  have HKK := hid hKK; have HR0 := hid hR0; have HR1 := hid hR1; have HR2 := hid hR2
  clear hKK hR0 hR1 hR2
  have HC := hid hc; have HN := hid hn; have HV := hid hv; have HT := hid ht; have HM := hid hm; have HL := hid hl
  clear hc hn hv ht hm hl
  have F0 := ((Arr.new w a b c d 25).alloc (.cells #[.int .i64 u, .int .i64 v, .int .i64 x] 27)).alloc (.cells #[.int .i64 0, .int .i64 0, .int .i64 0] 27)
  have X0 := (Arr3.new (w.alloc (.cells #[.int .i64 a, .int .i64 b, .int .i64 c, .int .i64 d] 25)) u v x 27).alloc (.cells #[.int .i64 0, .int .i64 0, .int .i64 0] 27)
  have Z0 := Arr3.new ((w.alloc (.cells #[.int .i64 a, .int .i64 b, .int .i64 c, .int .i64 d] 25)).alloc (.cells #[.int .i64 u, .int .i64 v, .int .i64 x] 27)) 0 0 0 27
  have U0 := gr_alloc (gr_alloc (gr_alloc (Below.refl w.heap.size w) (.cells #[.int .i64 a, .int .i64 b, .int .i64 c, .int .i64 d] 25)) (.cells #[.int .i64 u, .int .i64 v, .int .i64 x] 27)) (.cells #[.int .i64 0, .int .i64 0, .int .i64 0] 27)
  simp only [World.size_alloc] at X0 Z0
  go_enter Tryd.func11, Tryd.ntmps11
  go_wp2_with fail
  refine (HC.out _).mono ?_
  rintro e w1 ⟨rfl, hb1⟩
  have F1 := F0.next hb1
  have X1 := X0.next hb1
  have Z1 := Z0.next hb1
  have U1 := gr_trans U0 hb1
  clear F0 X0 Z0 U0
  by_cases hk : ¬ k = 0
  · obtain ⟨_, r0', r1', r2', f0, f1, f2⟩ := id Z1
    have HK := hid hk
    have hk' : (k != 0) = true := by simpa using hk
    clear hk
    go_wp2_with fail
    refine bodyPost_ret (res_A3 (e := 2) rfl Tryd.underlying27 (by kernel_rfl) rfl (by (repeat (first | with_reducible assumption | with_reducible exact Arr3.box (by assumption) | with_reducible exact Arr3.new _ _ _ _ _ | with_reducible refine Arr3.drew ?_ | with_reducible refine Arr3.drewN ?_ _ | with_reducible refine Arr3.store3 ?_ | with_reducible refine Arr3.alloc ?_ _ | with_reducible refine Arr3.next ?_ (by assumption) | refine Arr3.oth ?_ (by first | (simp; done) | omega | (simp; omega)) _ )))) rfl ?_
    rw [← HKK.out, ivK_n HK.out]
    exact ⟨ret_t3 (by simp [if0, HK.out]) (by simp [if0, HK.out]) (by simp [if0, HK.out]) rfl, by (repeat' (first | with_reducible exact Below.refl _ _ | with_reducible assumption | with_reducible refine gr_alloc ?_ _ | with_reducible refine gr_drew ?_ | with_reducible refine gr_drewN ?_ _ | with_reducible refine gr_trans ?_ (by assumption) | with_reducible refine gr_set ?_ ?_ _ | (simp; done) | omega | (simp; omega)))⟩
  have hk0 : k = 0 := by omega
  subst hk0
  clear hk
  obtain ⟨⟨e1, e2, e3⟩, hu3⟩ := HV.out (by first | rfl | trivial)
  subst e1 e2 e3
  obtain ⟨_, a0, a1, a2, a3, _⟩ := id F1
  obtain ⟨_, x0, x1, x2, _⟩ := id X1
  have hz := U1.size
  have hzr := Z1.lt
  go_wp2_with fail
  refine (HN.out _).mono ?_
  rintro e w2 ⟨kk, rfl, hkk, hG, hb2⟩
  have F2 := F1.next hb2
  have X2 := X1.next hb2
  have Z2 := Z1.next hb2
  have U2 := gr_trans U1 hb2
  clear a0 a1 a2 a3 x0 x1 x2 F1 X1 Z1 U1
  obtain ⟨hkl, q0, q1, q2, q3, _⟩ := id hG
  by_cases hu : ¬ (T3 = 1 ∨ T3 = -1)
  · have h5 := hid (ivK_5 (N := wrap64 (-T3)) (e := elc R0 R1 R2) (fun h => hu (hu3.1 h)))
    have n1 : (T3 != 1) = true := by simp only [bne_iff_ne, ne_eq]; exact fun h => hu (.inl h)
    have n2 : (T3 != -1) = true := by simp only [bne_iff_ne, ne_eq]; exact fun h => hu (.inr h)
    clear hu hu3 HV
    obtain ⟨_, r0', r1', r2', f0, f1, f2⟩ := id Z2
    go_wp2_with fail
    refine bodyPost_ret (res_A3 (e := 2) rfl Tryd.underlying27 (by kernel_rfl) rfl (by (repeat (first | with_reducible assumption | with_reducible exact Arr3.box (by assumption) | with_reducible exact Arr3.new _ _ _ _ _ | with_reducible refine Arr3.drew ?_ | with_reducible refine Arr3.drewN ?_ _ | with_reducible refine Arr3.store3 ?_ | with_reducible refine Arr3.alloc ?_ _ | with_reducible refine Arr3.next ?_ (by assumption) | refine Arr3.oth ?_ (by first | (simp; done) | omega | (simp; omega)) _ )))) rfl ?_
    rw [← HKK.out, h5.out]
    exact ⟨ret_t3 (by simp [if0]) (by simp [if0]) (by simp [if0]) rfl, by (repeat' (first | with_reducible exact Below.refl _ _ | with_reducible assumption | with_reducible refine gr_alloc ?_ _ | with_reducible refine gr_drew ?_ | with_reducible refine gr_drewN ?_ _ | with_reducible refine gr_trans ?_ (by assumption) | with_reducible refine gr_set ?_ ?_ _ | (simp; done) | omega | (simp; omega)))⟩
  have hu' : T3 = 1 ∨ T3 = -1 := by omega
  have HN1 := hid (ivK_u (e := elc R0 R1 R2) (hu3.2 hu'))
  have hcase : ((T3 != 1) = false) ∨ ((T3 != 1) = true ∧ (T3 != -1) = false) := by
    rcases hu' with h | h
    · exact .inl (by simp [h])
    · exact .inr ⟨by simp [h], by simp [h]⟩
  clear hu hu' hu3 HV
  have hz2 := U2.size
  have hzr2 := Z2.lt
  -- the rest, from the region of the square on, the same for both units
  rcases hcase with n1 | ⟨n1, n2⟩
  all_goals
    go_upto_region 7 with fail
    obtain ⟨_, a0, a1, a2, a3, _⟩ := id F2
    obtain ⟨_, x0, x1, x2, _⟩ := id X2
    go_cut [8] (fun s8 wx => ∃ g : Nat, s8 = .pointer (some ⟨g, 0, none⟩) ∧ w.heap.size + 1 + 1 < g ∧ g ≠ kk ∧ Arr3 wx g S0 S1 S2 ∧ Arr wx kk 1 T1 T2 T3 ∧ Arr3 wx (w.heap.size + 1) u v x ∧ Arr3 wx (w.heap.size + 1 + 1) 0 0 0 ∧ Below w.heap.size w wx)
    case first =>
      go_region_held3 (fun W => W.cell? ⟨w.heap.size, 0, none⟩ = some (.int .i64 a) ∧ W.cell? ⟨w.heap.size, 1, none⟩ = some (.int .i64 b) ∧ W.cell? ⟨w.heap.size, 2, none⟩ = some (.int .i64 c) ∧ W.cell? ⟨w.heap.size, 3, none⟩ = some (.int .i64 d) ∧ W.cell? ⟨w.heap.size + 1, 0, none⟩ = some (.int .i64 u) ∧ W.cell? ⟨w.heap.size + 1, 1, none⟩ = some (.int .i64 v) ∧ W.cell? ⟨w.heap.size + 1, 2, none⟩ = some (.int .i64 x)) (refine cells43' ?_ ?_ <;> (repeat (first | with_reducible assumption | with_reducible exact Arr.box (by assumption) | with_reducible exact Box.new _ _ _ _ _ _ | with_reducible exact Arr.new _ _ _ _ _ _ | with_reducible refine Arr.drew ?_ | with_reducible refine Arr.drewN ?_ _ | with_reducible refine Arr.store4 ?_ | with_reducible refine Arr.alloc ?_ _ | with_reducible refine Box.drew ?_ | with_reducible refine Box.drewN ?_ _ | with_reducible refine Box.alloc ?_ _ | with_reducible refine Arr.next ?_ (by assumption) | with_reducible refine Box.next ?_ (by assumption) | refine Arr.oth ?_ (by first | (simp; done) | omega | (simp; omega)) _ | refine Box.oth ?_ (by first | (simp; done) | omega | (simp; omega)) _ | with_reducible exact Arr3.box (by assumption) | with_reducible exact Box3.new _ _ _ _ _ | with_reducible exact Arr3.new _ _ _ _ _ | with_reducible refine Arr3.drew ?_ | with_reducible refine Arr3.drewN ?_ _ | with_reducible refine Arr3.store3 ?_ | with_reducible refine Arr3.alloc ?_ _ | with_reducible refine Box3.drew ?_ | with_reducible refine Box3.drewN ?_ _ | with_reducible refine Box3.alloc ?_ _ | with_reducible refine Arr3.next ?_ (by assumption) | with_reducible refine Box3.next ?_ (by assumption) | refine Arr3.oth ?_ (by first | (simp; done) | omega | (simp; omega)) _ | refine Box3.oth ?_ (by first | (simp; done) | omega | (simp; omega)) _))) (first | (go_at_call 58; refine (HT.out _).mono ?_; rintro e w4 ⟨kt, rfl, hkt, hP4, hb4⟩; have hz4 := hb4.size; (try simp at hz4)) | (go_at_call 57; refine (HM.out _ _ _ (by (repeat (first | with_reducible assumption | with_reducible exact Arr9.new _ _ _ _ _ _ _ _ _ _ _ | with_reducible refine Arr9.drew ?_ | with_reducible refine Arr9.drewN ?_ _ | with_reducible refine Arr9.alloc ?_ _ | with_reducible refine Arr9.next ?_ (by assumption))))).mono ?_; rintro e w5 ⟨rfl, hb5⟩; have hz5 := hb5.size; (try simp at hz5); (first | (refine Box3.elim (w := w5) (k := w2.heap.size) ?_ ?_; (repeat (first | with_reducible assumption | with_reducible exact Arr.box (by assumption) | with_reducible exact Box.new _ _ _ _ _ _ | with_reducible exact Arr.new _ _ _ _ _ _ | with_reducible refine Arr.drew ?_ | with_reducible refine Arr.drewN ?_ _ | with_reducible refine Arr.store4 ?_ | with_reducible refine Arr.alloc ?_ _ | with_reducible refine Box.drew ?_ | with_reducible refine Box.drewN ?_ _ | with_reducible refine Box.alloc ?_ _ | with_reducible refine Arr.next ?_ (by assumption) | with_reducible refine Box.next ?_ (by assumption) | refine Arr.oth ?_ (by first | (simp; done) | omega | (simp; omega)) _ | refine Box.oth ?_ (by first | (simp; done) | omega | (simp; omega)) _ | with_reducible exact Arr3.box (by assumption) | with_reducible exact Box3.new _ _ _ _ _ | with_reducible exact Arr3.new _ _ _ _ _ | with_reducible refine Arr3.drew ?_ | with_reducible refine Arr3.drewN ?_ _ | with_reducible refine Arr3.store3 ?_ | with_reducible refine Arr3.alloc ?_ _ | with_reducible refine Box3.drew ?_ | with_reducible refine Box3.drewN ?_ _ | with_reducible refine Box3.alloc ?_ _ | with_reducible refine Arr3.next ?_ (by assumption) | with_reducible refine Box3.next ?_ (by assumption) | refine Arr3.oth ?_ (by first | (simp; done) | omega | (simp; omega)) _ | refine Box3.oth ?_ (by first | (simp; done) | omega | (simp; omega)) _)); intro y0 y1 y2 hR; obtain ⟨_, xx0, xx1, xx2, g0, g1, g2⟩ := id hR) | (refine Box3.elim (w := w5) (k := w4.heap.size) ?_ ?_; (repeat (first | with_reducible assumption | with_reducible exact Arr.box (by assumption) | with_reducible exact Box.new _ _ _ _ _ _ | with_reducible exact Arr.new _ _ _ _ _ _ | with_reducible refine Arr.drew ?_ | with_reducible refine Arr.drewN ?_ _ | with_reducible refine Arr.store4 ?_ | with_reducible refine Arr.alloc ?_ _ | with_reducible refine Box.drew ?_ | with_reducible refine Box.drewN ?_ _ | with_reducible refine Box.alloc ?_ _ | with_reducible refine Arr.next ?_ (by assumption) | with_reducible refine Box.next ?_ (by assumption) | refine Arr.oth ?_ (by first | (simp; done) | omega | (simp; omega)) _ | refine Box.oth ?_ (by first | (simp; done) | omega | (simp; omega)) _ | with_reducible exact Arr3.box (by assumption) | with_reducible exact Box3.new _ _ _ _ _ | with_reducible exact Arr3.new _ _ _ _ _ | with_reducible refine Arr3.drew ?_ | with_reducible refine Arr3.drewN ?_ _ | with_reducible refine Arr3.store3 ?_ | with_reducible refine Arr3.alloc ?_ _ | with_reducible refine Box3.drew ?_ | with_reducible refine Box3.drewN ?_ _ | with_reducible refine Box3.alloc ?_ _ | with_reducible refine Arr3.next ?_ (by assumption) | with_reducible refine Box3.next ?_ (by assumption) | refine Arr3.oth ?_ (by first | (simp; done) | omega | (simp; omega)) _ | refine Box3.oth ?_ (by first | (simp; done) | omega | (simp; omega)) _)); intro y0 y1 y2 hR; obtain ⟨_, xx0, xx1, xx2, g0, g1, g2⟩ := id hR) | skip)))
      all_goals (go_wp2_with fail; go_meet; exact ⟨_, rfl, by first | omega | (simp; omega), by first | omega | (simp; omega), by (repeat (first | with_reducible assumption | with_reducible exact Arr.box (by assumption) | with_reducible exact Box.new _ _ _ _ _ _ | with_reducible exact Arr.new _ _ _ _ _ _ | with_reducible refine Arr.drew ?_ | with_reducible refine Arr.drewN ?_ _ | with_reducible refine Arr.store4 ?_ | with_reducible refine Arr.alloc ?_ _ | with_reducible refine Box.drew ?_ | with_reducible refine Box.drewN ?_ _ | with_reducible refine Box.alloc ?_ _ | with_reducible refine Arr.next ?_ (by assumption) | with_reducible refine Box.next ?_ (by assumption) | refine Arr.oth ?_ (by first | (simp; done) | omega | (simp; omega)) _ | refine Box.oth ?_ (by first | (simp; done) | omega | (simp; omega)) _ | with_reducible exact Arr3.box (by assumption) | with_reducible exact Box3.new _ _ _ _ _ | with_reducible exact Arr3.new _ _ _ _ _ | with_reducible refine Arr3.drew ?_ | with_reducible refine Arr3.drewN ?_ _ | with_reducible refine Arr3.store3 ?_ | with_reducible refine Arr3.alloc ?_ _ | with_reducible refine Box3.drew ?_ | with_reducible refine Box3.drewN ?_ _ | with_reducible refine Box3.alloc ?_ _ | with_reducible refine Arr3.next ?_ (by assumption) | with_reducible refine Box3.next ?_ (by assumption) | refine Arr3.oth ?_ (by first | (simp; done) | omega | (simp; omega)) _ | refine Box3.oth ?_ (by first | (simp; done) | omega | (simp; omega)) _)), by (repeat (first | with_reducible assumption | with_reducible exact Arr.box (by assumption) | with_reducible exact Box.new _ _ _ _ _ _ | with_reducible exact Arr.new _ _ _ _ _ _ | with_reducible refine Arr.drew ?_ | with_reducible refine Arr.drewN ?_ _ | with_reducible refine Arr.store4 ?_ | with_reducible refine Arr.alloc ?_ _ | with_reducible refine Box.drew ?_ | with_reducible refine Box.drewN ?_ _ | with_reducible refine Box.alloc ?_ _ | with_reducible refine Arr.next ?_ (by assumption) | with_reducible refine Box.next ?_ (by assumption) | refine Arr.oth ?_ (by first | (simp; done) | omega | (simp; omega)) _ | refine Box.oth ?_ (by first | (simp; done) | omega | (simp; omega)) _ | with_reducible exact Arr3.box (by assumption) | with_reducible exact Box3.new _ _ _ _ _ | with_reducible exact Arr3.new _ _ _ _ _ | with_reducible refine Arr3.drew ?_ | with_reducible refine Arr3.drewN ?_ _ | with_reducible refine Arr3.store3 ?_ | with_reducible refine Arr3.alloc ?_ _ | with_reducible refine Box3.drew ?_ | with_reducible refine Box3.drewN ?_ _ | with_reducible refine Box3.alloc ?_ _ | with_reducible refine Arr3.next ?_ (by assumption) | with_reducible refine Box3.next ?_ (by assumption) | refine Arr3.oth ?_ (by first | (simp; done) | omega | (simp; omega)) _ | refine Box3.oth ?_ (by first | (simp; done) | omega | (simp; omega)) _)), by (repeat (first | with_reducible assumption | with_reducible exact Arr.box (by assumption) | with_reducible exact Box.new _ _ _ _ _ _ | with_reducible exact Arr.new _ _ _ _ _ _ | with_reducible refine Arr.drew ?_ | with_reducible refine Arr.drewN ?_ _ | with_reducible refine Arr.store4 ?_ | with_reducible refine Arr.alloc ?_ _ | with_reducible refine Box.drew ?_ | with_reducible refine Box.drewN ?_ _ | with_reducible refine Box.alloc ?_ _ | with_reducible refine Arr.next ?_ (by assumption) | with_reducible refine Box.next ?_ (by assumption) | refine Arr.oth ?_ (by first | (simp; done) | omega | (simp; omega)) _ | refine Box.oth ?_ (by first | (simp; done) | omega | (simp; omega)) _ | with_reducible exact Arr3.box (by assumption) | with_reducible exact Box3.new _ _ _ _ _ | with_reducible exact Arr3.new _ _ _ _ _ | with_reducible refine Arr3.drew ?_ | with_reducible refine Arr3.drewN ?_ _ | with_reducible refine Arr3.store3 ?_ | with_reducible refine Arr3.alloc ?_ _ | with_reducible refine Box3.drew ?_ | with_reducible refine Box3.drewN ?_ _ | with_reducible refine Box3.alloc ?_ _ | with_reducible refine Arr3.next ?_ (by assumption) | with_reducible refine Box3.next ?_ (by assumption) | refine Arr3.oth ?_ (by first | (simp; done) | omega | (simp; omega)) _ | refine Box3.oth ?_ (by first | (simp; done) | omega | (simp; omega)) _)), by (repeat (first | with_reducible assumption | with_reducible exact Arr.box (by assumption) | with_reducible exact Box.new _ _ _ _ _ _ | with_reducible exact Arr.new _ _ _ _ _ _ | with_reducible refine Arr.drew ?_ | with_reducible refine Arr.drewN ?_ _ | with_reducible refine Arr.store4 ?_ | with_reducible refine Arr.alloc ?_ _ | with_reducible refine Box.drew ?_ | with_reducible refine Box.drewN ?_ _ | with_reducible refine Box.alloc ?_ _ | with_reducible refine Arr.next ?_ (by assumption) | with_reducible refine Box.next ?_ (by assumption) | refine Arr.oth ?_ (by first | (simp; done) | omega | (simp; omega)) _ | refine Box.oth ?_ (by first | (simp; done) | omega | (simp; omega)) _ | with_reducible exact Arr3.box (by assumption) | with_reducible exact Box3.new _ _ _ _ _ | with_reducible exact Arr3.new _ _ _ _ _ | with_reducible refine Arr3.drew ?_ | with_reducible refine Arr3.drewN ?_ _ | with_reducible refine Arr3.store3 ?_ | with_reducible refine Arr3.alloc ?_ _ | with_reducible refine Box3.drew ?_ | with_reducible refine Box3.drewN ?_ _ | with_reducible refine Box3.alloc ?_ _ | with_reducible refine Arr3.next ?_ (by assumption) | with_reducible refine Box3.next ?_ (by assumption) | refine Arr3.oth ?_ (by first | (simp; done) | omega | (simp; omega)) _ | refine Box3.oth ?_ (by first | (simp; done) | omega | (simp; omega)) _)), by (repeat' (first | with_reducible exact Below.refl _ _ | with_reducible assumption | with_reducible refine gr_alloc ?_ _ | with_reducible refine gr_drew ?_ | with_reducible refine gr_drewN ?_ _ | with_reducible refine gr_trans ?_ (by assumption) | with_reducible refine gr_set ?_ ?_ _ | (simp; done) | omega | (simp; omega)))⟩)
    case rest =>
      obtain ⟨g, rfl, hg1, hgk, hS, hP, hX, hZ, hU⟩ := hcut
      clear F2 X2 Z2 U2 hG q0 q1 q2 q3 a0 a1 a2 a3 x0 x1 x2
      obtain ⟨_, s0, s1, s2, _⟩ := id hS
      obtain ⟨_, q0, q1, q2, q3, _⟩ := id hP
      obtain ⟨_, x0, x1, x2, _⟩ := id hX
      have hzU := hU.size
      have hzZ := hZ.lt
      have hzP := hP.lt
      go_upto_region 8 with fail
      go_cut [9] (fun s9 wx => ∃ g9 : Nat, s9 = .pointer (some ⟨g9, 0, none⟩) ∧ w.heap.size + 1 + 1 < g9 ∧ g9 ≠ kk ∧ Arr3 wx g9 (wrap64 (wrap64 (S0 + wrap64 (T1 * u)) + T2)) (wrap64 (S1 + wrap64 (T1 * v))) (wrap64 (S2 + wrap64 (T1 * x))) ∧ Arr wx kk 1 T1 T2 T3 ∧ Arr3 wx (w.heap.size + 1 + 1) 0 0 0 ∧ Below w.heap.size w wx)
      case first =>
        go_region_held3 (fun W => W.cell? ⟨g, 0, none⟩ = some (.int .i64 S0) ∧ W.cell? ⟨g, 1, none⟩ = some (.int .i64 S1) ∧ W.cell? ⟨g, 2, none⟩ = some (.int .i64 S2) ∧ W.cell? ⟨w.heap.size + 1, 0, none⟩ = some (.int .i64 u) ∧ W.cell? ⟨w.heap.size + 1, 1, none⟩ = some (.int .i64 v) ∧ W.cell? ⟨w.heap.size + 1, 2, none⟩ = some (.int .i64 x) ∧ W.cell? ⟨kk, 0, none⟩ = some (.int .i64 1) ∧ W.cell? ⟨kk, 1, none⟩ = some (.int .i64 T1) ∧ W.cell? ⟨kk, 2, none⟩ = some (.int .i64 T2) ∧ W.cell? ⟨kk, 3, none⟩ = some (.int .i64 T3)) (refine cells334 ?_ ?_ ?_ <;> (repeat (first | with_reducible assumption | with_reducible exact Arr.box (by assumption) | with_reducible exact Box.new _ _ _ _ _ _ | with_reducible exact Arr.new _ _ _ _ _ _ | with_reducible refine Arr.drew ?_ | with_reducible refine Arr.drewN ?_ _ | with_reducible refine Arr.store4 ?_ | with_reducible refine Arr.alloc ?_ _ | with_reducible refine Box.drew ?_ | with_reducible refine Box.drewN ?_ _ | with_reducible refine Box.alloc ?_ _ | with_reducible refine Arr.next ?_ (by assumption) | with_reducible refine Box.next ?_ (by assumption) | refine Arr.oth ?_ (by first | (simp; done) | omega | (simp; omega)) _ | refine Box.oth ?_ (by first | (simp; done) | omega | (simp; omega)) _ | with_reducible exact Arr3.box (by assumption) | with_reducible exact Box3.new _ _ _ _ _ | with_reducible exact Arr3.new _ _ _ _ _ | with_reducible refine Arr3.drew ?_ | with_reducible refine Arr3.drewN ?_ _ | with_reducible refine Arr3.store3 ?_ | with_reducible refine Arr3.alloc ?_ _ | with_reducible refine Box3.drew ?_ | with_reducible refine Box3.drewN ?_ _ | with_reducible refine Box3.alloc ?_ _ | with_reducible refine Arr3.next ?_ (by assumption) | with_reducible refine Box3.next ?_ (by assumption) | refine Arr3.oth ?_ (by first | (simp; done) | omega | (simp; omega)) _ | refine Box3.oth ?_ (by first | (simp; done) | omega | (simp; omega)) _))) (fail)
        all_goals (go_wp2_with fail; go_meet; exact ⟨_, rfl, by first | omega | (simp; omega), by first | omega | (simp; omega), (by simp only [IntWalk.i64_left]; exact (Arr3.new _ _ _ _ _).drew), by (repeat (first | with_reducible assumption | with_reducible exact Arr.box (by assumption) | with_reducible exact Box.new _ _ _ _ _ _ | with_reducible exact Arr.new _ _ _ _ _ _ | with_reducible refine Arr.drew ?_ | with_reducible refine Arr.drewN ?_ _ | with_reducible refine Arr.store4 ?_ | with_reducible refine Arr.alloc ?_ _ | with_reducible refine Box.drew ?_ | with_reducible refine Box.drewN ?_ _ | with_reducible refine Box.alloc ?_ _ | with_reducible refine Arr.next ?_ (by assumption) | with_reducible refine Box.next ?_ (by assumption) | refine Arr.oth ?_ (by first | (simp; done) | omega | (simp; omega)) _ | refine Box.oth ?_ (by first | (simp; done) | omega | (simp; omega)) _ | with_reducible exact Arr3.box (by assumption) | with_reducible exact Box3.new _ _ _ _ _ | with_reducible exact Arr3.new _ _ _ _ _ | with_reducible refine Arr3.drew ?_ | with_reducible refine Arr3.drewN ?_ _ | with_reducible refine Arr3.store3 ?_ | with_reducible refine Arr3.alloc ?_ _ | with_reducible refine Box3.drew ?_ | with_reducible refine Box3.drewN ?_ _ | with_reducible refine Box3.alloc ?_ _ | with_reducible refine Arr3.next ?_ (by assumption) | with_reducible refine Box3.next ?_ (by assumption) | refine Arr3.oth ?_ (by first | (simp; done) | omega | (simp; omega)) _ | refine Box3.oth ?_ (by first | (simp; done) | omega | (simp; omega)) _)), by (repeat (first | with_reducible assumption | with_reducible exact Arr.box (by assumption) | with_reducible exact Box.new _ _ _ _ _ _ | with_reducible exact Arr.new _ _ _ _ _ _ | with_reducible refine Arr.drew ?_ | with_reducible refine Arr.drewN ?_ _ | with_reducible refine Arr.store4 ?_ | with_reducible refine Arr.alloc ?_ _ | with_reducible refine Box.drew ?_ | with_reducible refine Box.drewN ?_ _ | with_reducible refine Box.alloc ?_ _ | with_reducible refine Arr.next ?_ (by assumption) | with_reducible refine Box.next ?_ (by assumption) | refine Arr.oth ?_ (by first | (simp; done) | omega | (simp; omega)) _ | refine Box.oth ?_ (by first | (simp; done) | omega | (simp; omega)) _ | with_reducible exact Arr3.box (by assumption) | with_reducible exact Box3.new _ _ _ _ _ | with_reducible exact Arr3.new _ _ _ _ _ | with_reducible refine Arr3.drew ?_ | with_reducible refine Arr3.drewN ?_ _ | with_reducible refine Arr3.store3 ?_ | with_reducible refine Arr3.alloc ?_ _ | with_reducible refine Box3.drew ?_ | with_reducible refine Box3.drewN ?_ _ | with_reducible refine Box3.alloc ?_ _ | with_reducible refine Arr3.next ?_ (by assumption) | with_reducible refine Box3.next ?_ (by assumption) | refine Arr3.oth ?_ (by first | (simp; done) | omega | (simp; omega)) _ | refine Box3.oth ?_ (by first | (simp; done) | omega | (simp; omega)) _)), by (repeat' (first | with_reducible exact Below.refl _ _ | with_reducible assumption | with_reducible refine gr_alloc ?_ _ | with_reducible refine gr_drew ?_ | with_reducible refine gr_drewN ?_ _ | with_reducible refine gr_trans ?_ (by assumption) | with_reducible refine gr_set ?_ ?_ _ | (simp; done) | omega | (simp; omega)))⟩)
      case rest =>
        obtain ⟨g9, rfl, hg9, hg9k, hA, hP, hZ, hU⟩ := hcut
        clear hS hX s0 s1 s2 q0 q1 q2 q3 x0 x1 x2
        generalize hz0 : wrap64 (wrap64 (S0 + wrap64 (T1 * u)) + T2) = z0 at hA
        generalize hz1 : wrap64 (S1 + wrap64 (T1 * v)) = z1 at hA
        generalize hz2' : wrap64 (S2 + wrap64 (T1 * x)) = z2 at hA
        have HZ := hid (And.intro hz0 (And.intro hz1 hz2'))
        clear hz0 hz1 hz2'
        obtain ⟨_, y0, y1, y2, f0, f1, f2⟩ := id hA
        obtain ⟨_, q0, q1, q2, q3, _⟩ := id hP
        go_wp2_with fail
        refine wp_loop_rounds 4 ?_
        rw [rounds_succ]; go_wp2_with fail
        have lt9 := hA.lt
        have hzZ := hZ.lt
        go_region
        go_wp2_with fail
        have hA0 := (hA.set0 (wrap64 (wrap64 (-T3) * z0))).drew
        have hP0 := (hP.oth (p := ⟨g9, 0, none⟩) (by simp; omega) (.int .i64 (wrap64 (wrap64 (-T3) * z0)))).drew
        have hZ0 := (hZ.oth (p := ⟨g9, 0, none⟩) (by simp; omega) (.int .i64 (wrap64 (wrap64 (-T3) * z0)))).drew
        have hU0 := gr_drew (gr_set hU (p := ⟨g9, 0, none⟩) (by show w.heap.size ≤ g9; omega) (.int .i64 (wrap64 (wrap64 (-T3) * z0))))
        clear hA hP hZ hU y0 y1 y2 f0 f1 f2 q0 q1 q2 q3
        generalize World.drew (World.setCell wc ⟨g9, 0, none⟩ (.int .i64 (wrap64 (wrap64 (-T3) * z0)))) = wr0 at hA0 hP0 hZ0 hU0 ⊢
        have hA := hA0; have hP := hP0; have hZ := hZ0; have hU := hU0
        clear hA0 hP0 hZ0 hU0
        obtain ⟨_, y0, y1, y2, f0, f1, f2⟩ := id hA
        obtain ⟨_, q0, q1, q2, q3, _⟩ := id hP
        rw [rounds_succ]; go_wp2_with fail
        go_region
        go_wp2_with fail
        have hA1 := (hA.set1 (wrap64 (wrap64 (-T3) * z1))).drew
        have hP1 := (hP.oth (p := ⟨g9, 1, none⟩) (by simp; omega) (.int .i64 (wrap64 (wrap64 (-T3) * z1)))).drew
        have hZ1 := (hZ.oth (p := ⟨g9, 1, none⟩) (by simp; omega) (.int .i64 (wrap64 (wrap64 (-T3) * z1)))).drew
        have hU1 := gr_drew (gr_set hU (p := ⟨g9, 1, none⟩) (by show w.heap.size ≤ g9; omega) (.int .i64 (wrap64 (wrap64 (-T3) * z1))))
        clear hA hP hZ hU y0 y1 y2 f0 f1 f2 q0 q1 q2 q3
        generalize World.drew (World.setCell wr0 ⟨g9, 1, none⟩ (.int .i64 (wrap64 (wrap64 (-T3) * z1)))) = wr1 at hA1 hP1 hZ1 hU1 ⊢
        have hA := hA1; have hP := hP1; have hZ := hZ1; have hU := hU1
        clear hA1 hP1 hZ1 hU1
        obtain ⟨_, y0, y1, y2, f0, f1, f2⟩ := id hA
        obtain ⟨_, q0, q1, q2, q3, _⟩ := id hP
        rw [rounds_succ]; go_wp2_with fail
        go_region
        go_wp2_with fail
        have hA2 := (hA.set2 (wrap64 (wrap64 (-T3) * z2))).drew
        have hP2 := (hP.oth (p := ⟨g9, 2, none⟩) (by simp; omega) (.int .i64 (wrap64 (wrap64 (-T3) * z2)))).drew
        have hZ2 := (hZ.oth (p := ⟨g9, 2, none⟩) (by simp; omega) (.int .i64 (wrap64 (wrap64 (-T3) * z2)))).drew
        have hU2 := gr_drew (gr_set hU (p := ⟨g9, 2, none⟩) (by show w.heap.size ≤ g9; omega) (.int .i64 (wrap64 (wrap64 (-T3) * z2))))
        clear hA hP hZ hU y0 y1 y2 f0 f1 f2 q0 q1 q2 q3
        generalize World.drew (World.setCell wr1 ⟨g9, 2, none⟩ (.int .i64 (wrap64 (wrap64 (-T3) * z2)))) = wr2 at hA2 hP2 hZ2 hU2 ⊢
        have hA := hA2; have hP := hP2; have hZ := hZ2; have hU := hU2
        clear hA2 hP2 hZ2 hU2
        obtain ⟨_, y0, y1, y2, f0, f1, f2⟩ := id hA
        obtain ⟨_, q0, q1, q2, q3, _⟩ := id hP
        rw [rounds_succ]; go_wp2_with fail
        have HT0 := hid (show wrap64 (wrap64 (-T3) * z0) = R0 by rw [← HZ.out.1, ← HR0.out]; exact ivn_s1 _ _ _ _ _)
        have HT1 := hid (show wrap64 (wrap64 (-T3) * z1) = R1 by rw [← HZ.out.2.1, ← HR1.out]; exact ivn_s0 _ _ _ _ _)
        have HT2 := hid (show wrap64 (wrap64 (-T3) * z2) = R2 by rw [← HZ.out.2.2, ← HR2.out]; exact ivn_s0 _ _ _ _ _)
        rw [HT0.out, HT1.out, HT2.out]
        refine (HL.out _ _ _ _).mono ?_
        rintro e w9 ⟨rfl, hb9⟩
        have hZ9 := (hZ.next hb9).alloc (.cells #[.int .i64 (if0 (elc R0 R1 R2) R0), .int .i64 (if0 (elc R0 R1 R2) R1), .int .i64 (if0 (elc R0 R1 R2) R2)] 27)
        have hU9 := gr_alloc (gr_trans hU hb9) (.cells #[.int .i64 (if0 (elc R0 R1 R2) R0), .int .i64 (if0 (elc R0 R1 R2) R1), .int .i64 (if0 (elc R0 R1 R2) R2)] 27)
        have hG9 := Arr3.new w9 (if0 (elc R0 R1 R2) R0) (if0 (elc R0 R1 R2) R1) (if0 (elc R0 R1 R2) R2) 27
        obtain ⟨_, e0, e1, e2, _⟩ := id hG9
        obtain ⟨_, r0', r1', r2', g0, g1, g2⟩ := id hZ9
        have hlz := hZ.lt
        have hz9 := hb9.size
        go_wp2_with fail
        refine bodyPost_ret (res_A3 (e := 2) rfl Tryd.underlying27 (by kernel_rfl) rfl (by (repeat (first | with_reducible assumption | with_reducible exact Arr3.box (by assumption) | with_reducible exact Arr3.new _ _ _ _ _ | with_reducible refine Arr3.drew ?_ | with_reducible refine Arr3.drewN ?_ _ | with_reducible refine Arr3.store3 ?_ | with_reducible refine Arr3.alloc ?_ _ | with_reducible refine Arr3.next ?_ (by assumption) | refine Arr3.oth ?_ (by first | (simp; done) | omega | (simp; omega)) _ )))) rfl ?_
        rw [← HKK.out, HN1.out]
        exact ⟨rfl, by (repeat' (first | with_reducible exact Below.refl _ _ | with_reducible assumption | with_reducible refine gr_alloc ?_ _ | with_reducible refine gr_drew ?_ | with_reducible refine gr_drewN ?_ _ | with_reducible refine gr_trans ?_ (by assumption) | with_reducible refine gr_set ?_ ?_ _ | (simp; done) | omega | (simp; omega)))⟩


end Go.Proofs.YtdogkkmdccieiaaDoor
