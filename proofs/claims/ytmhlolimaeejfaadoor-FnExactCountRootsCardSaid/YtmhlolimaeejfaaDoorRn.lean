/- Chapter 5: the model's multiplicities and zeros. -/
import Derived.Test.YtmhlolimaeejfaaDoorRm
import Derived.Test.YtmhlolimaeejfaaDoorCh
namespace Go.Proofs.YtmhlolimaeejfaaDoor
open Go.RowKit

theorem tm0 (n p : Int) : (n.tmod p == 0) = decide (p ∣ n) := by
  rw [Bool.eq_iff_iff]; simp [Int.dvd_iff_tmod_eq_zero]
theorem and4 (a b c d : Prop) [Decidable a] [Decidable b] [Decidable c] [Decidable d] : (decide a && decide b && decide c && decide d) = decide (a ∧ b ∧ c ∧ d) := by
  rw [Bool.eq_iff_iff]; simp [and_assoc]

set_option maxRecDepth 100000 in
set_option maxHeartbeats 1000000 in
theorem l05Null_any (a b c d p : Int) (w : World) (h2 : 2 ≤ p) (h97 : p ≤ 499) : Calls Tryd.prog 26 #[.agg #[.int .i64 a, .int .i64 b, .int .i64 c, .int .i64 d], .int .i64 p] w fun e w' => e = .returned (.bool (mul0 (cnt a b c d) p)) ∧ Below w.heap.size w w' := by
  obtain ⟨a1, a2⟩ := tmod_499 a p (by omega) h97
  obtain ⟨b1, b2⟩ := tmod_499 b p (by omega) h97
  obtain ⟨c1, c2⟩ := tmod_499 c p (by omega) h97
  obtain ⟨d1, d2⟩ := tmod_499 d p (by omega) h97
  have HE := hid (show mul0 (cnt a b c d) p = (decide (p ∣ a) && decide (p ∣ b) && decide (p ∣ c) && decide (p ∣ d)) by
    rw [mul0_d, and4, decide_eq_decide]; exact cnt_dvd)
  generalize mul0 (cnt a b c d) p = M at HE ⊢
  cases ha : (a.tmod p == 0) with
  | false =>
    have H := hid (show M = false by rw [HE.out, ← tm0, ha]; simp)
    go_enter Tryd.func26, Tryd.ntmps26
    go_wp2
    go_ret
    rw [H.out]
    exact ⟨rfl, by (repeat' (first | with_reducible exact Below.refl _ _ | with_reducible assumption | with_reducible refine gr_alloc ?_ _ | with_reducible refine gr_drew ?_ | with_reducible refine gr_drewN ?_ _ | with_reducible refine gr_trans ?_ (by assumption) | with_reducible refine gr_set ?_ ?_ _ | (simp; done) | omega | (simp; omega)))⟩
  | true =>
    cases hb : (b.tmod p == 0) with
    | false =>
      have H := hid (show M = false by rw [HE.out, ← tm0 b, hb]; simp)
      go_enter Tryd.func26, Tryd.ntmps26
      go_wp2
      go_ret
      rw [H.out]
      exact ⟨rfl, by (repeat' (first | with_reducible exact Below.refl _ _ | with_reducible assumption | with_reducible refine gr_alloc ?_ _ | with_reducible refine gr_drew ?_ | with_reducible refine gr_drewN ?_ _ | with_reducible refine gr_trans ?_ (by assumption) | with_reducible refine gr_set ?_ ?_ _ | (simp; done) | omega | (simp; omega)))⟩
    | true =>
      cases hc : (c.tmod p == 0) with
      | false =>
        have H := hid (show M = false by rw [HE.out, ← tm0 c, hc]; simp)
        go_enter Tryd.func26, Tryd.ntmps26
        go_wp2
        go_ret
        rw [H.out]
        exact ⟨rfl, by (repeat' (first | with_reducible exact Below.refl _ _ | with_reducible assumption | with_reducible refine gr_alloc ?_ _ | with_reducible refine gr_drew ?_ | with_reducible refine gr_drewN ?_ _ | with_reducible refine gr_trans ?_ (by assumption) | with_reducible refine gr_set ?_ ?_ _ | (simp; done) | omega | (simp; omega)))⟩
      | true =>
        cases hd : (d.tmod p == 0) with
        | false =>
          have H := hid (show M = false by rw [HE.out, ← tm0 d, hd]; simp)
          go_enter Tryd.func26, Tryd.ntmps26
          go_wp2
          go_ret
          rw [H.out]
          exact ⟨rfl, by (repeat' (first | with_reducible exact Below.refl _ _ | with_reducible assumption | with_reducible refine gr_alloc ?_ _ | with_reducible refine gr_drew ?_ | with_reducible refine gr_drewN ?_ _ | with_reducible refine gr_trans ?_ (by assumption) | with_reducible refine gr_set ?_ ?_ _ | (simp; done) | omega | (simp; omega)))⟩
        | true =>
          have H := hid (show M = true by rw [HE.out, ← tm0, ← tm0, ← tm0, ← tm0, ha, hb, hc, hd]; rfl)
          go_enter Tryd.func26, Tryd.ntmps26
          go_wp2
          go_ret
          rw [H.out]
          exact ⟨rfl, by (repeat' (first | with_reducible exact Below.refl _ _ | with_reducible assumption | with_reducible refine gr_alloc ?_ _ | with_reducible refine gr_drew ?_ | with_reducible refine gr_drewN ?_ _ | with_reducible refine gr_trans ?_ (by assumption) | with_reducible refine gr_set ?_ ?_ _ | (simp; done) | omega | (simp; omega)))⟩

theorem mmF3 {p u v t : Int} (h : (t.tmod p == 0) = false) : mm3 p u v t = 0 := by
  rw [tm0] at h; simp at h; simp [mm3, h]
theorem mmF2 {p u v t : Int} (h3 : (t.tmod p == 0) = true) (h : (v.tmod p == 0) = false) : mm3 p u v t = 1 := by
  rw [tm0] at h h3; simp at h h3; simp [mm3, h, h3]
theorem mmF1 {p u v t : Int} (h3 : (t.tmod p == 0) = true) (h2 : (v.tmod p == 0) = true) (h : (u.tmod p == 0) = false) : mm3 p u v t = 2 := by
  rw [tm0] at h h2 h3; simp at h h2 h3; simp [mm3, h, h2, h3]
theorem mmF0 {p u v t : Int} (h3 : (t.tmod p == 0) = true) (h2 : (v.tmod p == 0) = true) (h : (u.tmod p == 0) = true) : mm3 p u v t = 3 := by
  rw [tm0] at h h2 h3; simp at h h2 h3; simp [mm3, h, h2, h3]
/-- The changed form at a point. -/
theorem chg1 {a b c d x : Int} (ha : -1000 ≤ a ∧ a ≤ 1000) (hb : -1000 ≤ b ∧ b ≤ 1000) (hc : -1000 ≤ c ∧ c ≤ 1000) (hd : -1000 ≤ d ∧ d ≤ 1000) (hx : -498 ≤ x ∧ x ≤ 498) :
    wrap64 (cB a b c d 1 x 0 1) = g1 a b x ∧ wrap64 (cC a b c d 1 x 0 1) = g2 a b c x ∧ wrap64 (cA a b c d x 1) = g3 a b c d x := by
  obtain ⟨_, h1, h2, h3⟩ := ch_wr (p := 1) (q := x) (r := 0) (s := 1) ha hb hc hd (by omega) (by omega) (by omega) (by omega)
  refine ⟨?_, ?_, ?_⟩
  · rw [h1]; unfold cB g1; grind
  · rw [h2]; unfold cC g2; grind
  · rw [h3]; unfold cA g3 vx; grind
theorem chg0 {a b c d : Int} (ha : -1000 ≤ a ∧ a ≤ 1000) (hb : -1000 ≤ b ∧ b ≤ 1000) (hc : -1000 ≤ c ∧ c ≤ 1000) (hd : -1000 ≤ d ∧ d ≤ 1000) :
    wrap64 (cB a b c d 0 1 1 0) = c ∧ wrap64 (cC a b c d 0 1 1 0) = b ∧ wrap64 (cA a b c d 1 0) = a := by
  obtain ⟨_, h1, h2, h3⟩ := ch_wr (p := 0) (q := 1) (r := 1) (s := 0) ha hb hc hd (by omega) (by omega) (by omega) (by omega)
  refine ⟨?_, ?_, ?_⟩
  · rw [h1]; unfold cB; grind
  · rw [h2]; unfold cC; grind
  · rw [h3]; unfold cA vx; grind

set_option maxRecDepth 100000 in
set_option maxHeartbeats 2000000 in
theorem l05Root_1 (a b c d p x : Int) (w : World) (h2 : 2 ≤ p) (h97 : p ≤ 499) (ha : -1000 ≤ a ∧ a ≤ 1000) (hb : -1000 ≤ b ∧ b ≤ 1000) (hc : -1000 ≤ c ∧ c ≤ 1000) (hd : -1000 ≤ d ∧ d ≤ 1000) (hx : -498 ≤ x ∧ x ≤ 498) :
    Calls Tryd.prog 49 #[.agg #[.int .i64 a, .int .i64 b, .int .i64 c, .int .i64 d], .int .i64 p, .int .i64 x, .int .i64 1] w fun e w' => e = .returned (.int .i64 (((mmu p a b c d x 1 : Nat) : Int))) ∧ Below w.heap.size w w' := by
  obtain ⟨e1, e2, e3⟩ := chg1 ha hb hc hd hx
  have hs := fun W => sChange0_any a b c d 1 x 0 1 W
  rw [e1, e2, e3] at hs
  have HM := hid (show mmu p a b c d x 1 = mm3 p (g1 a b x) (g2 a b c x) (g3 a b c d x) by simp [mmu])
  generalize mmu p a b c d x 1 = M at HM ⊢
  generalize g1 a b x = u at hs HM
  generalize g2 a b c x = v at hs HM
  generalize g3 a b c d x = t at hs HM
  generalize wrap64 (cA a b c d 1 0) = z at hs
  have HS := hid hs
  clear hs e1 e2 e3 ha hb hc hd hx
  obtain ⟨u1, u2⟩ := tmod_499 u p (by omega) h97
  obtain ⟨v1, v2⟩ := tmod_499 v p (by omega) h97
  obtain ⟨t1, t2⟩ := tmod_499 t p (by omega) h97
  have F0 := (Bx.new w #[.int .i64 a, .int .i64 b, .int .i64 c, .int .i64 d] 26).alloc (.cells #[.int .i64 1, .int .i64 x, .int .i64 0, .int .i64 1] 93)
  have U0 := gr_alloc (gr_alloc (Below.refl w.heap.size w) (.cells #[.int .i64 a, .int .i64 b, .int .i64 c, .int .i64 d] 26)) (.cells #[.int .i64 1, .int .i64 x, .int .i64 0, .int .i64 1] 93)
  go_enter Tryd.func49, Tryd.ntmps49
  go_wp2_with fail
  refine (HS.out _).mono ?_
  rintro e w1 ⟨rfl, hb1⟩
  have U1 := gr_trans U0 hb1
  clear F0 U0
  cases h3 : (t.tmod p == 0) with
  | false =>
    have H := hid (mmF3 (u := u) (v := v) h3)
    go_wp2_with fail
    go_ret
    rw [HM.out, H.out]
    exact ⟨rfl, gr_alloc U1 _⟩
  | true =>
    cases h4 : (v.tmod p == 0) with
    | false =>
      have H := hid (mmF2 (u := u) h3 h4)
      go_wp2_with fail
      go_ret
      rw [HM.out, H.out]
      exact ⟨rfl, gr_alloc U1 _⟩
    | true =>
      cases h5 : (u.tmod p == 0) with
      | false =>
        have H := hid (mmF1 h3 h4 h5)
        go_wp2_with fail
        go_ret
        rw [HM.out, H.out]
        exact ⟨rfl, gr_alloc U1 _⟩
      | true =>
        have H := hid (mmF0 h3 h4 h5)
        go_wp2_with fail
        go_ret
        rw [HM.out, H.out]
        exact ⟨rfl, gr_alloc U1 _⟩


end Go.Proofs.YtmhlolimaeejfaaDoor
