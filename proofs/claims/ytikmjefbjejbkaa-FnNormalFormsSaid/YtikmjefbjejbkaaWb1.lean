/- Several texts in one: XNfa, XSp1, XNfb, XDraw27, XSp2, XSp3, XQf, XQe. -/
import Derived.Test.YtikmjefbjejbkaaBbZ24
import Derived.Test.YtikmjefbjejbkaaBbSo4
import Derived.Test.YtikmjefbjejbkaaBbQa
import Derived.Test.YtikmjefbjejbkaaWa1
import Derived.Test.YtikmjefbjejbkaaWa3
import Derived.Test.YtikmjefbjejbkaaBbQd

/- Reduced forms of a class, discriminants below 0: from one reduced form small matrices lead to all others, by two steps no farther than by one. Mathematics alone. -/
namespace Go.Proofs.Ytikmjefbjejbkaa
namespace Red
/-- A margin above 0 shows in the product's. -/
theorem margP {S T f g G : Int} (hS : 1 ≤ S) (hT : 1 ≤ f) (hg : G = S * S * f - S * g + T) (h1 : 100000000000000 * g ≤ 40000000000 * S) (h2 : -(100 * (S * S)) ≤ 10000000000000000000000000000 * T) : 0 < G := by
  have := marg (S := S) (T := -T) (f := -f) (g := -g) (G := -G) hS (by omega) (by rw [hg]; grind) (by omega) (by omega)
  omega
theorem pos_fac {x y : Int} (h : 0 < x * y) (hy : 0 ≤ y) : 0 < x := by
  rcases Int.lt_or_le 0 x with h1 | h1
  · exact h1
  · have := Int.mul_nonpos_of_nonpos_of_nonneg h1 hy; omega
theorem Near.leftP {a b c d S p q A B C e0 e1 e2 e3 M J r : Int} (h : Near a b c d S p q A B C e0 e1 e2 e3 M J r) (hl : 1 ≤ lf false a b c d) : B < A := by
  obtain ⟨ba, bb, bc, bd⟩ := h.bd
  have hJ' := J_pos h.hS h.hD
  rw [h.hJ] at hJ'
  obtain ⟨hS, ha, hb, hc, hd, hA, hC, hAM, hJe, hr, hr1, hD, hm, k0, k1, k2, k3⟩ := h
  dsimp only at ba bb bc bd
  have hx := qv_nn hA hJ' (p - q) (-p)
  have key : 0 < (A - B) * qv A B C (p - q) (-p) := by
    have m1 := mb (x := a) (X := 1620000000) (by omega) k3
    have m2 := mb (x := d) (X := 1620000000) (by omega) k0
    have m3 := mb bb k2
    have m4 := mb bc k1
    have m5 := mb (x := a - b) (X := 3240000000) (by omega) k0
    have m6 := mb (x := a - b) (X := 3240000000) (by omega) k1
    have m7 := mb (x := a) (X := 1620000000) (by omega) k2
    have m8 := mb bc k0
    have n1 := mb k0 k3; have n2 := mb k1 k2; have n3 := mb k0 k0; have n4 := mb k0 k1; have n5 := mb k1 k1; have n6 := mb k0 k2
    rw [sc] at m1 m2 m3 m4 m5 m6 m7 m8
    rw [sc2] at n1 n2 n3 n4 n5 n6
    have e1 := lf_split S a b c d e0 e1 e2 e3
    rw [ha, hb, hc, hd, Int.add_sub_cancel, Int.add_sub_cancel, Int.add_sub_cancel, Int.add_sub_cancel, ← lf_prod] at e1
    refine margP hS hl e1 ?_ ?_
    · clear e1 ha hb hc hd hD hm hJe hr hJ' hx; omega
    · clear e1 ha hb hc hd hD hm hJe hr hJ' hx; omega
  have := pos_fac key hx
  omega
theorem Near.rightP {a b c d S p q A B C e0 e1 e2 e3 M J r : Int} (h : Near a b c d S p q A B C e0 e1 e2 e3 M J r) (hl : 1 ≤ rt false a b c d) : -B < A :=
  h.flip.leftP (by rw [← rt_lf]; exact hl)
theorem Near.highP {a b c d S p q A B C e0 e1 e2 e3 M J r : Int} (h : Near a b c d S p q A B C e0 e1 e2 e3 M J r) (hl : 1 ≤ hg false a b c d) : A < C := by
  obtain ⟨ba, bb, bc, bd⟩ := h.bd
  have hJ' := J_pos h.hS h.hD
  rw [h.hJ] at hJ'
  obtain ⟨hS, ha, hb, hc, hd, hA, hC, hAM, hJe, hr, hr1, hD, hm, k0, k1, k2, k3⟩ := h
  dsimp only at ba bb bc bd
  have hx := qv_nn hA hJ' p (-q)
  have key : 0 < (C - A) * qv A B C p (-q) := by
    have m1 := mb (x := a) (X := 1620000000) (by omega) k0
    have m2 := mb (x := d) (X := 1620000000) (by omega) k3
    have m3 := mb bb k3
    have m4 := mb (x := d) (X := 1620000000) (by omega) k1
    have m7 := mb (x := a) (X := 1620000000) (by omega) k2
    have m8 := mb bc k0
    have n1 := mb k0 k0; have n2 := mb k3 k3; have n3 := mb k1 k3; have n4 := mb k0 k2
    rw [sc] at m1 m2 m3 m4 m7 m8
    rw [sc2] at n1 n2 n3 n4
    have e1 := hg_split S a b c d e0 e1 e2 e3
    rw [ha, hb, hc, hd, Int.add_sub_cancel, Int.add_sub_cancel, Int.add_sub_cancel, Int.add_sub_cancel, ← hg_prod] at e1
    refine margP hS hl e1 ?_ ?_
    · clear e1 ha hb hc hd hD hm hJe hr hJ' hx; omega
    · clear e1 ha hb hc hd hD hm hJe hr hJ' hx; omega
  have := pos_fac key hx
  omega
/-- There is a product near to each form. -/
theorem near_ex {a b c d : Int} (hD : dsc a b c d < 0) (ka : -100 ≤ a ∧ a ≤ 100) (kb : -100 ≤ b ∧ b ≤ 100) (kc : -100 ≤ c ∧ c ≤ 100) (kd : -100 ≤ d ∧ d ≤ 100) : ∃ S p q A B C e M J r, Nr a b c d S p q A B C e M J r := by
  have e : dsc (-a) (-b) (-c) (-d) = dsc a b c d := by unfold dsc; grind
  have fl : (∃ S p q A B C e M J r, Nr (-a) (-b) (-c) (-d) S p q A B C e M J r) → ∃ S p q A B C e M J r, Nr a b c d S p q A B C e M J r := by
    rintro ⟨S, p, q, A, B, C, e, M, J, r, h⟩
    have := h.neg
    rw [Int.neg_neg, Int.neg_neg, Int.neg_neg, Int.neg_neg] at this
    exact ⟨_, _, _, _, _, _, _, _, _, _, this⟩
  rcases Int.lt_trichotomy a 0 with h | h | h
  · exact fl (nr_pos (by rw [e]; exact hD) (by omega) (by omega) (by omega) (by omega))
  · subst h
    have hb : b ≠ 0 := by rintro rfl; simp [dsc] at hD
    rcases Int.lt_or_gt_of_ne hb with h | h
    · exact fl (by rw [Int.neg_zero]; rw [Int.neg_zero] at e; exact nr_zero (by rw [e]; exact hD) (by omega) (by omega) (by omega))
    · exact nr_zero hD (by omega) kc kd
  · exact nr_pos hD (by omega) kb kc kd
end Red
namespace Rd
/-- A step keeps the way within the bound. -/
theorem way_step {a b c d S p q A B C e M J r : Int} (h : Red.Nr a b c d S p q A B C e M J r) {m : Red.F4} (hw : Red.Way A B C (A + C) m) (hr : Red.rdF false (ch (a, b, c, d) m) = false) : ∃ m', Red.Way A B C (A + C) m' ∧ ch (a, b, c, d) m' = Red.stp false (ch (a, b, c, d) m) := by
  obtain ⟨x, y, z, t⟩ := m
  have n := Red.Way.near h (hw.mono h)
  obtain ⟨w1, w2⟩ := hw
  unfold ch at hr ⊢
  dsimp only at w1 w2 hr ⊢
  simp only [Red.rdF, Red.isR, Bool.and_eq_false_iff, decide_eq_false_iff_not] at hr
  have mv : ∀ k : Int, (k * k = 1) → k * Red.qB A B C x y z t + Red.qv A B C x z < 0 → ∃ m : Red.F4, Red.Way A B C (A + C) m ∧ m.1 = x ∧ m.2.2.1 = z ∧ m.2.1 = y + k*x ∧ m.2.2.2 = t + k*z := fun k hk hq => by
    have e := Red.qch1 A B C x y z t k
    rw [hk, Int.one_mul] at e
    refine ⟨(x, y + k*x, z, t + k*z), ⟨?_, ?_⟩, rfl, rfl, rfl, rfl⟩
    · dsimp only
      have : x * (t + k * z) - (y + k * x) * z = x * t - y * z := by grind
      rw [this]; exact w1
    · dsimp only; omega
  unfold Red.stp
  by_cases k1 : Red.lf false (Red.fA a b c d x z) (Red.fB a b c d x y z t) (Red.fB a b c d y x t z) (Red.fA a b c d y t) < 0
  · simp only [k1, if_true]
    have k2 := n.left k1
    obtain ⟨m, g1, g2, g3, g4, g5⟩ := mv (-1) (by omega) (by omega)
    refine ⟨m, g1, ?_⟩
    obtain ⟨f1, f2, f3⟩ := Red.fch1 a b c d x y z t (-1)
    rw [g2, g3, g4, g5, f1, f2, f3]
    refine Prod.ext rfl (Prod.ext ?_ (Prod.ext ?_ ?_)) <;> dsimp only <;> omega
  · by_cases k2 : Red.rt false (Red.fA a b c d x z) (Red.fB a b c d x y z t) (Red.fB a b c d y x t z) (Red.fA a b c d y t) < 0
    · simp only [k1, k2, if_false, if_true]
      have k3 := n.right k2
      obtain ⟨m, g1, g2, g3, g4, g5⟩ := mv 1 (by omega) (by omega)
      refine ⟨m, g1, ?_⟩
      obtain ⟨f1, f2, f3⟩ := Red.fch1 a b c d x y z t 1
      rw [g2, g3, g4, g5, f1, f2, f3]
      refine Prod.ext rfl (Prod.ext ?_ (Prod.ext ?_ ?_)) <;> dsimp only <;> omega
    · simp only [k1, k2, if_false]
      have k3 : Red.hg false (Red.fA a b c d x z) (Red.fB a b c d x y z t) (Red.fB a b c d y x t z) (Red.fA a b c d y t) < 0 := by omega
      refine ⟨(y, x, t, z), ⟨?_, ?_⟩, rfl⟩
      · dsimp only
        have : (y * z - x * t) * (y * z - x * t) = (x * t - y * z) * (x * t - y * z) := by grind
        rw [this]; exact w1
      · dsimp only; omega
theorem run_way {a b c d S p q A B C e M J r : Int} (h : Red.Nr a b c d S p q A B C e M J r) : ∀ (n : Nat) (t k m : Red.F4), Red.Way A B C (A + C) m → ch (a, b, c, d) m = t → ∃ m', Red.Way A B C (A + C) m' ∧ ch (a, b, c, d) m' = (run false n t k).1 := by
  intro n
  induction n with
  | zero => intro t k m hw e; exact ⟨m, hw, e⟩
  | succ n ih =>
    intro t k m hw e
    rw [run]
    by_cases hr : Red.rdF false t = true
    · rw [if_pos hr]; exact ⟨m, hw, e⟩
    · rw [if_neg hr]
      obtain ⟨m', g1, g2⟩ := way_step h hw (by rw [e]; simpa using hr)
      exact ih _ _ m' g1 (by rw [g2, e])
theorem way_one {a b c d S p q A B C e M J r : Int} (_ : Red.Nr a b c d S p q A B C e M J r) : Red.Way A B C (A + C) (1, 0, 0, 1) := by
  have e1 : Red.qv A B C 1 0 = A := by unfold Red.qv; grind
  have e2 : Red.qv A B C 0 1 = C := by unfold Red.qv; grind
  exact ⟨by decide, by dsimp only; rw [e1, e2]; omega⟩
/-- Where a margin is 0 there is a root. -/
theorem lf_root {a b c d : Int} (h : Red.lf false a b c d = 0) : ∃ r s : Int, (r ≠ 0 ∨ s ≠ 0) ∧ Red.fv a b c d r s = 0 := by
  by_cases ha : a = 0
  · subst ha; exact ⟨1, 0, .inl (by omega), by unfold Red.fv; grind⟩
  · refine ⟨a - b, a, .inr ha, ?_⟩
    have e : Red.fv a b c d (a - b) a = a * a * Red.lf false a b c d := by simp only [Red.fv, Red.lf]; grind
    rw [e, h]; simp
theorem rt_root {a b c d : Int} (h : Red.rt false a b c d = 0) : ∃ r s : Int, (r ≠ 0 ∨ s ≠ 0) ∧ Red.fv a b c d r s = 0 := by
  rw [Red.rt_lf] at h
  obtain ⟨r, s, h1, h2⟩ := lf_root h
  exact ⟨r, -s, by omega, by unfold Red.fv at *; grind⟩
theorem hg_root {a b c d : Int} (h : Red.hg false a b c d = 0) : ∃ r s : Int, (r ≠ 0 ∨ s ≠ 0) ∧ Red.fv a b c d r s = 0 := by
  by_cases ha : a = 0
  · subst ha; exact ⟨1, 0, .inl (by omega), by unfold Red.fv; grind⟩
  · refine ⟨-d, a, .inr ha, ?_⟩
    have e : Red.fv a b c d (-d) a = -(a * d * Red.hg false a b c d) := by simp only [Red.fv, Red.hg]; grind
    rw [e, h]; simp
theorem strict {T : Red.F4} (hD : dscF T < 0) (hF : ¬ Fac T) (hr : Red.rdF false T = true) : 1 ≤ Red.lf false T.1 T.2.1 T.2.2.1 T.2.2.2 ∧ 1 ≤ Red.rt false T.1 T.2.1 T.2.2.1 T.2.2.2 ∧ 1 ≤ Red.hg false T.1 T.2.1 T.2.2.1 T.2.2.2 := by
  obtain ⟨k1, k2, k3⟩ := rdF_iff.1 hr
  refine ⟨?_, ?_, ?_⟩
  · rcases Int.lt_or_eq_of_le k1 with k | k
    · omega
    · obtain ⟨r, s, h1, h2⟩ := lf_root k.symm
      exact (hF (root_fac h1 h2 hD)).elim
  · rcases Int.lt_or_eq_of_le k2 with k | k
    · omega
    · obtain ⟨r, s, h1, h2⟩ := rt_root k.symm
      exact (hF (root_fac h1 h2 hD)).elim
  · rcases Int.lt_or_eq_of_le k3 with k | k
    · omega
    · obtain ⟨r, s, h1, h2⟩ := hg_root k.symm
      exact (hF (root_fac h1 h2 hD)).elim
theorem low0 {A B C x z : Int} (hA : 1 ≤ A) (h1 : B ≤ A) (h2 : -A ≤ B) (h3 : A ≤ C) (hxz : x ≠ 0 ∨ z ≠ 0) : A ≤ Red.qv A B C x z := by
  by_cases hz : z = 0
  · subst hz
    have hx : x ≠ 0 := by omega
    have hxx : 1 ≤ x * x := by
      have := Red.sq0 x
      have : x * x ≠ 0 := Int.mul_ne_zero hx hx
      omega
    have : A * 1 ≤ A * (x * x) := Int.mul_le_mul_of_nonneg_left hxx (by omega)
    have e : Red.qv A B C x 0 = A * (x * x) := by unfold Red.qv; grind
    omega
  · have := low1 hA h1 h2 h3 hz (x := x)
    omega
/-- A reduced form's two numbers have the least sum. -/
theorem low_sum {A B C x y z t : Int} (hA : 1 ≤ A) (h1 : B ≤ A) (h2 : -A ≤ B) (h3 : A ≤ C) (hu : (x*t - y*z) * (x*t - y*z) = 1) : A + C ≤ Red.qv A B C x z + Red.qv A B C y t := by
  by_cases hz : z = 0
  · subst hz
    have ht : t ≠ 0 := by rintro rfl; simp at hu
    have hx : x ≠ 0 := by rintro rfl; simp at hu
    have := low0 hA h1 h2 h3 (x := x) (z := 0) (.inl hx)
    have := low1 hA h1 h2 h3 ht (x := y)
    omega
  · have h4 := low1 hA h1 h2 h3 hz (x := x)
    have hyt : y ≠ 0 ∨ t ≠ 0 := by
      by_cases hy : y = 0
      · right; rintro rfl; subst hy; simp at hu
      · exact .inl hy
    have h5 := low0 hA h1 h2 h3 hyt
    omega
/-- Two small steps between reduced forms are one small step: discriminants below 0. -/
theorem cl_neg {a b c d S p q A B C e M J r : Int} (h : Red.Nr a b c d S p q A B C e M J r) {m : Red.F4} (hw : Red.Way A B C (A + C) m) (hD : dscF (ch (a, b, c, d) m) < 0) (hT : Red.rdF false (ch (a, b, c, d) m) = true)
    {u v : Red.F4} (hu : Sm u) (du : dt u * dt u = 1) (hv : Sm v) (dv : dt v * dt v = 1) (hN : Red.rdF false (ch (ch (a, b, c, d) m) u) = true) (hM : Red.rdF false (ch (ch (ch (a, b, c, d) m) u) v) = true) : Sm (mz u v) := by
  by_cases hF : Fac (ch (a, b, c, d) m)
  · exact sm_fac hF hT (by rw [← ch_ch]; exact hM) (dt2_mz du dv)
  · have hF1 : ¬ Fac (ch (ch (a, b, c, d) m) u) := fun k => hF (by
      have := k.ch (dt2_ivz du)
      rwa [ch_ch, mz_ivz du, ch_one] at this)
    have hF2 : ¬ Fac (ch (ch (ch (a, b, c, d) m) u) v) := fun k => hF1 (by
      have := k.ch (dt2_ivz dv)
      rwa [ch_ch, mz_ivz dv, ch_one] at this)
    have hD1 : dscF (ch (ch (a, b, c, d) m) u) < 0 := by rw [dscF_ch _ _ du]; exact hD
    have hD2 : dscF (ch (ch (ch (a, b, c, d) m) u) v) < 0 := by rw [dscF_ch _ _ dv]; exact hD1
    obtain ⟨s1, s2, s3⟩ := strict hD hF hT
    obtain ⟨t1, t2, t3⟩ := strict hD1 hF1 hN
    obtain ⟨r1, r2, r3⟩ := strict hD2 hF2 hM
    obtain ⟨x, y, z, t⟩ := m
    obtain ⟨u0, u1, u2, u3⟩ := u
    obtain ⟨v0, v1, v2, v3⟩ := v
    have n0 := Red.Way.near h (hw.mono h)
    obtain ⟨w1, w2⟩ := hw
    dsimp only at w1 w2
    obtain ⟨hu0, hu1, hu2, hu3⟩ := hu
    obtain ⟨hv0, hv1, hv2, hv3⟩ := hv
    dsimp only at hu0 hu1 hu2 hu3 hv0 hv1 hv2 hv3
    have du' : (u0*u3 - u1*u2) * (u0*u3 - u1*u2) = 1 := du
    have dv' : (v0*v3 - v1*v2) * (v0*v3 - v1*v2) = 1 := dv
    have l0 := n0.leftP s1
    have l1 := n0.rightP s2
    have l2 := n0.highP s3
    have hJ' := Red.J_pos n0.hS n0.hD
    rw [n0.hJ] at hJ'
    have hA0 := n0.hA; have hC0 := n0.hC
    have hM4 := h.hM
    -- the second form
    have hm0 := Red.mid_lt hJ' hA0 hC0
    have k1 := Red.qv_one hm0 hA0 hC0 hu0 hu2
    have k2 := Red.qv_one hm0 hA0 hC0 hu1 hu3
    have hwu : Red.Way A B C M (mz (x, y, z, t) (u0, u1, u2, u3)) := by
      refine ⟨?_, ?_⟩
      · have := dt2_mz (u := (x, y, z, t)) (v := (u0, u1, u2, u3)) w1 du
        exact this
      · rw [Red.qv_ch] at k1 k2
        unfold mz; dsimp only; omega
    have n1 := Red.Way.near h hwu
    have q1 : Red.qv A B C (x*u0 + y*u2) (z*u0 + t*u2) = Red.qv (Red.qv A B C x z) (Red.qB A B C x y z t) (Red.qv A B C y t) u0 u2 := (Red.qv_ch A B C x y z t u0 u2).symm
    have q2 : Red.qv A B C (x*u1 + y*u3) (z*u1 + t*u3) = Red.qv (Red.qv A B C x z) (Red.qB A B C x y z t) (Red.qv A B C y t) u1 u3 := (Red.qv_ch A B C x y z t u1 u3).symm
    have qBc : ∀ A B C x y z t u p v q : Int, Red.qB A B C (x*u + y*v) (x*p + y*q) (z*u + t*v) (z*p + t*q) = Red.qB (Red.qv A B C x z) (Red.qB A B C x y z t) (Red.qv A B C y t) u p v q := fun A B C x y z t u p v q => by unfold Red.qB Red.qv; grind
    have e1 : ch (ch (a, b, c, d) (x, y, z, t)) (u0, u1, u2, u3) = ch (a, b, c, d) (mz (x, y, z, t) (u0, u1, u2, u3)) := ch_ch _ _ _
    rw [e1] at t1 t2 t3
    have l3 := n1.leftP t1
    have l4 := n1.rightP t2
    have l5 := n1.highP t3
    (try unfold mz at l3 l4 l5)
    dsimp only at l3 l4 l5 n1
    have hA1 := n1.hA; have hC1 := n1.hC
    have hJ1 := Red.J_pos n1.hS n1.hD
    rw [n1.hJ] at hJ1
    -- its two numbers are not greater
    have hsum := low_sum (A := Red.qv A B C (x*u0 + y*u2) (z*u0 + t*u2)) (B := Red.qB A B C (x*u0 + y*u2) (x*u1 + y*u3) (z*u0 + t*u2) (z*u1 + t*u3)) (C := Red.qv A B C (x*u1 + y*u3) (z*u1 + t*u3)) (x := u3) (y := -u1) (z := -u2) (t := u0) hA1 (by omega) (by omega) (by omega) (by rw [← du']; grind)
    have c1 : Red.qv (Red.qv A B C (x*u0 + y*u2) (z*u0 + t*u2)) (Red.qB A B C (x*u0 + y*u2) (x*u1 + y*u3) (z*u0 + t*u2) (z*u1 + t*u3)) (Red.qv A B C (x*u1 + y*u3) (z*u1 + t*u3)) u3 (-u2) = Red.qv A B C x z := by
      rw [q1, q2, qBc, Red.qv_ch]
      have a1 : u0 * u3 + u1 * -u2 = u0*u3 - u1*u2 := by grind
      have a2 : u2 * u3 + u3 * -u2 = 0 := by grind
      rw [a1, a2]
      have : ∀ P Q R g : Int, g * g = 1 → Red.qv P Q R g 0 = P := fun P Q R g hg => by unfold Red.qv; grind
      exact this _ _ _ _ du'
    have c2 : Red.qv (Red.qv A B C (x*u0 + y*u2) (z*u0 + t*u2)) (Red.qB A B C (x*u0 + y*u2) (x*u1 + y*u3) (z*u0 + t*u2) (z*u1 + t*u3)) (Red.qv A B C (x*u1 + y*u3) (z*u1 + t*u3)) (-u1) u0 = Red.qv A B C y t := by
      rw [q1, q2, qBc, Red.qv_ch]
      have a1 : u0 * -u1 + u1 * u0 = 0 := by grind
      have a2 : u2 * -u1 + u3 * u0 = u0*u3 - u1*u2 := by grind
      rw [a1, a2]
      have : ∀ P Q R g : Int, g * g = 1 → Red.qv P Q R 0 g = R := fun P Q R g hg => by unfold Red.qv; grind
      exact this _ _ _ _ du'
    rw [c1, c2] at hsum
    -- the third form
    have hm1 := Red.mid_lt hJ1 hA1 hC1
    have k3 := Red.qv_one hm1 hA1 hC1 hv0 hv2
    have k4 := Red.qv_one hm1 hA1 hC1 hv1 hv3
    have hwv : Red.Way A B C M (mz (mz (x, y, z, t) (u0, u1, u2, u3)) (v0, v1, v2, v3)) := by
      refine ⟨?_, ?_⟩
      · exact dt2_mz (dt2_mz (u := (x, y, z, t)) (v := (u0, u1, u2, u3)) w1 du) dv
      · rw [Red.qv_ch] at k3 k4
        unfold mz; dsimp only; omega
    have e2 : ch (ch (a, b, c, d) (mz (x, y, z, t) (u0, u1, u2, u3))) (v0, v1, v2, v3) = ch (a, b, c, d) (mz (mz (x, y, z, t) (u0, u1, u2, u3)) (v0, v1, v2, v3)) := ch_ch _ _ _
    rw [e1, e2, mz_assoc] at r1 r2 r3
    rw [mz_assoc] at hwv
    have dd := dt2_mz (u := (u0, u1, u2, u3)) (v := (v0, v1, v2, v3)) du dv
    generalize mz (u0, u1, u2, u3) (v0, v1, v2, v3) = V at hwv r1 r2 r3 dd ⊢
    obtain ⟨V0, V1, V2, V3⟩ := V
    have n2 := Red.Way.near h hwv
    have l6 := n2.leftP r1
    have l7 := n2.rightP r2
    have l8 := n2.highP r3
    have hA2 := n2.hA
    dsimp only at l6 l7 l8 hA2
    rw [← Red.qv_ch A B C x y z t] at hA2
    rw [← Red.qv_ch A B C x y z t, qBc] at l6 l7
    rw [← Red.qv_ch A B C x y z t, ← Red.qv_ch A B C x y z t] at l8
    exact def_sm (A := Red.qv A B C x z) (B := Red.qB A B C x y z t) (C := Red.qv A B C y t) hA0 (by omega) (by omega) (by omega) hA2 (by omega) (by omega) (by omega) dd
end Rd

end Go.Proofs.Ytikmjefbjejbkaa

/- Chapter 2: the reduced forms: what the program's sorted keys are. -/
namespace Go.Proofs.Ytikmjefbjejbkaa
open Go.RowKit

/-- The reduced forms of the class, in order. -/
noncomputable def frms (a b c d : Int) : List Red.F4 := Classical.epsilon (Rd.Got (decide (0 < dsc a b c d)) (cls a b c d).1 (Rd.uni 81))
theorem got_frms {a b c d : Int} {xs : List Red.F4} (h : Rd.Got (decide (0 < dsc a b c d)) (cls a b c d).1 (Rd.uni 81) xs) : xs = frms a b c d := by
  have h2 : Rd.Got (decide (0 < dsc a b c d)) (cls a b c d).1 (Rd.uni 81) (frms a b c d) := Classical.epsilon_spec (p := Rd.Got (decide (0 < dsc a b c d)) (cls a b c d).1 (Rd.uni 81)) ⟨xs, h⟩
  exact Rd.Srt.eq h.1 h2.1 fun q => (h.2 q).trans (h2.2 q).symm
/-- All of a list's forms lie within the limit. -/
def alF (L : List Red.F4) : Bool := L.all fun q => isF q.1 q.2.1 q.2.2.1 q.2.2.2
noncomputable def rfc (a b c d : Int) : Int := if rcd a b c d = 0 then (if alF (frms a b c d) then 0 else 3) else rcd a b c d
def RfOut (a b c d : Int) (w : World) (e : Ending) (w' : World) : Prop := FlsOut (rfc a b c d) (frms a b c d).length (fun i => ((frms a b c d).flatMap gm4).getD i 0) w e w' ∧ (if rfc a b c d = 0 then (frms a b c d).length else 0) ≤ 1000
theorem RowFm.out {B : Nat} {w : World} {v : Value} {L : List Red.F4} (h : RowFm B w v L) : OwnX B w v L.length (fun i => (L.flatMap gm4).getD i 0) := by
  rcases h.2 with ⟨rfl, hn⟩ | ⟨g, cap, cur, rfl, hb, hg, hnc, hcm, hs, ht⟩
  · exact .inl ⟨rfl, hn⟩
  · refine .inr ⟨g, cap, rfl, hb, hnc, hcm, (Array.getElem?_eq_some_iff.1 hg).1, fun i hi => ⟨?_, by simp [World.frozen?, hg]⟩⟩
    have hl := gm4_len L
    have hx : (L.flatMap hm4)[i]? = some (.int .i64 ((L.flatMap gm4).getD i 0)) := by
      have hlt : i < (L.flatMap gm4).length := by omega
      rw [hm4_map, List.getElem?_map, List.getElem?_eq_getElem hlt]
      simp only [Option.map_some, List.getD, List.getElem?_eq_getElem hlt, Option.getD_some]
    rw [← ht, List.getElem?_take] at hx
    split at hx
    · simp [World.cell?, hg]
      simpa using hx
    · cases hx
theorem Rd.Asc.srt {L : List Red.F4} (h : Rd.Asc L) (hn : L.Nodup) : Rd.Srt L := by
  unfold Rd.Asc at h
  unfold Rd.Srt
  refine List.Pairwise.imp ?_ (List.Pairwise.and h hn)
  intro x y ⟨h1, h2⟩
  by_cases h3 : Rd.Ls x y
  · exact h3
  · exact (h2 (Rd.Ls.total h3 h1)).elim
set_option maxHeartbeats 1000000 in
theorem sortedF_any (gf : Nat) (lb : Array Value) (S Sp : List Red.F4 → Prop) (N : Nat) (hN : N ≤ 1000) (w : World) (eg : ∀ args w, (callFunc gf args).run Try.prog w = .ok (.enter gf args) w)
    (hseq : SeqStopsK Fence.wide 2 Try.prog gf lb encK KeepsWalks S Sp N w) (hS : ∀ xs, S xs → xs ≠ [] ∧ xs.length ≤ 1000) :
    Calls Try.prog 65 #[.func (.func gf) #[] lb, .func (.func 68) #[] #[]] w fun e w' =>
      ∃ g n cap xs ys, e = .returned (.slice (some ⟨g, 0, none⟩) n cap) ∧ S xs ∧ ys.Perm xs ∧ Rd.Asc ys ∧ RowFm w.heap.size w' (.slice (some ⟨g, 0, none⟩) n cap) ys ∧ Below w.heap.size w w' := by
  have hC := collect_any gf lb S Sp N hN w eg hseq
  go_enter Try.func65, Try.ntmps65
  go_wp2_with fail
  refine hC.mono ?_
  rintro e w1 ⟨v, xs, rfl, hx, hrow, hb⟩
  obtain ⟨h1, h2⟩ := hS xs hx
  obtain ⟨g, cap, rfl⟩ : ∃ g cap, v = .slice (some ⟨g, 0, none⟩) xs.length cap := by
    rcases hrow.2 with ⟨_, h0⟩ | ⟨g, cap, cur, hv, _⟩
    · exact (h1 (List.eq_nil_of_length_eq_zero h0)).elim
    · exact ⟨g, cap, hv⟩
  have hst := hid (sortF_any (B := w.heap.size) hrow h2)
  clear hC hrow
  go_wp2_with fail
  refine hst.out.mono ?_
  rintro e w2 ⟨rfl, ys, hp, ha, hr, hb2⟩
  go_wp2
  go_ret
  exact ⟨_, _, _, _, ys, rfl, hx, hp, ha, hr, hb.trans hb2⟩
theorem iWy_any (a b c d : Int) (h : rcd a b c d = 0) (w : World) :
    Calls Try.prog 67 #[.agg #[.int .i64 a, .int .i64 b, .int .i64 c, .int .i64 d]] w fun e w' => ∃ bm L B, e = .returned (.map (some bm)) ∧ Mp w' bm L ∧ Wys B w' (Rd.grp (decide (0 < dsc a b c d)) (cls a b c d).1 (cls a b c d).2.1 (Rd.uni 81)) L ∧ w.heap.size ≤ B ∧ w.heap.size ≤ bm ∧ Below w.heap.size w w' := by
  obtain ⟨h1, h2, h3, h4, h5, h6, h7, h8⟩ := cls_spec h
  refine iWays_any a b c d (decide (0 < dsc a b c d)) (cls a b c d).1 (cls a b c d).2.1 h4 h5 ?_ h7 w
  unfold sg
  (repeat' split) <;> simp <;> omega

end Go.Proofs.Ytikmjefbjejbkaa

/- FnNormalForms: what its law says of the answers. Mathematics alone. -/
namespace Go.Proofs.Ytikmjefbjejbkaa
open Go.RowKit
theorem run_red {s : Bool} {t : Red.F4} (h : Red.rdF s t = true) (n : Nat) (m : Red.F4) : Rd.run s n t m = (t, m) := by
  cases n with
  | zero => rfl
  | succ n => rw [Rd.run, if_pos h]
/-- Two small steps between reduced forms are one. -/
theorem cls_cl {a b c d : Int} (h : rcd a b c d = 0) {u v : Red.F4} (hu : Rd.Sm u) (du : Rd.dt u * Rd.dt u = 1) (hv : Rd.Sm v) (dv : Rd.dt v * Rd.dt v = 1)
    (hN : Red.rdF (decide (0 < dsc a b c d)) (Rd.ch (cls a b c d).1 u) = true) (hM : Red.rdF (decide (0 < dsc a b c d)) (Rd.ch (Rd.ch (cls a b c d).1 u) v) = true) : Rd.Sm (Rd.mz u v) := by
  obtain ⟨_, _, h3, _⟩ := cls_spec h
  have hs := cls_sgn h
  obtain ⟨_, hr, _⟩ := rcd_0 h
  obtain ⟨ka, kb, kc, kd⟩ := isR_t hr
  obtain ⟨_, _, _, _, _, h6, _⟩ := cls_spec h
  obtain ⟨n, hn⟩ := (cls_both h).2
  generalize decide (0 < dsc a b c d) = s at *
  cases s with
  | true => exact Rd.sm_pos (hs.1 rfl) h3 (by rw [← Rd.ch_ch]; exact hM) (Rd.dt2_mz du dv)
  | false =>
    have hD := hs.2 rfl
    obtain ⟨S, p, q, A, B, C, e, M, J, r, hNr⟩ := Red.near_ex (by rw [← h6]; exact hD) ka kb kc kd
    obtain ⟨m, hw, hm⟩ := Rd.run_way hNr n (a, b, c, d) (1, 0, 0, 1) (1, 0, 0, 1) (Rd.way_one hNr) (Rd.ch_one _)
    rw [hn] at hm
    dsimp only at hm
    rw [← hm] at hD h3 hN hM
    exact Rd.cl_neg hNr hw hD h3 hu du hv dv hN hM
theorem ivz_sm {u : Red.F4} (h : Rd.Sm u) (hd : Rd.dt u * Rd.dt u = 1) : Rd.Sm (Rd.ivz u) := by
  obtain ⟨h1, h2, h3, h4⟩ := h
  unfold Rd.Sm Rd.ivz
  rcases Rd.dt_cases hd with k | k <;> rw [k] <;> dsimp only <;> omega
theorem nfm_dsc {a b c d : Int} (h : rcd a b c d = 0) {u : Red.F4} (hd : Rd.dt u * Rd.dt u = 1) : dsc (Rd.ch (cls a b c d).1 u).1 (Rd.ch (cls a b c d).1 u).2.1 (Rd.ch (cls a b c d).1 u).2.2.1 (Rd.ch (cls a b c d).1 u).2.2.2 = dsc a b c d := by
  obtain ⟨_, _, _, _, _, h6, _⟩ := cls_spec h
  rw [dsc_wrR, dsc_wrR a b c d]
  have := Rd.dscF_ch (cls a b c d).1 u hd
  rw [h6] at this
  congr 1
/-- The normal form of a normal form is itself. -/
theorem nf_again {a b c d : Int} (h : nfc a b c d = 0) : rcd (nfm a b c d).1 (nfm a b c d).2.1 (nfm a b c d).2.2.1 (nfm a b c d).2.2.2 = 2 ∨
    (rcd (nfm a b c d).1 (nfm a b c d).2.1 (nfm a b c d).2.2.1 (nfm a b c d).2.2.2 = 0 ∧ nfm (nfm a b c d).1 (nfm a b c d).2.1 (nfm a b c d).2.2.1 (nfm a b c d).2.2.2 = nfm a b c d ∧ rd0 (nfm a b c d).1 (nfm a b c d).2.1 (nfm a b c d).2.2.1 (nfm a b c d).2.2.2 = true) := by
  have hk : rcd a b c d = 0 ∧ isF (nfm a b c d).1 (nfm a b c d).2.1 (nfm a b c d).2.2.1 (nfm a b c d).2.2.2 = true := by
    unfold nfc at h
    by_cases k : rcd a b c d = 0
    · rw [if_pos k] at h
      refine ⟨k, ?_⟩
      cases e : isF (nfm a b c d).1 (nfm a b c d).2.1 (nfm a b c d).2.2.1 (nfm a b c d).2.2.2
      · rw [e] at h; cases h
      · rfl
    · rw [if_neg k] at h; exact (k h).elim
  obtain ⟨hf, hF⟩ := hk
  obtain ⟨hN, u0, hu0⟩ := nfm_rd hf
  obtain ⟨u1, u2, u3⟩ := Rd.wus_iff.1 hu0
  have hdN := nfm_dsc hf u2
  obtain ⟨_, _, hT, _⟩ := cls_spec hf
  obtain ⟨_, _, hd0⟩ := rcd_0 hf
  rw [u3] at hdN
  generalize hNe : nfm a b c d = N at *
  obtain ⟨n0, n1, n2, n3⟩ := N
  dsimp only at *
  by_cases hr : isR n0 n1 n2 n3 = true
  · right
    have hrc : rcd n0 n1 n2 n3 = 0 := by unfold rcd; rw [hF, hr, hdN]; simp [hd0]
    obtain ⟨m, hm⟩ := (cls_both hrc).2
    have hsd : decide (0 < dsc n0 n1 n2 n3) = decide (0 < dsc a b c d) := by rw [hdN]
    rw [hsd, run_red hN] at hm
    have hcN : (cls n0 n1 n2 n3).1 = (n0, n1, n2, n3) := (congrArg (·.1) hm).symm
    refine ⟨hrc, ?_, ?_⟩
    · have e1 : nfm n0 n1 n2 n3 = Rd.nrm (decide (0 < dsc a b c d)) (n0, n1, n2, n3) := by unfold nfm; rw [hcN, hsd]
      have e3 : nfm a b c d = Rd.nrm (decide (0 < dsc a b c d)) (cls a b c d).1 := rfl
      rw [e1]
      refine Eq.trans ?_ hNe
      rw [e3]
      unfold Rd.nrm
      refine Rd.mn_set (fun e => ?_) fun q => ?_
      · have := Rd.nrm_has hN
        rw [e] at this; cases this
      · simp only [List.mem_map, List.mem_filter]
        constructor
        · rintro ⟨w, ⟨hw, hwr⟩, rfl⟩
          obtain ⟨w1, w2⟩ := Rd.uni_mem (Nat.le_refl _) hw
          refine ⟨Rd.mz u0 w, ⟨Rd.uni_has (cls_cl hf u1 u2 w1 w2 (by rw [u3]; exact hN) (by rw [u3]; exact hwr)) (Rd.dt2_mz u2 w2), ?_⟩, ?_⟩
          · rw [← Rd.ch_ch, u3]; exact hwr
          · rw [← Rd.ch_ch, u3]
        · rintro ⟨v, ⟨hv, hvr⟩, rfl⟩
          obtain ⟨v1, v2⟩ := Rd.uni_mem (Nat.le_refl _) hv
          have hTN : Rd.ch (n0, n1, n2, n3) (Rd.ivz u0) = (cls a b c d).1 := by rw [← u3, Rd.ch_ch, Rd.mz_ivz u2, Rd.ch_one]
          have hcl := cls_cl hrc (ivz_sm u1 u2) (Rd.dt2_ivz u2) v1 v2 (by rw [hcN, hTN, hsd]; exact hT) (by rw [hcN, hTN, hsd]; exact hvr)
          refine ⟨Rd.mz (Rd.ivz u0) v, ⟨Rd.uni_has hcl (Rd.dt2_mz (Rd.dt2_ivz u2) v2), ?_⟩, ?_⟩
          · rw [← Rd.ch_ch, hTN]; exact hvr
          · rw [← Rd.ch_ch, hTN]
    · unfold rd0 rdd
      rw [hrc, hsd]
      have : nn3 (mg1 (decide (0 < dsc a b c d)) n0 n1 n2 n3) (mg2 (decide (0 < dsc a b c d)) n0 n1 n2 n3) (mg3 (decide (0 < dsc a b c d)) n0 n1 n2 n3) = Red.rdF (decide (0 < dsc a b c d)) (n0, n1, n2, n3) := rfl
      rw [this, hN]; rfl
  · left
    unfold rcd
    rw [hF, if_pos rfl, if_neg hr]
theorem nodup_of : ∀ L : List Red.F4, ∃ xs : List Red.F4, xs.Nodup ∧ ∀ q, q ∈ xs ↔ q ∈ L := by
  intro L
  induction L with
  | nil => exact ⟨[], List.nodup_nil, fun q => Iff.rfl⟩
  | cons x r ih =>
    obtain ⟨xs, h1, h2⟩ := ih
    by_cases hx : x ∈ xs
    · refine ⟨xs, h1, fun q => ?_⟩
      rw [List.mem_cons, h2]
      constructor
      · exact .inr
      · rintro (rfl | h)
        · exact (h2 q).1 hx
        · exact h
    · refine ⟨x :: xs, List.nodup_cons.2 ⟨hx, h1⟩, fun q => ?_⟩
      rw [List.mem_cons, List.mem_cons, h2]
theorem frms_got {a b c d : Int} : Rd.Got (decide (0 < dsc a b c d)) (cls a b c d).1 (Rd.uni 81) (frms a b c d) := by
  obtain ⟨xs, h1, h2⟩ := nodup_of (((Rd.uni 81).filter fun u => Red.rdF (decide (0 < dsc a b c d)) (Rd.ch (cls a b c d).1 u)).map (Rd.ch (cls a b c d).1))
  obtain ⟨ys, k1, k2⟩ := Rd.asc_ex xs
  refine Classical.epsilon_spec (p := Rd.Got (decide (0 < dsc a b c d)) (cls a b c d).1 (Rd.uni 81)) ⟨ys, k1.srt (k2.nodup_iff.2 h1), fun q => ?_⟩
  rw [k2.mem_iff, h2]
  simp only [List.mem_map, List.mem_filter]
  constructor
  · rintro ⟨u, ⟨h1, h2⟩, h3⟩; exact ⟨u, h1, h2, h3⟩
  · rintro ⟨u, h1, h2, h3⟩; exact ⟨u, ⟨h1, h2⟩, h3⟩
theorem isF_dsc0 {a b c d : Int} (h : isF a b c d = true) : dsc0 a b c d = dsc a b c d ∧ cif a b c d = 0 := by
  unfold dsc0 cif; rw [h]; exact ⟨rfl, rfl⟩
/-- The reduced forms: the first one is the normal form; all have the form's discriminant. -/
theorem rf_law {a b c d : Int} (h : rfc a b c d = 0) : nfc a b c d = 0 ∧ cif a b c d = 0 ∧ 0 < (frms a b c d).length ∧ (frms a b c d)[0]? = some (nfm a b c d) ∧
    ∀ q ∈ frms a b c d, dsc0 q.1 q.2.1 q.2.2.1 q.2.2.2 = dsc0 a b c d ∧ cif q.1 q.2.1 q.2.2.1 q.2.2.2 = 0 := by
  have hk : rcd a b c d = 0 ∧ alF (frms a b c d) = true := by
    unfold rfc at h
    by_cases k : rcd a b c d = 0
    · rw [if_pos k] at h
      refine ⟨k, ?_⟩
      cases e : alF (frms a b c d)
      · rw [e] at h; cases h
      · rfl
    · rw [if_neg k] at h; exact (k h).elim
  obtain ⟨hf, hal⟩ := hk
  obtain ⟨_, _, hT, _⟩ := cls_spec hf
  have hfF := (rcd_0 hf).1
  have h0 : (frms a b c d)[0]? = some (nfm a b c d) := Rd.got_nrm frms_got hT
  have hq : ∀ q ∈ frms a b c d, isF q.1 q.2.1 q.2.2.1 q.2.2.2 = true := fun q hq => by
    unfold alF at hal
    exact List.all_eq_true.1 hal q hq
  have hn := hq _ (List.mem_of_getElem? h0)
  refine ⟨by unfold nfc; rw [if_pos hf, hn]; rfl, (isF_dsc0 hfF).2, (List.getElem?_eq_some_iff.1 h0).1, h0, fun q hm => ?_⟩
  obtain ⟨u, k1, _, rfl⟩ := (frms_got.2 q).1 hm
  obtain ⟨_, k2⟩ := Rd.uni_mem (Nat.le_refl _) k1
  refine ⟨?_, (isF_dsc0 (hq _ hm)).2⟩
  rw [(isF_dsc0 (hq _ hm)).1, (isF_dsc0 hfF).1]
  exact nfm_dsc hf k2
theorem det0_dt {m : Red.F4} (hm : isF m.1 m.2.1 m.2.2.1 m.2.2.2 = true) : det0 m.1 m.2.1 m.2.2.1 m.2.2.2 = Rd.dt m := by
  obtain ⟨m0, m1, m2, m3⟩ := m
  obtain ⟨ma, mb, mc, md⟩ := isF_t hm
  dsimp only at *
  have n1 := Red.mb ma md
  have n2 := Red.mb mb mc
  unfold det0 det mi mu
  rw [hm, if_pos rfl, wr_sl, wr_sr]
  exact wr_in (by omega)
/-- The reducing matrix changes the form to its normal form. -/
theorem rm_law {a b c d : Int} (h : rmc a b c d = 0) (hn : nfc a b c d = 0) : ChTo (a, b, c, d) (nfm a b c d) (rdm a b c d) ∧ (det0 (rdm a b c d).1 (rdm a b c d).2.1 (rdm a b c d).2.2.1 (rdm a b c d).2.2.2 = 1 ∨ det0 (rdm a b c d).1 (rdm a b c d).2.1 (rdm a b c d).2.2.1 (rdm a b c d).2.2.2 = -1) ∧ cif (rdm a b c d).1 (rdm a b c d).2.1 (rdm a b c d).2.2.1 (rdm a b c d).2.2.2 = 0 := by
  have hk : rcd a b c d = 0 ∧ isF (rdm a b c d).1 (rdm a b c d).2.1 (rdm a b c d).2.2.1 (rdm a b c d).2.2.2 = true := by
    unfold rmc at h
    by_cases k : rcd a b c d = 0
    · rw [if_pos k] at h
      refine ⟨k, ?_⟩
      cases e : isF (rdm a b c d).1 (rdm a b c d).2.1 (rdm a b c d).2.2.1 (rdm a b c d).2.2.2
      · rw [e] at h; cases h
      · rfl
    · rw [if_neg k] at h; exact (k h).elim
  obtain ⟨hf, hm⟩ := hk
  have hnF : isF (nfm a b c d).1 (nfm a b c d).2.1 (nfm a b c d).2.2.1 (nfm a b c d).2.2.2 = true := by
    unfold nfc at hn
    rw [if_pos hf] at hn
    cases e : isF (nfm a b c d).1 (nfm a b c d).2.1 (nfm a b c d).2.2.1 (nfm a b c d).2.2.2
    · rw [e] at hn; cases hn
    · rfl
  obtain ⟨u, hu, hX⟩ := way_ex hf (Rd.mn_mem (nwy_ne hf)).1
  obtain ⟨y1, y2, y3⟩ := cly_spec hf
  obtain ⟨_, k2, k3⟩ := Rd.wus_iff.1 hu
  have hX' : rdm a b c d = Rd.wrF (Rd.mz (cly a b c d) u) := hX
  have hd := Rd.dt_small hm hX' (Rd.dt2_mz y1 k2)
  refine ⟨chTo (rcd_0 hf).1 hm hnF (Rd.ch_small (rcd_0 hf).1 hm hnF hX' (by rw [← Rd.ch_ch, y2, k3])), ?_, (isF_dsc0 hm).2⟩
  rw [det0_dt hm]; exact hd

end Go.Proofs.Ytikmjefbjejbkaa

/- Draws of chapter 2: forms that mostly are reduced. -/
namespace Go.Proofs.Ytikmjefbjejbkaa
open Go.ChangeShapes Go.WideShapes Go.ChangeAt Go.RowKit

set_option maxRecDepth 100000 in
set_option maxHeartbeats 4000000 in
theorem drawIR_any (a : Option Addr) (len cap : Nat) (zs : List Int) (w : World) (hR : IsRow .u8 w a len cap zs) (hlen : len ≤ 9223372036854775807) :
    Calls Try.prog 26 #[.slice a len cap] w (FrmO2 w) := by
  have R0 := Arr.new w 0 0 0 0 26
  have U0 := gr_alloc (Below.refl w.heap.size w) (.cells #[.int .i64 0, .int .i64 0, .int .i64 0, .int .i64 0] 26)
  have hR0 := row8_nx hR (gr_alloc (Below.refl w.heap.size w) (.cells #[.int .i64 0, .int .i64 0, .int .i64 0, .int .i64 0] 26))
  clear hR
  go_enter Try.func26, Try.ntmps26
  go_wp2_with fail
  refine (from_any a len cap zs _ hR0 hlen).mono ?_
  rintro e w1 ⟨rfl, S1', hb1⟩
  have R1 := R0.next hb1
  have U1 := gr_trans U0 hb1
  simp only [World.size_alloc] at S1' ⊢
  have S1 := hid S1'
  clear S1' hR0 R0 U0 hb1
  generalize hk : w.heap.size + 1 = k at S1 ⊢
  go_wp2_with fail
  refine (l02Draw_any _ a len cap zs _ S1.out).mono ?_
  rintro e w2 ⟨z0, z1, z2, z3, rfl, S2', G2⟩
  have R2 := R1.gk G2 (by omega)
  have U2 := Gk.out U1 G2 (by omega)
  have hk2 := S2'.lt
  have X3 := Arr.new w2 z0 z1 z2 z3 26
  have S3 := hid (S2'.alloc (.cells #[.int .i64 z0, .int .i64 z1, .int .i64 z2, .int .i64 z3] 26))
  have R3 := R2.alloc (.cells #[.int .i64 z0, .int .i64 z1, .int .i64 z2, .int .i64 z3] 26)
  have U3 := gr_alloc U2 (.cells #[.int .i64 z0, .int .i64 z1, .int .i64 z2, .int .i64 z3] 26)
  clear S1 S2' R1 U1 G2 R2 U2
  obtain ⟨j, hj⟩ : ∃ j, j = w2.heap.size := ⟨_, rfl⟩
  rw [← hj] at X3 hk2
  go_upto_region 3 with fail
  rw [← hj]
  generalize w2.alloc (.cells #[.int .i64 z0, .int .i64 z1, .int .i64 z2, .int .i64 z3] 26) = W3 at X3 S3 R3 U3 ⊢
  clear hj
  obtain ⟨_, x0, x1, x2, x3, _⟩ := id X3
  go_cut [19] (fun s19 wx => ∃ b, s19 = .bool b ∧ Arr wx j z0 z1 z2 z3 ∧ Arr wx w.heap.size 0 0 0 0 ∧ Below w.heap.size w wx)
  case first =>
    have B4 := Arr.new W3 z0 z1 z2 z3 26
    go_wp2_with fail
    refine (sCode1_any _ z0 z1 z2 z3 _ B4).mono ?_
    rintro e w5 ⟨rfl, hb5⟩
    have X5 := (X3.alloc (.cells #[.int .i64 z0, .int .i64 z1, .int .i64 z2, .int .i64 z3] 26)).next hb5; have R5 := (R3.alloc (.cells #[.int .i64 z0, .int .i64 z1, .int .i64 z2, .int .i64 z3] 26)).next hb5
    have S5 := hid ((S3.out.alloc (.cells #[.int .i64 z0, .int .i64 z1, .int .i64 z2, .int .i64 z3] 26)).below hb5)
    have U5 := gr_trans (gr_alloc U3 (.cells #[.int .i64 z0, .int .i64 z1, .int .i64 z2, .int .i64 z3] 26)) hb5
    clear X3 R3 S3 U3 B4 hb5 x0 x1 x2 x3
    by_cases h : rcd z0 z1 z2 z3 = 0
    · have hb : (rcd z0 z1 z2 z3 == 0) = true := by simpa using h
      clear h
      go_wp2_with fail
      refine (next_any k a len cap zs 2 _ S5.out).mono ?_
      rintro e w6 ⟨x, rfl, _, _, S6', G6⟩
      have X6 := X5.gk G6 (by omega); have R6 := R5.gk G6 (by omega)
      have U6 := Gk.out U5 G6 (by omega)
      clear X5 R5 S5 U5 S6' G6
      go_wp2_with fail
      go_meet
      exact ⟨_, rfl, X6, R6, U6⟩
    · have hb : (rcd z0 z1 z2 z3 == 0) = false := by simpa using h
      clear h
      go_wp2_with fail
      go_meet
      exact ⟨_, rfl, X5, R5, U5⟩
  case rest =>
    obtain ⟨b, rfl, X, R, U⟩ := hcut
    clear X3 R3 S3 U3 x0 x1 x2 x3
    obtain ⟨_, x0, x1, x2, x3, _⟩ := id X
    obtain ⟨_, r0, r1, r2, r3, f0, f1, f2, f3⟩ := id R
    have hjl := X.lt; have hrl := R.lt
    cases b with
    | false =>
      go_wp2_with fail
      refine bodyPost_ret (res_A1 (e := 2) rfl Try.underlying26 (by kernel_rfl) rfl (Arr.store4 R.box)) rfl ?_
      exact ⟨_, _, _, _, rfl, by (repeat' (first | with_reducible exact Below.refl _ _ | with_reducible assumption | with_reducible refine gr_alloc ?_ _ | with_reducible refine gr_drew ?_ | with_reducible refine gr_drewN ?_ _ | with_reducible refine gr_trans ?_ (by assumption) | with_reducible refine gr_set ?_ ?_ _ | (simp; done) | omega | (simp; omega)))⟩
    | true =>
      have HN := hid (fun W => sNormalForm_any z0 z1 z2 z3 W)
      unfold NfOut at HN
      generalize nfc z0 z1 z2 z3 = kc at HN
      generalize nfv z0 z1 z2 z3 (fun x => x.1) = n0 at HN
      generalize nfv z0 z1 z2 z3 (fun x => x.2.1) = n1 at HN
      generalize nfv z0 z1 z2 z3 (fun x => x.2.2.1) = n2 at HN
      generalize nfv z0 z1 z2 z3 (fun x => x.2.2.2) = n3 at HN
      clear r0 r1 r2 r3 f0 f1 f2 f3
      go_wp2_with fail
      refine (HN.out _).mono ?_
      rintro e w7 ⟨rfl, hb7⟩
      have N8 := Arr.new w7 n0 n1 n2 n3 26
      have X8 := (X.next hb7).alloc (.cells #[.int .i64 n0, .int .i64 n1, .int .i64 n2, .int .i64 n3] 26)
      have R8 := (R.next hb7).alloc (.cells #[.int .i64 n0, .int .i64 n1, .int .i64 n2, .int .i64 n3] 26)
      have U8 := gr_alloc (gr_trans U hb7) (.cells #[.int .i64 n0, .int .i64 n1, .int .i64 n2, .int .i64 n3] 26)
      clear X R U hb7 HN x0 x1 x2 x3
      go_upto_region 5 with fail
      generalize w7.heap.size = jn at *
      generalize w7.alloc (.cells #[.int .i64 n0, .int .i64 n1, .int .i64 n2, .int .i64 n3] 26) = W8 at N8 X8 R8 U8 ⊢
      obtain ⟨_, x0, x1, x2, x3, _⟩ := id X8
      obtain ⟨_, y0, y1, y2, y3, _⟩ := id N8
      obtain ⟨_, r0, r1, r2, r3, f0, f1, f2, f3⟩ := id R8
      by_cases h : kc = 0
      · have hb : (kc == 0) = true := by simpa using h
        clear h
        go_wp2_with fail
        refine bodyPost_ret (res_A1 (e := 2) rfl Try.underlying26 (by kernel_rfl) rfl (Arr.store4 R8.box)) rfl ?_
        exact ⟨_, _, _, _, rfl, by (repeat' (first | with_reducible exact Below.refl _ _ | with_reducible assumption | with_reducible refine gr_alloc ?_ _ | with_reducible refine gr_drew ?_ | with_reducible refine gr_drewN ?_ _ | with_reducible refine gr_trans ?_ (by assumption) | with_reducible refine gr_set ?_ ?_ _ | (simp; done) | omega | (simp; omega)))⟩
      · have hb : (kc == 0) = false := by simpa using h
        clear h
        go_wp2_with fail
        refine bodyPost_ret (res_A1 (e := 2) rfl Try.underlying26 (by kernel_rfl) rfl (Arr.store4 R8.box)) rfl ?_
        exact ⟨_, _, _, _, rfl, by (repeat' (first | with_reducible exact Below.refl _ _ | with_reducible assumption | with_reducible refine gr_alloc ?_ _ | with_reducible refine gr_drew ?_ | with_reducible refine gr_drewN ?_ _ | with_reducible refine gr_trans ?_ (by assumption) | with_reducible refine gr_set ?_ ?_ _ | (simp; done) | omega | (simp; omega)))⟩

end Go.Proofs.Ytikmjefbjejbkaa

/- Chapter 2: ReducedForms: the program. -/
namespace Go.Proofs.Ytikmjefbjejbkaa
open Go.RowKit

set_option maxRecDepth 100000 in
set_option maxHeartbeats 4000000 in
theorem iReducedForms_any (a b c d : Int) (w : World) : Calls Try.prog 23 #[.agg #[.int .i64 a, .int .i64 b, .int .i64 c, .int .i64 d]] w (RfOut a b c d w) := by
  have A0 := (Arr.new w a b c d 26).alloc (.cells #[.int .i64 a, .int .i64 b, .int .i64 c, .int .i64 d] 26)
  have B0 := Arr.new (w.alloc (.cells #[.int .i64 a, .int .i64 b, .int .i64 c, .int .i64 d] 26)) a b c d 26
  have U0 := gr_alloc (gr_alloc (Below.refl w.heap.size w) (.cells #[.int .i64 a, .int .i64 b, .int .i64 c, .int .i64 d] 26)) (.cells #[.int .i64 a, .int .i64 b, .int .i64 c, .int .i64 d] 26)
  simp only [World.size_alloc] at B0
  go_enter Try.func23, Try.ntmps23
  go_wp2_with fail
  refine (iCheck1_any _ a b c d _ B0).mono ?_
  rintro e w1 ⟨rfl, hb1⟩
  have A1 := A0.next hb1; have U1 := gr_trans U0 hb1
  clear A0 B0 U0 hb1
  unfold RfOut
  by_cases hk : rcd a b c d = 0
  · have HW := hid (fun W => iWy_any a b c d hk W)
    have HC : Hid (rfc a b c d = if alF (frms a b c d) then 0 else 3) := hid (by unfold rfc; rw [if_pos hk])
    have HGF : Hid (∀ xs, Rd.Got (decide (0 < dsc a b c d)) (cls a b c d).1 (Rd.uni 81) xs → xs = frms a b c d) := hid (fun xs h => got_frms h)
    have hke : (Rd.grp (decide (0 < dsc a b c d)) (cls a b c d).1 (cls a b c d).2.1 (Rd.uni 81)).map (·.1) ≠ [] := by
      intro e
      have h1 : (cls a b c d).1 ∈ (Rd.grp (decide (0 < dsc a b c d)) (cls a b c d).1 (cls a b c d).2.1 (Rd.uni 81)).map (·.1) := (Rd.grp_keys _ _ _ _ _).2 ⟨(1, 0, 0, 1), Rd.uni_has (by unfold Rd.Sm; decide) (by decide), by rw [Rd.ch_one]; exact (cls_spec hk).2.2.1, Rd.ch_one _⟩
      rw [e] at h1; cases h1
    have HKE := hid hke
    have HN := hid (Rd.grp_num (decide (0 < dsc a b c d)) (cls a b c d).1 (cls a b c d).2.1 (Rd.uni 81))
    have HL := hid (Rd.uni_len 81)
    have HGK := hid (Rd.grp_keys (decide (0 < dsc a b c d)) (cls a b c d).1 (cls a b c d).2.1 (Rd.uni 81))
    rw [hk]
    clear hk hke
    generalize decide (0 < dsc a b c d) = s at *
    generalize (cls a b c d).1 = T at *
    generalize (cls a b c d).2.1 = M at *
    generalize Rd.uni 81 = us at *
    generalize Rd.grp s T M us = G at *
    obtain ⟨_, a0, a1, a2, a3, _⟩ := id A1
    go_wp2_with fail
    refine (HW.out _).mono ?_
    rintro e w2 ⟨bm, L, BB, rfl, hmp, hwy, hBB, hbm, hb2⟩
    have U2 := gr_trans U1 hb2
    have HWY := hid hwy
    have HMP := hid hmp
    clear a0 a1 a2 a3 A1 U1 hb2 hmp hwy HW
    go_wp2_with fail
    refine (mapKeys_any bm _).mono ?_
    rintro e w3 ⟨rfl, hw3⟩
    have hk3 : w3.cell? ⟨w2.heap.size, 0, none⟩ = some (.map (some bm)) := by rw [hw3]; simp [go_sem]
    have hs3 : w2.heap.size < w3.heap.size := by rw [hw3]; simp
    have hb3 : Below w2.heap.size w2 w3 := by rw [hw3]; exact gr_alloc (Below.refl _ _) _
    clear hw3
    have U3 := gr_trans U2 hb3
    have HP3 := hid (HMP.out.nextW hb3)
    have hLl := HWY.out.len
    have hLn : L.length ≤ 1000 := by have := HN.out; have := HL.out; omega
    have hst := keys_stops w2.heap.size bm 2 L w3 (by omega) hs3 hk3 HP3.out
    have hLne : L.map (·.1) ≠ [] := by rw [HWY.out.keys]; exact HKE.out
    have HC3 := hid (sortedF_any 113 #[.pointer (some ⟨w2.heap.size, 0, none⟩)] (fun xs => xs.Perm (L.map (·.1))) (fun _ => True) L.length hLn w3 (enters_of Try.func113 (by kernel_rfl) rfl) hst (fun xs hx => ⟨fun e => hLne (by rw [e] at hx; exact List.Perm.nil_eq hx |>.symm), by have := hx.length_eq; rw [List.length_map] at this; omega⟩))
    clear hst hk3 U2 hb3 HMP
    go_wp2_with fail
    refine HC3.out.mono ?_
    rintro e w4 ⟨g, n, cap, xs, ys, rfl, hpx, hpy, hasc, hrow, hb4⟩
    have U4 := gr_trans U3 hb4
    have hys : ys = frms a b c d := by
      refine HGF.out ys ⟨hasc.srt ((hpy.trans hpx).nodup_iff.2 HWY.out.nodup), fun q => ?_⟩
      rw [(hpy.trans hpx).mem_iff, HWY.out.keys]
      exact HGK.out q
    rw [← hys] at HC
    have HYS := hid hys
    have HYL : Hid (ys.length ≤ 1000) := hid (by have h1 := (hpy.trans hpx).length_eq; rw [List.length_map] at h1; omega)
    have hR := hid (hrow.base (B' := w.heap.size) (by have := U3.size; omega))
    clear hrow hys hpx hpy hasc hb4 HC3 HWY HGF HGK HKE HN HL HP3 U3 hLl hLn hLne hs3
    have hn : n = ys.length := hR.out.rda.2
    have HNE := hid hn
    clear hn
    have hc1 := hR.out.rda.1.le
    have hc2 := hR.out.rda.1.mx
    unfold maxLen at hc2
    have hc3 : n ≤ cap := by have := HNE.out; omega
    go_wp2_with fail
    go_loopw [20] (fun s20 wr => ∃ k : Nat, s20 = .int .i64 ((k : Int)) ∧ k ≤ n ∧ Hid (alF (ys.take k) = true) ∧ Below w4.heap.size w4 wr) (fun s20 _ => n - (intOf s20).toNat)
    case atStart => exact ⟨0, rfl, Nat.zero_le _, hid rfl, Below.refl _ _⟩
    case round =>
      obtain ⟨k, rfl, hk, hal, hB⟩ := hrel
      by_cases hlt : k < n
      · obtain ⟨q, hq⟩ : ∃ q, ys[k]? = some q := ⟨_, List.getElem?_eq_getElem (by have := HNE.out; omega)⟩
        have HT : Hid (alF (ys.take (k + 1)) = isF q.1 q.2.1 q.2.2.1 q.2.2.2) := hid (by
          rw [List.take_add_one, hq]
          have := hal.out
          unfold alF at this ⊢
          rw [List.all_append, this]
          simp)
        have HF : isF q.1 q.2.1 q.2.2.1 q.2.2.2 = false → alF ys = false := fun h => by
          unfold alF
          rw [List.all_eq_false]
          exact ⟨q, List.mem_of_getElem? hq, by rw [h]; decide⟩
        have HF' := hid HF
        have Y0 := (hR.out.next hB).rda.1.at4 k q hq
        clear hq HF hal
        obtain ⟨y0, y1, y2, y3⟩ := q
        dsimp only at Y0 HT HF'
        obtain ⟨_, c0, c1, c2, c3⟩ := id Y0
        have e2 : decide ((k : Int) < (n : Int)) = true := by simp; omega
        have hk0 : (0 : Int) ≤ (k : Int) := by omega
        have hkn : (k : Int) < (n : Int) := by omega
        go_wp2_with fail
        refine (iIsForm_any y0 y1 y2 y3 _).mono ?_
        rintro e w5 ⟨rfl, hb5⟩
        have B5 := gr_trans (gr_alloc hB (.cells #[.int .i64 y0, .int .i64 y1, .int .i64 y2, .int .i64 y3] 26)) hb5
        clear c0 c1 c2 c3 Y0 hb5
        cases hz : isF y0 y1 y2 y3
        · go_wp2_with fail
          go_ret2
          have hrc : rfc a b c d = 3 := by rw [HC.out, HF'.out hz]; rfl
          unfold RfOut
          refine ⟨⟨.slice none 0 0, by rw [hrc]; rfl, ?_, by (repeat' (first | with_reducible exact Below.refl _ _ | with_reducible assumption | with_reducible refine gr_alloc ?_ _ | with_reducible refine gr_drew ?_ | with_reducible refine gr_drewN ?_ _ | with_reducible refine gr_trans ?_ (by assumption) | with_reducible refine gr_set ?_ ?_ _ | (simp; done) | omega | (simp; omega)))⟩, by rw [hrc, if_neg (by decide)]; omega⟩
          rw [hrc, if_neg (by decide)]
          exact .inl ⟨rfl, rfl⟩
        · go_wp2_with fail
          refine ⟨⟨k + 1, by go_num, by omega, hid (HT.out.trans hz), by (repeat' (first | with_reducible exact Below.refl _ _ | with_reducible assumption | with_reducible refine gr_alloc ?_ _ | with_reducible refine gr_drew ?_ | with_reducible refine gr_drewN ?_ _ | with_reducible refine gr_trans ?_ (by assumption) | with_reducible refine gr_set ?_ ?_ _ | (simp; done) | omega | (simp; omega)))⟩, ?_⟩
          simp only [intOf]
          omega
      · have e2 : decide ((k : Int) < (n : Int)) = false := by simp; omega
        go_wp2_with fail
        go_ret2
        have hkn : k = ys.length := by have := HNE.out; omega
        have hal1 : alF ys = true := by have := hal.out; rwa [hkn, List.take_of_length_le (Nat.le_refl _)] at this
        have hrc : rfc a b c d = 0 := by rw [HC.out, hal1]; rfl
        have hR2 := hR.out.next hB
        unfold RfOut
        refine ⟨⟨.slice (some ⟨g, 0, none⟩) n cap, by rw [hrc]; rfl, ?_, by (repeat' (first | with_reducible exact Below.refl _ _ | with_reducible assumption | with_reducible refine gr_alloc ?_ _ | with_reducible refine gr_drew ?_ | with_reducible refine gr_drewN ?_ _ | with_reducible refine gr_trans ?_ (by assumption) | with_reducible refine gr_set ?_ ?_ _ | (simp; done) | omega | (simp; omega)))⟩, by rw [hrc, if_pos rfl, ← HYS.out]; exact HYL.out⟩
        rw [hrc, if_pos rfl, ← HYS.out]
        exact hR2.out
  · have HK := hid hk
    have hk' : (rcd a b c d == 0) = false := by simpa using hk
    have HC : Hid (rfc a b c d = rcd a b c d) := hid (by unfold rfc; rw [if_neg hk])
    clear hk
    go_wp2_with fail
    go_ret2
    refine ⟨⟨.slice none 0 0, by rw [HC.out]; rfl, ?_, by (repeat' (first | with_reducible exact Below.refl _ _ | with_reducible assumption | with_reducible refine gr_alloc ?_ _ | with_reducible refine gr_drew ?_ | with_reducible refine gr_drewN ?_ _ | with_reducible refine gr_trans ?_ (by assumption) | with_reducible refine gr_set ?_ ?_ _ | (simp; done) | omega | (simp; omega)))⟩, by rw [HC.out, if_neg HK.out]; omega⟩
    rw [HC.out, if_neg HK.out]
    exact .inl ⟨rfl, rfl⟩

end Go.Proofs.Ytikmjefbjejbkaa

/- Chapter 2: ReducedForms: the model. -/
namespace Go.Proofs.Ytikmjefbjejbkaa
open Go.RowKit

set_option maxRecDepth 100000 in
set_option maxHeartbeats 4000000 in
theorem sReducedForms_any (a b c d : Int) (w : World) : Calls Try.prog 24 #[.agg #[.int .i64 a, .int .i64 b, .int .i64 c, .int .i64 d]] w (RfOut a b c d w) := by
  have A0 := (Arr.new w a b c d 26).alloc (.cells #[.int .i64 a, .int .i64 b, .int .i64 c, .int .i64 d] 26)
  have B0 := Arr.new (w.alloc (.cells #[.int .i64 a, .int .i64 b, .int .i64 c, .int .i64 d] 26)) a b c d 26
  have U0 := gr_alloc (gr_alloc (Below.refl w.heap.size w) (.cells #[.int .i64 a, .int .i64 b, .int .i64 c, .int .i64 d] 26)) (.cells #[.int .i64 a, .int .i64 b, .int .i64 c, .int .i64 d] 26)
  simp only [World.size_alloc] at B0
  go_enter Try.func24, Try.ntmps24
  go_wp2_with fail
  refine (sCode1_any _ a b c d _ B0).mono ?_
  rintro e w1 ⟨rfl, hb1⟩
  have A1 := A0.next hb1; have U1 := gr_trans U0 hb1
  clear A0 B0 U0 hb1
  unfold RfOut
  by_cases hk : rcd a b c d = 0
  · obtain ⟨h1, h2, h3, h4, h5, h6, h7, h8⟩ := cls_spec hk
    have HC : Hid (rfc a b c d = if alF (frms a b c d) then 0 else 3) := hid (by unfold rfc; rw [if_pos hk])
    have hgf : ∀ xs, Rd.Got (decide (0 < dsc a b c d)) (Rd.fl (cls a b c d).2.2.1 (cls a b c d).2.2.2 (cls a b c d).1) (Rd.uni 81) xs → xs = frms a b c d := fun xs h => got_frms (Rd.got_fl h1 h2 h)
    have hul := Rd.uni_len 81
    have hf := fun W => sForms_any (decide (0 < dsc a b c d)) (Rd.fl (cls a b c d).2.2.1 (cls a b c d).2.2.2 (cls a b c d).1) (Rd.ub_fl h1 h2 h5) (fun u _ hd => cls_sign hk h1 h2 u hd) W
    unfold FormsOut at hf
    rw [hk]
    clear hk h1 h2 h3 h4 h5 h6 h7
    generalize decide (0 < dsc a b c d) = s at *
    generalize Rd.fl (cls a b c d).2.2.1 (cls a b c d).2.2.2 (cls a b c d).1 = T at *
    generalize Rd.wf (cls a b c d).2.2.1 (cls a b c d).2.2.2 (cls a b c d).2.1 = M at *
    generalize Rd.uni 81 = us at *
    obtain ⟨t0, t1, t2, t3⟩ := T
    obtain ⟨m0, m1, m2, m3⟩ := M
    unfold vF at h8 hf
    dsimp only at h8 hf
    have H8 := hid h8; have HF := hid hf; have HGF := hid hgf
    clear h8 hf hgf
    obtain ⟨_, a0, a1, a2, a3, _⟩ := id A1
    go_wp2_with fail
    refine (H8.out _).mono ?_
    rintro e w2 ⟨rfl, hb2⟩
    have U2 := gr_trans U1 hb2
    clear a0 a1 a2 a3 A1 U1 hb2
    have T3 := (Arr.new w2 t0 t1 t2 t3 26).alloc (.cells #[.int .i64 m0, .int .i64 m1, .int .i64 m2, .int .i64 m3] 44)
    have U3 := gr_alloc (gr_alloc U2 (.cells #[.int .i64 t0, .int .i64 t1, .int .i64 t2, .int .i64 t3] 26)) (.cells #[.int .i64 m0, .int .i64 m1, .int .i64 m2, .int .i64 m3] 44)
    obtain ⟨_, c0, c1, c2, c3, _⟩ := id T3
    go_wp2_with fail
    refine (HF.out _).mono ?_
    rintro e w4 ⟨g, n, cap, ys, rfl, hgot, hyl, hrow, hb4⟩
    have U4 := gr_trans U3 hb4
    have hys : ys = frms a b c d := HGF.out ys hgot
    rw [← hys] at HC
    have HYS := hid hys
    have HYL : Hid (ys.length ≤ 1000) := hid (by omega)
    have hR := hid (hrow.base (B' := w.heap.size) (by have := U3.size; omega))
    clear hrow hys hgot hyl hul hb4 HGF HF H8 U3 c0 c1 c2 c3 T3 U2
    have hn : n = ys.length := hR.out.rda.2
    have HNE := hid hn
    clear hn
    have hc1 := hR.out.rda.1.le
    have hc2 := hR.out.rda.1.mx
    unfold maxLen at hc2
    have hc3 : n ≤ cap := by have := HNE.out; omega
    go_wp2_with fail
    go_loopw [8] (fun s20 wr => ∃ k : Nat, s20 = .int .i64 ((k : Int)) ∧ k ≤ n ∧ Hid (alF (ys.take k) = true) ∧ Below w4.heap.size w4 wr) (fun s20 _ => n - (intOf s20).toNat)
    case atStart => exact ⟨0, rfl, Nat.zero_le _, hid rfl, Below.refl _ _⟩
    case round =>
      obtain ⟨k, rfl, hk, hal, hB⟩ := hrel
      by_cases hlt : k < n
      · obtain ⟨q, hq⟩ : ∃ q, ys[k]? = some q := ⟨_, List.getElem?_eq_getElem (by have := HNE.out; omega)⟩
        have HT : Hid (alF (ys.take (k + 1)) = isF q.1 q.2.1 q.2.2.1 q.2.2.2) := hid (by
          rw [List.take_add_one, hq]
          have := hal.out
          unfold alF at this ⊢
          rw [List.all_append, this]
          simp)
        have HF : isF q.1 q.2.1 q.2.2.1 q.2.2.2 = false → alF ys = false := fun h => by
          unfold alF
          rw [List.all_eq_false]
          exact ⟨q, List.mem_of_getElem? hq, by rw [h]; decide⟩
        have HF' := hid HF
        have Y0 := (hR.out.next hB).rda.1.at4 k q hq
        clear hq HF hal
        obtain ⟨y0, y1, y2, y3⟩ := q
        dsimp only at Y0 HT HF'
        obtain ⟨_, c0, c1, c2, c3⟩ := id Y0
        have e2 : decide ((k : Int) < (n : Int)) = true := by simp; omega
        have hk0 : (0 : Int) ≤ (k : Int) := by omega
        have hkn : (k : Int) < (n : Int) := by omega
        go_wp2_with fail
        refine (sFits_any y0 y1 y2 y3 _).mono ?_
        rintro e w5 ⟨rfl, hb5⟩
        have B5 := gr_trans hB hb5
        clear c0 c1 c2 c3 Y0 hb5
        cases hz : isF y0 y1 y2 y3
        · go_wp2_with fail
          go_ret2
          have hrc : rfc a b c d = 3 := by rw [HC.out, HF'.out hz]; rfl
          unfold RfOut
          refine ⟨⟨.slice none 0 0, by rw [hrc]; rfl, ?_, by (repeat' (first | with_reducible exact Below.refl _ _ | with_reducible assumption | with_reducible refine gr_alloc ?_ _ | with_reducible refine gr_drew ?_ | with_reducible refine gr_drewN ?_ _ | with_reducible refine gr_trans ?_ (by assumption) | with_reducible refine gr_set ?_ ?_ _ | (simp; done) | omega | (simp; omega)))⟩, by rw [hrc, if_neg (by decide)]; omega⟩
          rw [hrc, if_neg (by decide)]
          exact .inl ⟨rfl, rfl⟩
        · go_wp2_with fail
          refine ⟨⟨k + 1, by go_num, by omega, hid (HT.out.trans hz), by (repeat' (first | with_reducible exact Below.refl _ _ | with_reducible assumption | with_reducible refine gr_alloc ?_ _ | with_reducible refine gr_drew ?_ | with_reducible refine gr_drewN ?_ _ | with_reducible refine gr_trans ?_ (by assumption) | with_reducible refine gr_set ?_ ?_ _ | (simp; done) | omega | (simp; omega)))⟩, ?_⟩
          simp only [intOf]
          omega
      · have e2 : decide ((k : Int) < (n : Int)) = false := by simp; omega
        go_wp2_with fail
        go_ret2
        have hkn : k = ys.length := by have := HNE.out; omega
        have hal1 : alF ys = true := by have := hal.out; rwa [hkn, List.take_of_length_le (Nat.le_refl _)] at this
        have hrc : rfc a b c d = 0 := by rw [HC.out, hal1]; rfl
        have hR2 := hR.out.next hB
        unfold RfOut
        refine ⟨⟨.slice (some ⟨g, 0, none⟩) n cap, by rw [hrc]; rfl, ?_, by (repeat' (first | with_reducible exact Below.refl _ _ | with_reducible assumption | with_reducible refine gr_alloc ?_ _ | with_reducible refine gr_drew ?_ | with_reducible refine gr_drewN ?_ _ | with_reducible refine gr_trans ?_ (by assumption) | with_reducible refine gr_set ?_ ?_ _ | (simp; done) | omega | (simp; omega)))⟩, by rw [hrc, if_pos rfl, ← HYS.out]; exact HYL.out⟩
        rw [hrc, if_pos rfl, ← HYS.out]
        exact hR2.out
  · have HK := hid hk
    have hk' : (rcd a b c d == 0) = false := by simpa using hk
    have HC : Hid (rfc a b c d = rcd a b c d) := hid (by unfold rfc; rw [if_neg hk])
    clear hk
    go_wp2_with fail
    go_ret2
    refine ⟨⟨.slice none 0 0, by rw [HC.out]; rfl, ?_, by (repeat' (first | with_reducible exact Below.refl _ _ | with_reducible assumption | with_reducible refine gr_alloc ?_ _ | with_reducible refine gr_drew ?_ | with_reducible refine gr_drewN ?_ _ | with_reducible refine gr_trans ?_ (by assumption) | with_reducible refine gr_set ?_ ?_ _ | (simp; done) | omega | (simp; omega)))⟩, by rw [HC.out, if_neg HK.out]; omega⟩
    rw [HC.out, if_neg HK.out]
    exact .inl ⟨rfl, rfl⟩

end Go.Proofs.Ytikmjefbjejbkaa

/- Chapter 2: ReducingMatrix: the model walked. -/
namespace Go.Proofs.Ytikmjefbjejbkaa
open Go.RowKit

theorem first_atM {w : World} {B g n cap : Nat} {xs : List Red.F4} {x y z u : Int} (h : RowM B w (.slice (some ⟨g, 0, none⟩) n cap) xs) (hx : xs[0]? = some (x, y, z, u)) : First w g x y z u ∧ (0 : Int) < (n : Int) ∧ (0 : Int) ≤ (n : Int) ∧ 0 < n ∧ n ≤ cap ∧ cap ≤ 2 ^ 63 - 1 := by
  have hat := h.rda.1.at4 0 _ hx
  simp only [Nat.zero_mul] at hat
  obtain ⟨h0, h1, h2, h3, h4⟩ := hat
  simp only [Nat.zero_add] at h2 h3 h4
  have h5 := (List.getElem?_eq_some_iff.1 hx).1
  have h6 := h.rda.2
  have h7 := h.rda.1.le
  have h8 := h.rda.1.mx
  unfold maxLen at h8
  exact ⟨⟨h0, h1, h2, h3, h4⟩, by omega, by omega, by omega, by omega, by omega⟩
set_option maxRecDepth 100000 in
set_option maxHeartbeats 2000000 in
theorem sReducingMatrix_any (a b c d : Int) (w : World) : Calls Try.prog 30 #[.agg #[.int .i64 a, .int .i64 b, .int .i64 c, .int .i64 d]] w (RmOut a b c d w) := by
  have A0 := ((Arr.new w a b c d 26).alloc (.cells #[.int .i64 0, .int .i64 0, .int .i64 0, .int .i64 0] 44)).alloc (.cells #[.int .i64 a, .int .i64 b, .int .i64 c, .int .i64 d] 26)
  have R0 := (Arr.new (w.alloc (.cells #[.int .i64 a, .int .i64 b, .int .i64 c, .int .i64 d] 26)) 0 0 0 0 44).alloc (.cells #[.int .i64 a, .int .i64 b, .int .i64 c, .int .i64 d] 26)
  have B0 := Arr.new ((w.alloc (.cells #[.int .i64 a, .int .i64 b, .int .i64 c, .int .i64 d] 26)).alloc (.cells #[.int .i64 0, .int .i64 0, .int .i64 0, .int .i64 0] 44)) a b c d 26
  have U0 := gr_alloc (gr_alloc (gr_alloc (Below.refl w.heap.size w) (.cells #[.int .i64 a, .int .i64 b, .int .i64 c, .int .i64 d] 26)) (.cells #[.int .i64 0, .int .i64 0, .int .i64 0, .int .i64 0] 44)) (.cells #[.int .i64 a, .int .i64 b, .int .i64 c, .int .i64 d] 26)
  simp only [World.size_alloc] at B0 R0
  go_enter Try.func30, Try.ntmps30
  go_wp2_with fail
  refine (sCode1_any _ a b c d _ B0).mono ?_
  rintro e w1 ⟨rfl, hb1⟩
  have A1 := A0.next hb1; have R1 := R0.next hb1; have U1 := gr_trans U0 hb1
  clear A0 R0 B0 U0 hb1
  unfold RmOut
  by_cases hk : rcd a b c d = 0
  · have HW := hid (fun W => sWy_any a b c d hk W)
    have HC : Hid (rmc a b c d = if isF (rdm a b c d).1 (rdm a b c d).2.1 (rdm a b c d).2.2.1 (rdm a b c d).2.2.2 then 0 else 3) := hid (by unfold rmc; rw [if_pos hk])
    have HV : Hid (∀ f, rmv a b c d f = if rmc a b c d = 0 then f (rdm a b c d) else 0) := hid (fun f => rfl)
    have HHD : Hid (∀ xs, Rd.Asc xs → xs.Perm (nwy a b c d) → xs[0]? = some (rdm a b c d)) := hid (fun xs h1 h2 => asc_head (nwy_ne hk) h1 h2)
    rw [hk]
    clear hk
    generalize nwy a b c d = ways at HW HHD
    obtain ⟨_, a0, a1, a2, a3, _⟩ := id A1
    go_wp2_with fail
    refine (HW.out _).mono ?_
    rintro e w4 ⟨g, n, cap, xs, rfl, hasc, hperm, hrow, hb4⟩
    have hx := HHD.out xs hasc hperm
    have R3 := R1; have U3 := U1
    generalize rdm a b c d = D at HC HV hx
    obtain ⟨x0, x1, x2, x3⟩ := D
    dsimp only at HC HV
    obtain ⟨F, hn1, hn2, hn3, hn4, hn5⟩ := first_atM hrow hx
    obtain ⟨_, c0, c1, c2, c3⟩ := id F
    clear a0 a1 a2 a3 A1 R1 U1 hrow hx hasc hperm HW HHD
    have R4 := (R3.next hb4).alloc (.cells #[.int .i64 x0, .int .i64 x1, .int .i64 x2, .int .i64 x3] 44); have U4 := gr_alloc (gr_trans U3 hb4) (.cells #[.int .i64 x0, .int .i64 x1, .int .i64 x2, .int .i64 x3] 44)
    have X4 := Arr.new w4 x0 x1 x2 x3 44
    clear R3 U3 hb4
    obtain ⟨_, d0, d1, d2, d3, _⟩ := id X4
    go_wp2_with fail
    refine (sIsMatrix_any x0 x1 x2 x3 _).mono ?_
    rintro e w5 ⟨rfl, hb5⟩
    have R5 := R4.next hb5; have U5 := gr_trans U4 hb5; have X5 := X4.next hb5
    clear R4 U4 X4 hb5 d0 d1 d2 d3
    obtain ⟨_, r0, r1, r2, r3, f0, f1, f2, f3⟩ := id R5
    obtain ⟨_, d0, d1, d2, d3, _⟩ := id X5
    cases hf : isF x0 x1 x2 x3
    all_goals
      go_wp2_with fail
      refine bodyPost_ret (res_A (e := 2) rfl Try.underlying44 (by kernel_rfl) rfl (Arr.store4 R5.box)) rfl ?_
      refine ⟨?_, by (repeat' (first | with_reducible exact Below.refl _ _ | with_reducible assumption | with_reducible refine gr_alloc ?_ _ | with_reducible refine gr_drew ?_ | with_reducible refine gr_drewN ?_ _ | with_reducible refine gr_trans ?_ (by assumption) | with_reducible refine gr_set ?_ ?_ _ | (simp; done) | omega | (simp; omega)))⟩
      rw [HV.out, HV.out, HV.out, HV.out, HC.out]
      simp_all
  · have HK := hid hk
    have hk' : (rcd a b c d == 0) = false := by simpa using hk
    have HC : Hid (rmc a b c d = rcd a b c d) := hid (by unfold rmc; rw [if_neg hk])
    have HV : Hid (∀ f, rmv a b c d f = 0) := hid (fun f => by unfold rmv; rw [HC.out, if_neg hk])
    clear hk
    obtain ⟨_, r0, r1, r2, r3, f0, f1, f2, f3⟩ := id R1
    go_wp2_with fail
    refine bodyPost_ret (res_A (e := 2) rfl Try.underlying44 (by kernel_rfl) rfl (Arr.store4 R1.box)) rfl ?_
    refine ⟨?_, by (repeat' (first | with_reducible exact Below.refl _ _ | with_reducible assumption | with_reducible refine gr_alloc ?_ _ | with_reducible refine gr_drew ?_ | with_reducible refine gr_drewN ?_ _ | with_reducible refine gr_trans ?_ (by assumption) | with_reducible refine gr_set ?_ ?_ _ | (simp; done) | omega | (simp; omega)))⟩
    rw [HV.out, HV.out, HV.out, HV.out, HC.out]
    rfl

end Go.Proofs.Ytikmjefbjejbkaa

/- Chapter 2: ReducingMatrix: program and model walked. -/
namespace Go.Proofs.Ytikmjefbjejbkaa
open Go.RowKit

set_option maxRecDepth 100000 in
set_option maxHeartbeats 2000000 in
theorem iReducingMatrix_any (a b c d : Int) (w : World) : Calls Try.prog 29 #[.agg #[.int .i64 a, .int .i64 b, .int .i64 c, .int .i64 d]] w (RmOut a b c d w) := by
  have A0 := ((Arr.new w a b c d 26).alloc (.cells #[.int .i64 0, .int .i64 0, .int .i64 0, .int .i64 0] 44)).alloc (.cells #[.int .i64 a, .int .i64 b, .int .i64 c, .int .i64 d] 26)
  have R0 := (Arr.new (w.alloc (.cells #[.int .i64 a, .int .i64 b, .int .i64 c, .int .i64 d] 26)) 0 0 0 0 44).alloc (.cells #[.int .i64 a, .int .i64 b, .int .i64 c, .int .i64 d] 26)
  have B0 := Arr.new ((w.alloc (.cells #[.int .i64 a, .int .i64 b, .int .i64 c, .int .i64 d] 26)).alloc (.cells #[.int .i64 0, .int .i64 0, .int .i64 0, .int .i64 0] 44)) a b c d 26
  have U0 := gr_alloc (gr_alloc (gr_alloc (Below.refl w.heap.size w) (.cells #[.int .i64 a, .int .i64 b, .int .i64 c, .int .i64 d] 26)) (.cells #[.int .i64 0, .int .i64 0, .int .i64 0, .int .i64 0] 44)) (.cells #[.int .i64 a, .int .i64 b, .int .i64 c, .int .i64 d] 26)
  simp only [World.size_alloc] at B0 R0
  go_enter Try.func29, Try.ntmps29
  go_wp2_with fail
  refine (iCheck1_any _ a b c d _ B0).mono ?_
  rintro e w1 ⟨rfl, hb1⟩
  have A1 := A0.next hb1; have R1 := R0.next hb1; have U1 := gr_trans U0 hb1
  clear A0 R0 B0 U0 hb1
  unfold RmOut
  by_cases hk : rcd a b c d = 0
  · have HW := hid (fun W => iWN_any a b c d hk W)
    have HC : Hid (rmc a b c d = if isF (rdm a b c d).1 (rdm a b c d).2.1 (rdm a b c d).2.2.1 (rdm a b c d).2.2.2 then 0 else 3) := hid (by unfold rmc; rw [if_pos hk])
    have HV : Hid (∀ f, rmv a b c d f = if rmc a b c d = 0 then f (rdm a b c d) else 0) := hid (fun f => rfl)
    have HNE := hid (nwy_ne hk)
    have HLN := hid (nwy_len a b c d)
    have HRD : Hid (Rd.mn (nwy a b c d) = rdm a b c d) := hid rfl
    rw [hk]
    clear hk
    generalize nwy a b c d = ways at HW HNE HLN HRD
    generalize nfm a b c d = N at HW
    obtain ⟨n0, n1, n2, n3⟩ := N
    obtain ⟨_, a0, a1, a2, a3, _⟩ := id A1
    unfold vF at HW
    dsimp only at HW
    go_wp2_with fail
    refine (HW.out _).mono ?_
    rintro e w2 ⟨v, rfl, hrow, hb2⟩
    have R3 := (R1.next hb2).alloc (.cells #[.int .i64 n0, .int .i64 n1, .int .i64 n2, .int .i64 n3] 26)
    have U3 := gr_alloc (gr_trans U1 hb2) (.cells #[.int .i64 n0, .int .i64 n1, .int .i64 n2, .int .i64 n3] 26)
    have hr4 := Rd4.of (hrow.next (gr_alloc (Below.refl _ _) (.cells #[.int .i64 n0, .int .i64 n1, .int .i64 n2, .int .i64 n3] 26))) HNE.out
    have HMn := hid (minM_any v ways HNE.out (by have := HLN.out; omega) _ hr4)
    obtain ⟨va, vc, rfl⟩ := hrow.val
    rw [HRD.out] at HMn
    generalize rdm a b c d = D at HC HV HMn
    obtain ⟨x0, x1, x2, x3⟩ := D
    unfold vF at HMn
    dsimp only at HC HV HMn
    clear a0 a1 a2 a3 A1 R1 U1 hb2 hrow HW hr4
    generalize ways.length = vl at HMn ⊢
    go_wp2_with fail
    refine HMn.out.mono ?_
    rintro e w4 ⟨rfl, hb4⟩
    have R4 := (R3.next hb4).alloc (.cells #[.int .i64 x0, .int .i64 x1, .int .i64 x2, .int .i64 x3] 44); have U4 := gr_alloc (gr_trans U3 hb4) (.cells #[.int .i64 x0, .int .i64 x1, .int .i64 x2, .int .i64 x3] 44)
    have X4 := Arr.new w4 x0 x1 x2 x3 44
    clear R3 U3 hb4 HMn
    obtain ⟨_, d0, d1, d2, d3, _⟩ := id X4
    go_wp2_with fail
    refine (iIsMatrix_any x0 x1 x2 x3 _).mono ?_
    rintro e w5 ⟨rfl, hb5⟩
    have R5 := R4.next hb5; have U5 := gr_trans U4 hb5; have X5 := X4.next hb5
    clear R4 U4 X4 hb5 d0 d1 d2 d3
    obtain ⟨_, r0, r1, r2, r3, f0, f1, f2, f3⟩ := id R5
    obtain ⟨_, d0, d1, d2, d3, _⟩ := id X5
    cases hf : isF x0 x1 x2 x3
    all_goals
      go_wp2_with fail
      refine bodyPost_ret (res_A (e := 2) rfl Try.underlying44 (by kernel_rfl) rfl (Arr.store4 R5.box)) rfl ?_
      refine ⟨?_, by (repeat' (first | with_reducible exact Below.refl _ _ | with_reducible assumption | with_reducible refine gr_alloc ?_ _ | with_reducible refine gr_drew ?_ | with_reducible refine gr_drewN ?_ _ | with_reducible refine gr_trans ?_ (by assumption) | with_reducible refine gr_set ?_ ?_ _ | (simp; done) | omega | (simp; omega)))⟩
      rw [HV.out, HV.out, HV.out, HV.out, HC.out]
      simp_all
  · have HK := hid hk
    have hk' : (rcd a b c d == 0) = false := by simpa using hk
    have HC : Hid (rmc a b c d = rcd a b c d) := hid (by unfold rmc; rw [if_neg hk])
    have HV : Hid (∀ f, rmv a b c d f = 0) := hid (fun f => by unfold rmv; rw [HC.out, if_neg hk])
    clear hk
    obtain ⟨_, r0, r1, r2, r3, f0, f1, f2, f3⟩ := id R1
    go_wp2_with fail
    refine bodyPost_ret (res_A (e := 2) rfl Try.underlying44 (by kernel_rfl) rfl (Arr.store4 R1.box)) rfl ?_
    refine ⟨?_, by (repeat' (first | with_reducible exact Below.refl _ _ | with_reducible assumption | with_reducible refine gr_alloc ?_ _ | with_reducible refine gr_drew ?_ | with_reducible refine gr_drewN ?_ _ | with_reducible refine gr_trans ?_ (by assumption) | with_reducible refine gr_set ?_ ?_ _ | (simp; done) | omega | (simp; omega)))⟩
    rw [HV.out, HV.out, HV.out, HV.out, HC.out]
    rfl

end Go.Proofs.Ytikmjefbjejbkaa
