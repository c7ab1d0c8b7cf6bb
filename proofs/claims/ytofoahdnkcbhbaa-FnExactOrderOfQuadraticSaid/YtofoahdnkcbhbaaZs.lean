/- Chapter 10: proper equivalence, reduced forms, compositions. Mathematics alone. -/
import Derived.Test.YtofoahdnkcbhbaaZj
namespace Go.Proofs.Ytofoahdnkcbhbaa
open Go.RowKit

/-- t changed by the matrix a, b, c, d. -/
def chg (t : Qd) (a b c d : Int) : Qd :=
  (t.1 * a * a + t.2.1 * a * c + t.2.2 * c * c, 2 * t.1 * a * b + t.2.1 * (a * d + b * c) + 2 * t.2.2 * c * d, t.1 * b * b + t.2.1 * b * d + t.2.2 * d * d)
def Eqv (t u : Qd) : Prop := ∃ a b c d : Int, a * d - b * c = 1 ∧ u = chg t a b c d
theorem Eqv.refl (t : Qd) : Eqv t t := ⟨1, 0, 0, 1, by omega, by obtain ⟨p, q, r⟩ := t; simp [chg]⟩
theorem Eqv.symm {t u : Qd} (h : Eqv t u) : Eqv u t := by
  obtain ⟨a, b, c, d, h, rfl⟩ := h
  obtain ⟨p, q, r⟩ := t
  refine ⟨d, -b, -c, a, by grind, ?_⟩
  simp only [chg, Prod.mk.injEq]
  refine ⟨by grind, by grind, by grind⟩
theorem Eqv.trans {t u v : Qd} (h : Eqv t u) (h' : Eqv u v) : Eqv t v := by
  obtain ⟨a, b, c, d, h, rfl⟩ := h
  obtain ⟨a', b', c', d', h', rfl⟩ := h'
  obtain ⟨p, q, r⟩ := t
  refine ⟨a * a' + b * c', a * b' + b * d', c * a' + d * c', c * b' + d * d', by grind, ?_⟩
  simp only [chg, Prod.mk.injEq]
  refine ⟨by grind, by grind, by grind⟩
theorem Eqv.cen (t : Qd) : Eqv t (cen t) := by
  obtain ⟨p, q, r⟩ := t
  refine ⟨1, kq p q, 0, 1, by omega, ?_⟩
  show (p, cm p q, cn p q r) = _
  rw [cm_eq]
  simp only [chg, cn, Prod.mk.injEq]
  refine ⟨by grind, by grind, by grind⟩
theorem Eqv.swp (t : Qd) : Eqv t (swp t) := by
  obtain ⟨p, q, r⟩ := t
  refine ⟨0, -1, 1, 0, by omega, ?_⟩
  simp only [Go.Proofs.Ytofoahdnkcbhbaa.swp, chg, Prod.mk.injEq]
  refine ⟨by grind, by grind, by grind⟩
theorem Eqv.rdn (n : Nat) : ∀ t, Eqv t (rdn n t) := by
  induction n with
  | zero => intro t; exact Eqv.refl t
  | succ n ih =>
    intro t
    unfold Go.Proofs.Ytofoahdnkcbhbaa.rdn
    split
    · exact Eqv.cen t
    · exact (Eqv.cen t).trans ((Eqv.swp _).trans (ih _))
theorem Eqv.red (t : Qd) : Eqv t (red t) := Eqv.rdn _ t
theorem Eqv.dsq {t u : Qd} (h : Eqv t u) : dsq u = dsq t := by
  obtain ⟨a, b, c, d, h, rfl⟩ := h
  obtain ⟨p, q, r⟩ := t
  simp only [Go.Proofs.Ytofoahdnkcbhbaa.dsq, chg]
  grind
/-- Reduced forms. -/
def Rdd (t : Qd) : Prop := 1 ≤ t.1 ∧ -t.1 < t.2.1 ∧ t.2.1 ≤ t.1 ∧ rdq t = true
theorem rdd_rdn {D : Int} : ∀ (n : Nat) (t : Qd), Pos D t → Fn n t → Rdd (rdn n t) := by
  intro n
  induction n with
  | zero => intro t _ h; exact h.elim
  | succ n ih =>
    intro t hp hf
    by_cases hr : rdq (cen t) = true
    · rw [rdn_done hr]
      obtain ⟨h1, h2⟩ := cm_bd (p := t.1) (q := t.2.1) hp.1
      exact ⟨hp.1, h1, h2, hr⟩
    · obtain ⟨h1, h2⟩ := rdn_step (by simpa using hr) hf
      rw [h2]
      exact ih _ hp.cen.swp h1
theorem rdd_red {D : Int} {t : Qd} (h : Pos D t) : Rdd (red t) := rdd_rdn _ _ h (Fn.red h)
theorem Rdd.le {t : Qd} (h : Rdd t) : t.1 ≤ t.2.2 ∧ (t.1 = t.2.2 → 0 ≤ t.2.1) := by
  obtain ⟨_, _, _, h⟩ := h
  simp [rdq, rdb] at h
  omega
theorem sq_nn (x : Int) : 0 ≤ x * x := by
  rcases Int.le_total 0 x with h | h
  · exact Int.mul_nonneg h h
  · exact Int.mul_nonneg_of_nonpos_of_nonpos h h
theorem sq_pos {x : Int} (h : x ≠ 0) : 1 ≤ x * x := by
  have := sq_nn x
  have : x * x ≠ 0 := fun e => by rcases Int.mul_eq_zero.1 e with e | e <;> exact h e
  omega
/-- Values of a reduced form off its first axis are not less than R. -/
theorem low {p q r a c : Int} (hp : 1 ≤ p) (h1 : -p ≤ q) (h2 : q ≤ p) (hr : p ≤ r) (hc : c ≠ 0) : r ≤ p * a * a + q * a * c + r * c * c := by
  have key : ∀ A C : Int, 0 ≤ A → 1 ≤ C → 1 ≤ A * A - A * C + C * C := by
    intro A C hA hC
    rcases Int.le_total C A with h | h
    · have h3 : 0 ≤ A * (A - C) := Int.mul_nonneg hA (by omega)
      have h4 : 1 ≤ C * C := sq_pos (by omega)
      have : A * (A - C) = A * A - A * C := Int.mul_sub _ _ _
      omega
    · have h3 : 0 ≤ C * (C - A) := Int.mul_nonneg (by omega) (by omega)
      have h5 : C * (C - A) = C * C - A * C := by rw [Int.mul_sub, Int.mul_comm A C]
      rcases Int.lt_or_le 0 A with h6 | h6
      · have := sq_pos (x := A) (by omega)
        omega
      · have e : A = 0 := by omega
        subst e
        have := sq_pos (x := C) (by omega)
        simp; omega
  obtain ⟨A, hA⟩ : ∃ A : Int, A = a.natAbs := ⟨_, rfl⟩
  obtain ⟨C, hC⟩ : ∃ C : Int, C = c.natAbs := ⟨_, rfl⟩
  have hAA : a * a = A * A := by rw [hA, Int.natAbs_mul_self']
  have hCC : c * c = C * C := by rw [hC, Int.natAbs_mul_self']
  have hk := key A C (by omega) (by omega)
  have hqac : -(p * (A * C)) ≤ q * (a * c) := by
    have hac : a * c = A * C ∨ a * c = -(A * C) := by
      rcases Int.natAbs_eq a with e | e <;> rcases Int.natAbs_eq c with e' | e' <;> rw [← hA] at e <;> rw [← hC] at e' <;> rw [e, e'] <;> grind
    have hAC : 0 ≤ A * C := Int.mul_nonneg (by omega) (by omega)
    rcases hac with e | e
    · rw [e]
      have := Int.mul_le_mul_of_nonneg_right h1 hAC
      rw [Int.neg_mul] at this
      exact this
    · rw [e]
      have := Int.mul_le_mul_of_nonneg_right h2 hAC
      rw [Int.mul_neg]; omega
  have h7 : p * 1 ≤ p * (A * A - A * C + C * C) := Int.mul_le_mul_of_nonneg_left hk (by omega)
  have h8 : (r - p) * 1 ≤ (r - p) * (C * C) := Int.mul_le_mul_of_nonneg_left (sq_pos (by omega)) (by omega)
  have e1 : p * (A * A - A * C + C * C) = p * (A * A) - p * (A * C) + p * (C * C) := by grind
  have e2 : (r - p) * (C * C) = r * (C * C) - p * (C * C) := by grind
  have e3 : p * a * a = p * (A * A) := by rw [Int.mul_assoc, hAA]
  have e4 : r * c * c = r * (C * C) := by rw [Int.mul_assoc, hCC]
  have e5 : q * a * c = q * (a * c) := Int.mul_assoc _ _ _
  omega
theorem first_le {t u : Qd} (ht : Rdd t) (h : Eqv t u) (hu : 1 ≤ u.1) : t.1 ≤ u.1 := by
  obtain ⟨a, b, c, d, h, rfl⟩ := h
  obtain ⟨p, q, r⟩ := t
  obtain ⟨h1, h2, h3, _⟩ := id ht
  have hl := ht.le.1
  have h1 : 1 ≤ p := h1
  have h2 : -p < q := h2
  have h3 : q ≤ p := h3
  have hl : p ≤ r := hl
  show p ≤ p * a * a + q * a * c + r * c * c
  by_cases hc : c = 0
  · subst hc
    have ha : a ≠ 0 := fun e => by subst e; simp at h
    have := sq_pos ha
    have h4 : p * 1 ≤ p * (a * a) := Int.mul_le_mul_of_nonneg_left this (by omega)
    have : p * a * a = p * (a * a) := Int.mul_assoc _ _ _
    simp; omega
  · have := low (a := a) h1 (by omega) h3 hl hc
    omega
theorem sq_lt {x y : Int} (h0 : 0 ≤ x) (h : x < y) : x * x < y * y := by
  have h1 : x * x ≤ x * y := Int.mul_le_mul_of_nonneg_left (by omega) h0
  have h2 : x * y < y * y := Int.mul_lt_mul_of_pos_right h (by omega)
  omega
/-- Each class has one reduced form. -/
theorem Rdd.uniq {t u : Qd} (ht : Rdd t) (hu : Rdd u) (h : Eqv t u) : t = u := by
  have e1 : t.1 = u.1 := Int.le_antisymm (first_le ht h hu.1) (first_le hu h.symm ht.1)
  have hd := h.dsq
  obtain ⟨a, b, c, d, hdet, hu'⟩ := h
  obtain ⟨p, q, r⟩ := t
  obtain ⟨p', q', r'⟩ := u
  have e1 : p = p' := e1
  subst e1
  obtain ⟨h1, h2, h3, _⟩ := id ht
  obtain ⟨_, h2', h3', _⟩ := id hu
  obtain ⟨l1, l2⟩ := ht.le
  obtain ⟨l1', l2'⟩ := hu.le
  have h1 : 1 ≤ p := h1
  have h2 : -p < q := h2
  have h3 : q ≤ p := h3
  have h2' : -p < q' := h2'
  have h3' : q' ≤ p := h3'
  have l1 : p ≤ r := l1
  have l2 : p = r → 0 ≤ q := l2
  have l1' : p ≤ r' := l1'
  have l2' : p = r' → 0 ≤ q' := l2'
  have hd : q' * q' - 4 * p * r' = q * q - 4 * p * r := hd
  simp only [chg, Prod.mk.injEq] at hu'
  obtain ⟨g1, g2, g3⟩ := hu'
  have qr : q = q' → r = r' := fun e => by
    subst e
    have : 4 * p * r' = 4 * p * r := by omega
    have := Int.eq_of_mul_eq_mul_left (show 4 * p ≠ 0 by omega) this
    exact this.symm
  suffices q = q' by rw [this, qr this]
  by_cases hc : c = 0
  · subst hc
    have had : a * d = 1 := by omega
    have ha : a = 1 ∧ d = 1 ∨ a = -1 ∧ d = -1 := by
      have : a ∣ 1 := ⟨d, had.symm⟩
      have hn : a.natAbs = 1 := Nat.dvd_one.1 (by have := Int.natAbs_dvd_natAbs.2 this; simpa using this)
      rcases (show a = 1 ∨ a = -1 by omega) with e | e
      · subst e; left; exact ⟨rfl, by omega⟩
      · subst e; right; exact ⟨rfl, by omega⟩
    have hq : q' = q + 2 * p * (a * b) := by
      rw [g2]
      rcases ha with ⟨e, e'⟩ | ⟨e, e'⟩ <;> subst e <;> subst e' <;> grind
    generalize a * b = k at hq
    have hk : k = 0 := by
      rcases Int.lt_trichotomy k 0 with h | h | h
      · have : 2 * p * k ≤ 2 * p * (-1) := Int.mul_le_mul_of_nonneg_left (by omega) (by omega)
        omega
      · exact h
      · have : 2 * p * 1 ≤ 2 * p * k := Int.mul_le_mul_of_nonneg_left (by omega) (by omega)
        omega
    subst hk
    simp at hq
    exact hq.symm
  · have hr : r ≤ p := by
      have := low (a := a) h1 (by omega) h3 l1 hc
      omega
    have er : p = r := by omega
    have hq := l2 er
    -- the other way round
    have hinv : p = p * d * d + q' * d * (-c) + r' * (-c) * (-c) := by
      rw [g2, g3]
      have : p = p * a * a + q * a * c + r * c * c := g1
      grind
    have hr' : r' ≤ p := by
      have := low (p := p) (q := q') (r := r') (a := d) (c := -c) h1 (by omega) h3' l1' (by omega)
      omega
    have er' : p = r' := by omega
    have hq' := l2' er'
    have hqq : q' * q' = q * q := by rw [← er, ← er'] at hd; omega
    rcases Int.lt_trichotomy q q' with h | h | h
    · have := sq_lt hq h
      omega
    · exact h
    · have := sq_lt hq' h
      omega

end Go.Proofs.Ytofoahdnkcbhbaa
