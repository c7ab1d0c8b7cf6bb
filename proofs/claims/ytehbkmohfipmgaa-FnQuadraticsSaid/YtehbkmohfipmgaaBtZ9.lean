/- Several texts in one: XZs, XZt. -/
import Derived.Test.YtehbkmohfipmgaaBtZ8

/- Chapter 10: proper equivalence, reduced forms, compositions. Mathematics alone. -/
namespace Go.Proofs.Ytehbkmohfipmgaa
open Go.RowKit

/-- t changed by the matrix a, b, c, d. -/
def chg (t : Qd) (a b c d : Int) : Qd :=
  (t.1 * a * a + t.2.1 * a * c + t.2.2 * c * c, 2 * t.1 * a * b + t.2.1 * (a * d + b * c) + 2 * t.2.2 * c * d, t.1 * b * b + t.2.1 * b * d + t.2.2 * d * d)
def Eqv (t u : Qd) : Prop := ∃ a b c d : Int, a * d - b * c = 1 ∧ u = chg t a b c d
theorem Eqv.refl (t : Qd) : Eqv t t := ⟨1, 0, 0, 1, by omega, by obtain ⟨p, q, r⟩ := t; simp [chg]⟩
theorem Eqv.symm {t u : Qd} (h : Eqv t u) : Eqv u t := by
  obtain ⟨a, b, c, d, h, rfl⟩ := h
  obtain ⟨p, q, r⟩ := t
  refine ⟨d, -b, -c, a, by grind, ?_⟩
  simp only [chg, Prod.mk.injEq]
  refine ⟨by grind, by grind, by grind⟩
theorem Eqv.trans {t u v : Qd} (h : Eqv t u) (h' : Eqv u v) : Eqv t v := by
  obtain ⟨a, b, c, d, h, rfl⟩ := h
  obtain ⟨a', b', c', d', h', rfl⟩ := h'
  obtain ⟨p, q, r⟩ := t
  refine ⟨a * a' + b * c', a * b' + b * d', c * a' + d * c', c * b' + d * d', by grind, ?_⟩
  simp only [chg, Prod.mk.injEq]
  refine ⟨by grind, by grind, by grind⟩
theorem Eqv.cen (t : Qd) : Eqv t (cen t) := by
  obtain ⟨p, q, r⟩ := t
  refine ⟨1, kq p q, 0, 1, by omega, ?_⟩
  show (p, cm p q, cn p q r) = _
  rw [cm_eq]
  simp only [chg, cn, Prod.mk.injEq]
  refine ⟨by grind, by grind, by grind⟩
theorem Eqv.swp (t : Qd) : Eqv t (swp t) := by
  obtain ⟨p, q, r⟩ := t
  refine ⟨0, -1, 1, 0, by omega, ?_⟩
  simp only [Go.Proofs.Ytehbkmohfipmgaa.swp, chg, Prod.mk.injEq]
  refine ⟨by grind, by grind, by grind⟩
theorem Eqv.rdn (n : Nat) : ∀ t, Eqv t (rdn n t) := by
  induction n with
  | zero => intro t; exact Eqv.refl t
  | succ n ih =>
    intro t
    unfold Go.Proofs.Ytehbkmohfipmgaa.rdn
    split
    · exact Eqv.cen t
    · exact (Eqv.cen t).trans ((Eqv.swp _).trans (ih _))
theorem Eqv.red (t : Qd) : Eqv t (red t) := Eqv.rdn _ t
theorem Eqv.dsq {t u : Qd} (h : Eqv t u) : dsq u = dsq t := by
  obtain ⟨a, b, c, d, h, rfl⟩ := h
  obtain ⟨p, q, r⟩ := t
  simp only [Go.Proofs.Ytehbkmohfipmgaa.dsq, chg]
  grind
/-- Reduced forms. -/
def Rdd (t : Qd) : Prop := 1 ≤ t.1 ∧ -t.1 < t.2.1 ∧ t.2.1 ≤ t.1 ∧ rdq t = true
theorem rdd_rdn {D : Int} : ∀ (n : Nat) (t : Qd), Pos D t → Fn n t → Rdd (rdn n t) := by
  intro n
  induction n with
  | zero => intro t _ h; exact h.elim
  | succ n ih =>
    intro t hp hf
    by_cases hr : rdq (cen t) = true
    · rw [rdn_done hr]
      obtain ⟨h1, h2⟩ := cm_bd (p := t.1) (q := t.2.1) hp.1
      exact ⟨hp.1, h1, h2, hr⟩
    · obtain ⟨h1, h2⟩ := rdn_step (by simpa using hr) hf
      rw [h2]
      exact ih _ hp.cen.swp h1
theorem rdd_red {D : Int} {t : Qd} (h : Pos D t) : Rdd (red t) := rdd_rdn _ _ h (Fn.red h)
theorem Rdd.le {t : Qd} (h : Rdd t) : t.1 ≤ t.2.2 ∧ (t.1 = t.2.2 → 0 ≤ t.2.1) := by
  obtain ⟨_, _, _, h⟩ := h
  simp [rdq, rdb] at h
  omega
theorem sq_nn (x : Int) : 0 ≤ x * x := by
  rcases Int.le_total 0 x with h | h
  · exact Int.mul_nonneg h h
  · exact Int.mul_nonneg_of_nonpos_of_nonpos h h
theorem sq_pos {x : Int} (h : x ≠ 0) : 1 ≤ x * x := by
  have := sq_nn x
  have : x * x ≠ 0 := fun e => by rcases Int.mul_eq_zero.1 e with e | e <;> exact h e
  omega
/-- Values of a reduced form off its first axis are not less than R. -/
theorem low {p q r a c : Int} (hp : 1 ≤ p) (h1 : -p ≤ q) (h2 : q ≤ p) (hr : p ≤ r) (hc : c ≠ 0) : r ≤ p * a * a + q * a * c + r * c * c := by
  have key : ∀ A C : Int, 0 ≤ A → 1 ≤ C → 1 ≤ A * A - A * C + C * C := by
    intro A C hA hC
    rcases Int.le_total C A with h | h
    · have h3 : 0 ≤ A * (A - C) := Int.mul_nonneg hA (by omega)
      have h4 : 1 ≤ C * C := sq_pos (by omega)
      have : A * (A - C) = A * A - A * C := Int.mul_sub _ _ _
      omega
    · have h3 : 0 ≤ C * (C - A) := Int.mul_nonneg (by omega) (by omega)
      have h5 : C * (C - A) = C * C - A * C := by rw [Int.mul_sub, Int.mul_comm A C]
      rcases Int.lt_or_le 0 A with h6 | h6
      · have := sq_pos (x := A) (by omega)
        omega
      · have e : A = 0 := by omega
        subst e
        have := sq_pos (x := C) (by omega)
        simp; omega
  obtain ⟨A, hA⟩ : ∃ A : Int, A = a.natAbs := ⟨_, rfl⟩
  obtain ⟨C, hC⟩ : ∃ C : Int, C = c.natAbs := ⟨_, rfl⟩
  have hAA : a * a = A * A := by rw [hA, Int.natAbs_mul_self']
  have hCC : c * c = C * C := by rw [hC, Int.natAbs_mul_self']
  have hk := key A C (by omega) (by omega)
  have hqac : -(p * (A * C)) ≤ q * (a * c) := by
    have hac : a * c = A * C ∨ a * c = -(A * C) := by
      rcases Int.natAbs_eq a with e | e <;> rcases Int.natAbs_eq c with e' | e' <;> rw [← hA] at e <;> rw [← hC] at e' <;> rw [e, e'] <;> grind
    have hAC : 0 ≤ A * C := Int.mul_nonneg (by omega) (by omega)
    rcases hac with e | e
    · rw [e]
      have := Int.mul_le_mul_of_nonneg_right h1 hAC
      rw [Int.neg_mul] at this
      exact this
    · rw [e]
      have := Int.mul_le_mul_of_nonneg_right h2 hAC
      rw [Int.mul_neg]; omega
  have h7 : p * 1 ≤ p * (A * A - A * C + C * C) := Int.mul_le_mul_of_nonneg_left hk (by omega)
  have h8 : (r - p) * 1 ≤ (r - p) * (C * C) := Int.mul_le_mul_of_nonneg_left (sq_pos (by omega)) (by omega)
  have e1 : p * (A * A - A * C + C * C) = p * (A * A) - p * (A * C) + p * (C * C) := by grind
  have e2 : (r - p) * (C * C) = r * (C * C) - p * (C * C) := by grind
  have e3 : p * a * a = p * (A * A) := by rw [Int.mul_assoc, hAA]
  have e4 : r * c * c = r * (C * C) := by rw [Int.mul_assoc, hCC]
  have e5 : q * a * c = q * (a * c) := Int.mul_assoc _ _ _
  omega
theorem first_le {t u : Qd} (ht : Rdd t) (h : Eqv t u) (hu : 1 ≤ u.1) : t.1 ≤ u.1 := by
  obtain ⟨a, b, c, d, h, rfl⟩ := h
  obtain ⟨p, q, r⟩ := t
  obtain ⟨h1, h2, h3, _⟩ := id ht
  have hl := ht.le.1
  have h1 : 1 ≤ p := h1
  have h2 : -p < q := h2
  have h3 : q ≤ p := h3
  have hl : p ≤ r := hl
  show p ≤ p * a * a + q * a * c + r * c * c
  by_cases hc : c = 0
  · subst hc
    have ha : a ≠ 0 := fun e => by subst e; simp at h
    have := sq_pos ha
    have h4 : p * 1 ≤ p * (a * a) := Int.mul_le_mul_of_nonneg_left this (by omega)
    have : p * a * a = p * (a * a) := Int.mul_assoc _ _ _
    simp; omega
  · have := low (a := a) h1 (by omega) h3 hl hc
    omega
theorem sq_lt {x y : Int} (h0 : 0 ≤ x) (h : x < y) : x * x < y * y := by
  have h1 : x * x ≤ x * y := Int.mul_le_mul_of_nonneg_left (by omega) h0
  have h2 : x * y < y * y := Int.mul_lt_mul_of_pos_right h (by omega)
  omega
/-- Each class has one reduced form. -/
theorem Rdd.uniq {t u : Qd} (ht : Rdd t) (hu : Rdd u) (h : Eqv t u) : t = u := by
  have e1 : t.1 = u.1 := Int.le_antisymm (first_le ht h hu.1) (first_le hu h.symm ht.1)
  have hd := h.dsq
  obtain ⟨a, b, c, d, hdet, hu'⟩ := h
  obtain ⟨p, q, r⟩ := t
  obtain ⟨p', q', r'⟩ := u
  have e1 : p = p' := e1
  subst e1
  obtain ⟨h1, h2, h3, _⟩ := id ht
  obtain ⟨_, h2', h3', _⟩ := id hu
  obtain ⟨l1, l2⟩ := ht.le
  obtain ⟨l1', l2'⟩ := hu.le
  have h1 : 1 ≤ p := h1
  have h2 : -p < q := h2
  have h3 : q ≤ p := h3
  have h2' : -p < q' := h2'
  have h3' : q' ≤ p := h3'
  have l1 : p ≤ r := l1
  have l2 : p = r → 0 ≤ q := l2
  have l1' : p ≤ r' := l1'
  have l2' : p = r' → 0 ≤ q' := l2'
  have hd : q' * q' - 4 * p * r' = q * q - 4 * p * r := hd
  simp only [chg, Prod.mk.injEq] at hu'
  obtain ⟨g1, g2, g3⟩ := hu'
  have qr : q = q' → r = r' := fun e => by
    subst e
    have : 4 * p * r' = 4 * p * r := by omega
    have := Int.eq_of_mul_eq_mul_left (show 4 * p ≠ 0 by omega) this
    exact this.symm
  suffices q = q' by rw [this, qr this]
  by_cases hc : c = 0
  · subst hc
    have had : a * d = 1 := by omega
    have ha : a = 1 ∧ d = 1 ∨ a = -1 ∧ d = -1 := by
      have : a ∣ 1 := ⟨d, had.symm⟩
      have hn : a.natAbs = 1 := Nat.dvd_one.1 (by have := Int.natAbs_dvd_natAbs.2 this; simpa using this)
      rcases (show a = 1 ∨ a = -1 by omega) with e | e
      · subst e; left; exact ⟨rfl, by omega⟩
      · subst e; right; exact ⟨rfl, by omega⟩
    have hq : q' = q + 2 * p * (a * b) := by
      rw [g2]
      rcases ha with ⟨e, e'⟩ | ⟨e, e'⟩ <;> subst e <;> subst e' <;> grind
    generalize a * b = k at hq
    have hk : k = 0 := by
      rcases Int.lt_trichotomy k 0 with h | h | h
      · have : 2 * p * k ≤ 2 * p * (-1) := Int.mul_le_mul_of_nonneg_left (by omega) (by omega)
        omega
      · exact h
      · have : 2 * p * 1 ≤ 2 * p * k := Int.mul_le_mul_of_nonneg_left (by omega) (by omega)
        omega
    subst hk
    simp at hq
    exact hq.symm
  · have hr : r ≤ p := by
      have := low (a := a) h1 (by omega) h3 l1 hc
      omega
    have er : p = r := by omega
    have hq := l2 er
    -- the other way round
    have hinv : p = p * d * d + q' * d * (-c) + r' * (-c) * (-c) := by
      rw [g2, g3]
      have : p = p * a * a + q * a * c + r * c * c := g1
      grind
    have hr' : r' ≤ p := by
      have := low (p := p) (q := q') (r := r') (a := d) (c := -c) h1 (by omega) h3' l1' (by omega)
      omega
    have er' : p = r' := by omega
    have hq' := l2' er'
    have hqq : q' * q' = q * q := by rw [← er, ← er'] at hd; omega
    rcases Int.lt_trichotomy q q' with h | h | h
    · have := sq_lt hq h
      omega
    · exact h
    · have := sq_lt hq' h
      omega

end Go.Proofs.Ytehbkmohfipmgaa

/- Chapter 10: compositions by cubes of eight numbers. Mathematics alone. -/
namespace Go.Proofs.Ytehbkmohfipmgaa
open Go.RowKit

/-- f is a composition of q and r. -/
def Cmp (q r f : Qd) : Prop := ∃ a0 a1 a2 a3 b0 b1 b2 b3 : Int,
  (q.1 = a0 * b1 - a1 * b0 ∧ q.2.1 = a0 * b3 - a3 * b0 - (a1 * b2 - a2 * b1) ∧ q.2.2 = a2 * b3 - a3 * b2) ∧
  (r.1 = a0 * b2 - a2 * b0 ∧ r.2.1 = a0 * b3 - a3 * b0 + (a1 * b2 - a2 * b1) ∧ r.2.2 = a1 * b3 - a3 * b1) ∧
  (f.1 = b1 * b2 - b0 * b3 ∧ f.2.1 = a0 * b3 + a3 * b0 - a1 * b2 - a2 * b1 ∧ f.2.2 = a1 * a2 - a0 * a3)
theorem Cmp.symm {q r f : Qd} (h : Cmp q r f) : Cmp r q f := by
  obtain ⟨a0, a1, a2, a3, b0, b1, b2, b3, ⟨h1, h2, h3⟩, ⟨h4, h5, h6⟩, ⟨h7, h8, h9⟩⟩ := h
  exact ⟨a0, a2, a1, a3, b0, b2, b1, b3, ⟨by omega, by omega, by omega⟩, ⟨by omega, by omega, by omega⟩, ⟨by grind, by grind, by grind⟩⟩
theorem Cmp.left {q r f q' : Qd} (h : Cmp q r f) (he : Eqv q q') : Cmp q' r f := by
  obtain ⟨a0, a1, a2, a3, b0, b1, b2, b3, ⟨h1, h2, h3⟩, ⟨h4, h5, h6⟩, ⟨h7, h8, h9⟩⟩ := h
  obtain ⟨a, b, c, d, hd, rfl⟩ := he
  refine ⟨a * a0 + c * a2, a * a1 + c * a3, b * a0 + d * a2, b * a1 + d * a3, a * b0 + c * b2, a * b1 + c * b3, b * b0 + d * b2, b * b1 + d * b3, ⟨?_, ?_, ?_⟩, ⟨?_, ?_, ?_⟩, ⟨?_, ?_, ?_⟩⟩
  · show q.1 * a * a + q.2.1 * a * c + q.2.2 * c * c = _
    rw [h1, h2, h3]; grind
  · show 2 * q.1 * a * b + q.2.1 * (a * d + b * c) + 2 * q.2.2 * c * d = _
    rw [h1, h2, h3]; grind
  · show q.1 * b * b + q.2.1 * b * d + q.2.2 * d * d = _
    rw [h1, h2, h3]; grind
  · rw [h4]; grind
  · rw [h5]; grind
  · rw [h6]; grind
  · rw [h7]; grind
  · rw [h8]; grind
  · rw [h9]; grind
theorem Cmp.right {q r f r' : Qd} (h : Cmp q r f) (he : Eqv r r') : Cmp q r' f := (h.symm.left he).symm
/-- The conjugate. -/
def cnj (t : Qd) : Qd := (t.1, -t.2.1, t.2.2)
theorem Cmp.back {q r f : Qd} (h : Cmp q r f) : Cmp f (cnj r) q := by
  obtain ⟨a0, a1, a2, a3, b0, b1, b2, b3, ⟨h1, h2, h3⟩, ⟨h4, h5, h6⟩, ⟨h7, h8, h9⟩⟩ := h
  refine ⟨b2, -b3, -a2, a3, -b0, b1, a0, -a1, ⟨by rw [h7]; grind, by rw [h8]; grind, by rw [h9]; grind⟩, ⟨?_, ?_, ?_⟩, ⟨by rw [h1]; grind, by rw [h2]; grind, by rw [h3]; grind⟩⟩
  · show r.1 = _; rw [h4]; grind
  · show -r.2.1 = _; rw [h5]; grind
  · show r.2.2 = _; rw [h6]; grind
/-- A primitive form. -/
def Pri (t : Qd) : Prop := Int.gcd (Int.gcd t.1 t.2.1) t.2.2 = 1
theorem bezN (a b : Nat) : ∃ x y : Int, x * a + y * b = (Nat.gcd a b : Int) := by
  induction a, b using Nat.gcd.induction with
  | H0 n => exact ⟨0, 1, by simp⟩
  | H1 m n hm ih =>
    obtain ⟨x, y, h⟩ := ih
    rw [Nat.gcd_rec m n, ← h]
    have e : (n : Int) = m * (n / m : Nat) + (n % m : Nat) := by exact_mod_cast (Nat.div_add_mod n m).symm
    refine ⟨y - x * (n / m : Nat), x, ?_⟩
    generalize ((n / m : Nat) : Int) = u at e ⊢
    generalize ((n % m : Nat) : Int) = v at e ⊢
    rw [e]; grind
theorem bezZ (a b : Int) : ∃ x y : Int, x * a + y * b = (Int.gcd a b : Int) := by
  obtain ⟨x, y, h⟩ := bezN a.natAbs b.natAbs
  have ha : ∃ s : Int, (a.natAbs : Int) = s * a := by
    rcases Int.natAbs_eq a with e | e
    · exact ⟨1, by omega⟩
    · exact ⟨-1, by omega⟩
  have hb : ∃ s : Int, (b.natAbs : Int) = s * b := by
    rcases Int.natAbs_eq b with e | e
    · exact ⟨1, by omega⟩
    · exact ⟨-1, by omega⟩
  obtain ⟨s, hs⟩ := ha
  obtain ⟨u, hu⟩ := hb
  refine ⟨x * s, y * u, ?_⟩
  show _ = ((Nat.gcd a.natAbs b.natAbs : Nat) : Int)
  rw [← h, hs, hu]; grind
theorem Pri.bez {t : Qd} (h : Pri t) : ∃ x y z : Int, x * t.1 + y * t.2.1 + z * t.2.2 = 1 := by
  obtain ⟨x, y, h1⟩ := bezZ t.1 t.2.1
  obtain ⟨u, z, h2⟩ := bezZ (Int.gcd t.1 t.2.1) t.2.2
  rw [h, ← h1] at h2
  exact ⟨u * x, u * y, z, by simp at h2; rw [← h2]; grind⟩
theorem Pri.of {t : Qd} {x y z : Int} (h : x * t.1 + y * t.2.1 + z * t.2.2 = 1) : Pri t := by
  have h1 : (Int.gcd (Int.gcd t.1 t.2.1) t.2.2 : Int) ∣ 1 := by
    rw [← h]
    have d0 : (Int.gcd (Int.gcd t.1 t.2.1) t.2.2 : Int) ∣ (Int.gcd t.1 t.2.1 : Int) := Int.gcd_dvd_left ..
    have d3 : (Int.gcd (Int.gcd t.1 t.2.1) t.2.2 : Int) ∣ t.2.2 := Int.gcd_dvd_right ..
    have d1 := Int.dvd_trans d0 (Int.gcd_dvd_left (a := t.1) (b := t.2.1))
    have d2 := Int.dvd_trans d0 (Int.gcd_dvd_right (a := t.1) (b := t.2.1))
    exact Int.dvd_add (Int.dvd_add (Int.dvd_trans d1 (Int.dvd_mul_left _ _)) (Int.dvd_trans d2 (Int.dvd_mul_left _ _))) (Int.dvd_trans d3 (Int.dvd_mul_left _ _))
  have := Int.natAbs_dvd_natAbs.2 h1
  exact Nat.dvd_one.1 (by simpa using this)
theorem span {ci cj ck di dj dk ai aj ak bi bj bk : Int} (h1 : ci * dj - cj * di = ai * bj - aj * bi) (h2 : ci * dk - ck * di = ai * bk - ak * bi) (h3 : cj * dk - ck * dj = aj * bk - ak * bj) :
    ck * (ai * bj - aj * bi) = (ci * bj - cj * bi) * ak + (ai * cj - aj * ci) * bk ∧ dk * (ai * bj - aj * bi) = (di * bj - dj * bi) * ak + (ai * dj - aj * di) * bk := by
  have e1 : (ci * bj - cj * bi) * ak + (ai * cj - aj * ci) * bk = cj * (ai * bk - ak * bi) - ci * (aj * bk - ak * bj) := by grind
  have e2 : (di * bj - dj * bi) * ak + (ai * dj - aj * di) * bk = dj * (ai * bk - ak * bi) - di * (aj * bk - ak * bj) := by grind
  rw [e1, e2, ← h1, ← h2, ← h3]
  exact ⟨by grind, by grind⟩
theorem comb {x y z m01 m03 m12 m23 c u01 u03 u12 u23 v01 v03 v12 v23 a b : Int} (hb : x * m01 + y * (m03 - m12) + z * m23 = 1) (h01 : c * m01 = u01 * a + v01 * b) (h03 : c * m03 = u03 * a + v03 * b) (h12 : c * m12 = u12 * a + v12 * b) (h23 : c * m23 = u23 * a + v23 * b) :
    c = (x * u01 + y * (u03 - u12) + z * u23) * a + (x * v01 + y * (v03 - v12) + z * v23) * b := by
  have e : c = x * (c * m01) + y * (c * m03 - c * m12) + z * (c * m23) := by
    have : c * (x * m01 + y * (m03 - m12) + z * m23) = c := by rw [hb, Int.mul_one]
    rw [← this]; grind
  rw [h01, h03, h12, h23] at e
  rw [e]; grind
/-- The composition's class is one. -/
theorem Cmp.uniq {q r f f' : Qd} (hq : Pri q) (h : Cmp q r f) (h' : Cmp q r f') : Eqv f f' := by
  obtain ⟨x, y, z, hb⟩ := hq.bez
  obtain ⟨a0, a1, a2, a3, b0, b1, b2, b3, ⟨h1, h2, h3⟩, ⟨h4, h5, h6⟩, ⟨h7, h8, h9⟩⟩ := h
  obtain ⟨c0, c1, c2, c3, d0, d1, d2, d3, ⟨k1, k2, k3⟩, ⟨k4, k5, k6⟩, ⟨k7, k8, k9⟩⟩ := h'
  -- the six minors agree
  have m01 : c0 * d1 - c1 * d0 = a0 * b1 - a1 * b0 := by omega
  have m23 : c2 * d3 - c3 * d2 = a2 * b3 - a3 * b2 := by omega
  have m02 : c0 * d2 - c2 * d0 = a0 * b2 - a2 * b0 := by omega
  have m13 : c1 * d3 - c3 * d1 = a1 * b3 - a3 * b1 := by omega
  have m03 : c0 * d3 - c3 * d0 = a0 * b3 - a3 * b0 := by omega
  have m12 : c1 * d2 - c2 * d1 = a1 * b2 - a2 * b1 := by omega
  -- the entries of the matrix that leads from one cube to the other one
  obtain ⟨s11, e11⟩ : ∃ s, s = x * (c0 * b1 - c1 * b0) + y * (c0 * b3 - c3 * b0 - (c1 * b2 - c2 * b1)) + z * (c2 * b3 - c3 * b2) := ⟨_, rfl⟩
  obtain ⟨s12, e12⟩ : ∃ s, s = x * (a0 * c1 - a1 * c0) + y * (a0 * c3 - a3 * c0 - (a1 * c2 - a2 * c1)) + z * (a2 * c3 - a3 * c2) := ⟨_, rfl⟩
  obtain ⟨s21, e21⟩ : ∃ s, s = x * (d0 * b1 - d1 * b0) + y * (d0 * b3 - d3 * b0 - (d1 * b2 - d2 * b1)) + z * (d2 * b3 - d3 * b2) := ⟨_, rfl⟩
  obtain ⟨s22, e22⟩ : ∃ s, s = x * (a0 * d1 - a1 * d0) + y * (a0 * d3 - a3 * d0 - (a1 * d2 - a2 * d1)) + z * (a2 * d3 - a3 * d2) := ⟨_, rfl⟩
  rw [h1, h2, h3] at hb
  have p0 : c0 = s11 * a0 + s12 * b0 := by
    rw [e11, e12]
    exact comb hb (span (ci := c0) (cj := c1) (ck := c0) (di := d0) (dj := d1) (dk := d0) (ai := a0) (aj := a1) (ak := a0) (bi := b0) (bj := b1) (bk := b0) (m01) (by omega) (by have := m01; omega)).1 (span (ci := c0) (cj := c3) (ck := c0) (di := d0) (dj := d3) (dk := d0) (ai := a0) (aj := a3) (ak := a0) (bi := b0) (bj := b3) (bk := b0) (m03) (by omega) (by have := m03; omega)).1 (span (ci := c1) (cj := c2) (ck := c0) (di := d1) (dj := d2) (dk := d0) (ai := a1) (aj := a2) (ak := a0) (bi := b1) (bj := b2) (bk := b0) (m12) (by have := m01; omega) (by have := m02; omega)).1 (span (ci := c2) (cj := c3) (ck := c0) (di := d2) (dj := d3) (dk := d0) (ai := a2) (aj := a3) (ak := a0) (bi := b2) (bj := b3) (bk := b0) (m23) (by have := m02; omega) (by have := m03; omega)).1
  have p1 : c1 = s11 * a1 + s12 * b1 := by
    rw [e11, e12]
    exact comb hb (span (ci := c0) (cj := c1) (ck := c1) (di := d0) (dj := d1) (dk := d1) (ai := a0) (aj := a1) (ak := a1) (bi := b0) (bj := b1) (bk := b1) (m01) (m01) (by omega)).1 (span (ci := c0) (cj := c3) (ck := c1) (di := d0) (dj := d3) (dk := d1) (ai := a0) (aj := a3) (ak := a1) (bi := b0) (bj := b3) (bk := b1) (m03) (m01) (by have := m13; omega)).1 (span (ci := c1) (cj := c2) (ck := c1) (di := d1) (dj := d2) (dk := d1) (ai := a1) (aj := a2) (ak := a1) (bi := b1) (bj := b2) (bk := b1) (m12) (by omega) (by have := m12; omega)).1 (span (ci := c2) (cj := c3) (ck := c1) (di := d2) (dj := d3) (dk := d1) (ai := a2) (aj := a3) (ak := a1) (bi := b2) (bj := b3) (bk := b1) (m23) (by have := m12; omega) (by have := m13; omega)).1
  have p2 : c2 = s11 * a2 + s12 * b2 := by
    rw [e11, e12]
    exact comb hb (span (ci := c0) (cj := c1) (ck := c2) (di := d0) (dj := d1) (dk := d2) (ai := a0) (aj := a1) (ak := a2) (bi := b0) (bj := b1) (bk := b2) (m01) (m02) (m12)).1 (span (ci := c0) (cj := c3) (ck := c2) (di := d0) (dj := d3) (dk := d2) (ai := a0) (aj := a3) (ak := a2) (bi := b0) (bj := b3) (bk := b2) (m03) (m02) (by have := m23; omega)).1 (span (ci := c1) (cj := c2) (ck := c2) (di := d1) (dj := d2) (dk := d2) (ai := a1) (aj := a2) (ak := a2) (bi := b1) (bj := b2) (bk := b2) (m12) (m12) (by omega)).1 (span (ci := c2) (cj := c3) (ck := c2) (di := d2) (dj := d3) (dk := d2) (ai := a2) (aj := a3) (ak := a2) (bi := b2) (bj := b3) (bk := b2) (m23) (by omega) (by have := m23; omega)).1
  have p3 : c3 = s11 * a3 + s12 * b3 := by
    rw [e11, e12]
    exact comb hb (span (ci := c0) (cj := c1) (ck := c3) (di := d0) (dj := d1) (dk := d3) (ai := a0) (aj := a1) (ak := a3) (bi := b0) (bj := b1) (bk := b3) (m01) (m03) (m13)).1 (span (ci := c0) (cj := c3) (ck := c3) (di := d0) (dj := d3) (dk := d3) (ai := a0) (aj := a3) (ak := a3) (bi := b0) (bj := b3) (bk := b3) (m03) (m03) (by omega)).1 (span (ci := c1) (cj := c2) (ck := c3) (di := d1) (dj := d2) (dk := d3) (ai := a1) (aj := a2) (ak := a3) (bi := b1) (bj := b2) (bk := b3) (m12) (m13) (m23)).1 (span (ci := c2) (cj := c3) (ck := c3) (di := d2) (dj := d3) (dk := d3) (ai := a2) (aj := a3) (ak := a3) (bi := b2) (bj := b3) (bk := b3) (m23) (m23) (by omega)).1
  have q0 : d0 = s21 * a0 + s22 * b0 := by
    rw [e21, e22]
    exact comb hb (span (ci := c0) (cj := c1) (ck := c0) (di := d0) (dj := d1) (dk := d0) (ai := a0) (aj := a1) (ak := a0) (bi := b0) (bj := b1) (bk := b0) (m01) (by omega) (by have := m01; omega)).2 (span (ci := c0) (cj := c3) (ck := c0) (di := d0) (dj := d3) (dk := d0) (ai := a0) (aj := a3) (ak := a0) (bi := b0) (bj := b3) (bk := b0) (m03) (by omega) (by have := m03; omega)).2 (span (ci := c1) (cj := c2) (ck := c0) (di := d1) (dj := d2) (dk := d0) (ai := a1) (aj := a2) (ak := a0) (bi := b1) (bj := b2) (bk := b0) (m12) (by have := m01; omega) (by have := m02; omega)).2 (span (ci := c2) (cj := c3) (ck := c0) (di := d2) (dj := d3) (dk := d0) (ai := a2) (aj := a3) (ak := a0) (bi := b2) (bj := b3) (bk := b0) (m23) (by have := m02; omega) (by have := m03; omega)).2
  have q1 : d1 = s21 * a1 + s22 * b1 := by
    rw [e21, e22]
    exact comb hb (span (ci := c0) (cj := c1) (ck := c1) (di := d0) (dj := d1) (dk := d1) (ai := a0) (aj := a1) (ak := a1) (bi := b0) (bj := b1) (bk := b1) (m01) (m01) (by omega)).2 (span (ci := c0) (cj := c3) (ck := c1) (di := d0) (dj := d3) (dk := d1) (ai := a0) (aj := a3) (ak := a1) (bi := b0) (bj := b3) (bk := b1) (m03) (m01) (by have := m13; omega)).2 (span (ci := c1) (cj := c2) (ck := c1) (di := d1) (dj := d2) (dk := d1) (ai := a1) (aj := a2) (ak := a1) (bi := b1) (bj := b2) (bk := b1) (m12) (by omega) (by have := m12; omega)).2 (span (ci := c2) (cj := c3) (ck := c1) (di := d2) (dj := d3) (dk := d1) (ai := a2) (aj := a3) (ak := a1) (bi := b2) (bj := b3) (bk := b1) (m23) (by have := m12; omega) (by have := m13; omega)).2
  have q2 : d2 = s21 * a2 + s22 * b2 := by
    rw [e21, e22]
    exact comb hb (span (ci := c0) (cj := c1) (ck := c2) (di := d0) (dj := d1) (dk := d2) (ai := a0) (aj := a1) (ak := a2) (bi := b0) (bj := b1) (bk := b2) (m01) (m02) (m12)).2 (span (ci := c0) (cj := c3) (ck := c2) (di := d0) (dj := d3) (dk := d2) (ai := a0) (aj := a3) (ak := a2) (bi := b0) (bj := b3) (bk := b2) (m03) (m02) (by have := m23; omega)).2 (span (ci := c1) (cj := c2) (ck := c2) (di := d1) (dj := d2) (dk := d2) (ai := a1) (aj := a2) (ak := a2) (bi := b1) (bj := b2) (bk := b2) (m12) (m12) (by omega)).2 (span (ci := c2) (cj := c3) (ck := c2) (di := d2) (dj := d3) (dk := d2) (ai := a2) (aj := a3) (ak := a2) (bi := b2) (bj := b3) (bk := b2) (m23) (by omega) (by have := m23; omega)).2
  have q3 : d3 = s21 * a3 + s22 * b3 := by
    rw [e21, e22]
    exact comb hb (span (ci := c0) (cj := c1) (ck := c3) (di := d0) (dj := d1) (dk := d3) (ai := a0) (aj := a1) (ak := a3) (bi := b0) (bj := b1) (bk := b3) (m01) (m03) (m13)).2 (span (ci := c0) (cj := c3) (ck := c3) (di := d0) (dj := d3) (dk := d3) (ai := a0) (aj := a3) (ak := a3) (bi := b0) (bj := b3) (bk := b3) (m03) (m03) (by omega)).2 (span (ci := c1) (cj := c2) (ck := c3) (di := d1) (dj := d2) (dk := d3) (ai := a1) (aj := a2) (ak := a3) (bi := b1) (bj := b2) (bk := b3) (m12) (m13) (m23)).2 (span (ci := c2) (cj := c3) (ck := c3) (di := d2) (dj := d3) (dk := d3) (ai := a2) (aj := a3) (ak := a3) (bi := b2) (bj := b3) (bk := b3) (m23) (m23) (by omega)).2
  have hdet : s11 * s22 - s12 * s21 = 1 := by
    have g : x * (c0 * d1 - c1 * d0) + y * ((c0 * d3 - c3 * d0) - (c1 * d2 - c2 * d1)) + z * (c2 * d3 - c3 * d2) = 1 := by rw [m01, m03, m12, m23]; exact hb
    rw [p0, p1, p2, p3, q0, q1, q2, q3] at g
    have e : (s11 * s22 - s12 * s21) * (x * (a0 * b1 - a1 * b0) + y * (a0 * b3 - a3 * b0 - (a1 * b2 - a2 * b1)) + z * (a2 * b3 - a3 * b2)) = 1 := by rw [← g]; grind
    rw [hb, Int.mul_one] at e
    exact e
  refine ⟨s22, -s12, -s21, s11, by grind, ?_⟩
  obtain ⟨f1, f2, f3⟩ := f
  obtain ⟨g1, g2, g3⟩ := f'
  simp only [chg, Prod.mk.injEq] at *
  subst h7 h8 h9 k7 k8 k9
  clear e11 e12 e21 e22 hb m01 m23 m02 m13 m03 m12
  subst p0 p1 p2 p3 q0 q1 q2 q3
  refine ⟨by grind, by grind, by grind⟩

end Go.Proofs.Ytehbkmohfipmgaa
