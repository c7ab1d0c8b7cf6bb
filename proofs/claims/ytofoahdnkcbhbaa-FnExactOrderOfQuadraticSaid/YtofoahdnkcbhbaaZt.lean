/- Chapter 10: compositions by cubes of eight numbers. Mathematics alone. -/
import Derived.Test.YtofoahdnkcbhbaaZs
namespace Go.Proofs.Ytofoahdnkcbhbaa
open Go.RowKit

/-- f is a composition of q and r. -/
def Cmp (q r f : Qd) : Prop := ∃ a0 a1 a2 a3 b0 b1 b2 b3 : Int,
  (q.1 = a0 * b1 - a1 * b0 ∧ q.2.1 = a0 * b3 - a3 * b0 - (a1 * b2 - a2 * b1) ∧ q.2.2 = a2 * b3 - a3 * b2) ∧
  (r.1 = a0 * b2 - a2 * b0 ∧ r.2.1 = a0 * b3 - a3 * b0 + (a1 * b2 - a2 * b1) ∧ r.2.2 = a1 * b3 - a3 * b1) ∧
  (f.1 = b1 * b2 - b0 * b3 ∧ f.2.1 = a0 * b3 + a3 * b0 - a1 * b2 - a2 * b1 ∧ f.2.2 = a1 * a2 - a0 * a3)
theorem Cmp.symm {q r f : Qd} (h : Cmp q r f) : Cmp r q f := by
  obtain ⟨a0, a1, a2, a3, b0, b1, b2, b3, ⟨h1, h2, h3⟩, ⟨h4, h5, h6⟩, ⟨h7, h8, h9⟩⟩ := h
  exact ⟨a0, a2, a1, a3, b0, b2, b1, b3, ⟨by omega, by omega, by omega⟩, ⟨by omega, by omega, by omega⟩, ⟨by grind, by grind, by grind⟩⟩
theorem Cmp.left {q r f q' : Qd} (h : Cmp q r f) (he : Eqv q q') : Cmp q' r f := by
  obtain ⟨a0, a1, a2, a3, b0, b1, b2, b3, ⟨h1, h2, h3⟩, ⟨h4, h5, h6⟩, ⟨h7, h8, h9⟩⟩ := h
  obtain ⟨a, b, c, d, hd, rfl⟩ := he
  refine ⟨a * a0 + c * a2, a * a1 + c * a3, b * a0 + d * a2, b * a1 + d * a3, a * b0 + c * b2, a * b1 + c * b3, b * b0 + d * b2, b * b1 + d * b3, ⟨?_, ?_, ?_⟩, ⟨?_, ?_, ?_⟩, ⟨?_, ?_, ?_⟩⟩
  · show q.1 * a * a + q.2.1 * a * c + q.2.2 * c * c = _
    rw [h1, h2, h3]; grind
  · show 2 * q.1 * a * b + q.2.1 * (a * d + b * c) + 2 * q.2.2 * c * d = _
    rw [h1, h2, h3]; grind
  · show q.1 * b * b + q.2.1 * b * d + q.2.2 * d * d = _
    rw [h1, h2, h3]; grind
  · rw [h4]; grind
  · rw [h5]; grind
  · rw [h6]; grind
  · rw [h7]; grind
  · rw [h8]; grind
  · rw [h9]; grind
theorem Cmp.right {q r f r' : Qd} (h : Cmp q r f) (he : Eqv r r') : Cmp q r' f := (h.symm.left he).symm
/-- The conjugate. -/
def cnj (t : Qd) : Qd := (t.1, -t.2.1, t.2.2)
theorem Cmp.back {q r f : Qd} (h : Cmp q r f) : Cmp f (cnj r) q := by
  obtain ⟨a0, a1, a2, a3, b0, b1, b2, b3, ⟨h1, h2, h3⟩, ⟨h4, h5, h6⟩, ⟨h7, h8, h9⟩⟩ := h
  refine ⟨b2, -b3, -a2, a3, -b0, b1, a0, -a1, ⟨by rw [h7]; grind, by rw [h8]; grind, by rw [h9]; grind⟩, ⟨?_, ?_, ?_⟩, ⟨by rw [h1]; grind, by rw [h2]; grind, by rw [h3]; grind⟩⟩
  · show r.1 = _; rw [h4]; grind
  · show -r.2.1 = _; rw [h5]; grind
  · show r.2.2 = _; rw [h6]; grind
/-- A primitive form. -/
def Pri (t : Qd) : Prop := Int.gcd (Int.gcd t.1 t.2.1) t.2.2 = 1
theorem bezN (a b : Nat) : ∃ x y : Int, x * a + y * b = (Nat.gcd a b : Int) := by
  induction a, b using Nat.gcd.induction with
  | H0 n => exact ⟨0, 1, by simp⟩
  | H1 m n hm ih =>
    obtain ⟨x, y, h⟩ := ih
    rw [Nat.gcd_rec m n, ← h]
    have e : (n : Int) = m * (n / m : Nat) + (n % m : Nat) := by exact_mod_cast (Nat.div_add_mod n m).symm
    refine ⟨y - x * (n / m : Nat), x, ?_⟩
    generalize ((n / m : Nat) : Int) = u at e ⊢
    generalize ((n % m : Nat) : Int) = v at e ⊢
    rw [e]; grind
theorem bezZ (a b : Int) : ∃ x y : Int, x * a + y * b = (Int.gcd a b : Int) := by
  obtain ⟨x, y, h⟩ := bezN a.natAbs b.natAbs
  have ha : ∃ s : Int, (a.natAbs : Int) = s * a := by
    rcases Int.natAbs_eq a with e | e
    · exact ⟨1, by omega⟩
    · exact ⟨-1, by omega⟩
  have hb : ∃ s : Int, (b.natAbs : Int) = s * b := by
    rcases Int.natAbs_eq b with e | e
    · exact ⟨1, by omega⟩
    · exact ⟨-1, by omega⟩
  obtain ⟨s, hs⟩ := ha
  obtain ⟨u, hu⟩ := hb
  refine ⟨x * s, y * u, ?_⟩
  show _ = ((Nat.gcd a.natAbs b.natAbs : Nat) : Int)
  rw [← h, hs, hu]; grind
theorem Pri.bez {t : Qd} (h : Pri t) : ∃ x y z : Int, x * t.1 + y * t.2.1 + z * t.2.2 = 1 := by
  obtain ⟨x, y, h1⟩ := bezZ t.1 t.2.1
  obtain ⟨u, z, h2⟩ := bezZ (Int.gcd t.1 t.2.1) t.2.2
  rw [h, ← h1] at h2
  exact ⟨u * x, u * y, z, by simp at h2; rw [← h2]; grind⟩
theorem Pri.of {t : Qd} {x y z : Int} (h : x * t.1 + y * t.2.1 + z * t.2.2 = 1) : Pri t := by
  have h1 : (Int.gcd (Int.gcd t.1 t.2.1) t.2.2 : Int) ∣ 1 := by
    rw [← h]
    have d0 : (Int.gcd (Int.gcd t.1 t.2.1) t.2.2 : Int) ∣ (Int.gcd t.1 t.2.1 : Int) := Int.gcd_dvd_left ..
    have d3 : (Int.gcd (Int.gcd t.1 t.2.1) t.2.2 : Int) ∣ t.2.2 := Int.gcd_dvd_right ..
    have d1 := Int.dvd_trans d0 (Int.gcd_dvd_left (a := t.1) (b := t.2.1))
    have d2 := Int.dvd_trans d0 (Int.gcd_dvd_right (a := t.1) (b := t.2.1))
    exact Int.dvd_add (Int.dvd_add (Int.dvd_trans d1 (Int.dvd_mul_left _ _)) (Int.dvd_trans d2 (Int.dvd_mul_left _ _))) (Int.dvd_trans d3 (Int.dvd_mul_left _ _))
  have := Int.natAbs_dvd_natAbs.2 h1
  exact Nat.dvd_one.1 (by simpa using this)
theorem span {ci cj ck di dj dk ai aj ak bi bj bk : Int} (h1 : ci * dj - cj * di = ai * bj - aj * bi) (h2 : ci * dk - ck * di = ai * bk - ak * bi) (h3 : cj * dk - ck * dj = aj * bk - ak * bj) :
    ck * (ai * bj - aj * bi) = (ci * bj - cj * bi) * ak + (ai * cj - aj * ci) * bk ∧ dk * (ai * bj - aj * bi) = (di * bj - dj * bi) * ak + (ai * dj - aj * di) * bk := by
  have e1 : (ci * bj - cj * bi) * ak + (ai * cj - aj * ci) * bk = cj * (ai * bk - ak * bi) - ci * (aj * bk - ak * bj) := by grind
  have e2 : (di * bj - dj * bi) * ak + (ai * dj - aj * di) * bk = dj * (ai * bk - ak * bi) - di * (aj * bk - ak * bj) := by grind
  rw [e1, e2, ← h1, ← h2, ← h3]
  exact ⟨by grind, by grind⟩
theorem comb {x y z m01 m03 m12 m23 c u01 u03 u12 u23 v01 v03 v12 v23 a b : Int} (hb : x * m01 + y * (m03 - m12) + z * m23 = 1) (h01 : c * m01 = u01 * a + v01 * b) (h03 : c * m03 = u03 * a + v03 * b) (h12 : c * m12 = u12 * a + v12 * b) (h23 : c * m23 = u23 * a + v23 * b) :
    c = (x * u01 + y * (u03 - u12) + z * u23) * a + (x * v01 + y * (v03 - v12) + z * v23) * b := by
  have e : c = x * (c * m01) + y * (c * m03 - c * m12) + z * (c * m23) := by
    have : c * (x * m01 + y * (m03 - m12) + z * m23) = c := by rw [hb, Int.mul_one]
    rw [← this]; grind
  rw [h01, h03, h12, h23] at e
  rw [e]; grind
/-- The composition's class is one. -/
theorem Cmp.uniq {q r f f' : Qd} (hq : Pri q) (h : Cmp q r f) (h' : Cmp q r f') : Eqv f f' := by
  obtain ⟨x, y, z, hb⟩ := hq.bez
  obtain ⟨a0, a1, a2, a3, b0, b1, b2, b3, ⟨h1, h2, h3⟩, ⟨h4, h5, h6⟩, ⟨h7, h8, h9⟩⟩ := h
  obtain ⟨c0, c1, c2, c3, d0, d1, d2, d3, ⟨k1, k2, k3⟩, ⟨k4, k5, k6⟩, ⟨k7, k8, k9⟩⟩ := h'
  -- the six minors agree
  have m01 : c0 * d1 - c1 * d0 = a0 * b1 - a1 * b0 := by omega
  have m23 : c2 * d3 - c3 * d2 = a2 * b3 - a3 * b2 := by omega
  have m02 : c0 * d2 - c2 * d0 = a0 * b2 - a2 * b0 := by omega
  have m13 : c1 * d3 - c3 * d1 = a1 * b3 - a3 * b1 := by omega
  have m03 : c0 * d3 - c3 * d0 = a0 * b3 - a3 * b0 := by omega
  have m12 : c1 * d2 - c2 * d1 = a1 * b2 - a2 * b1 := by omega
  -- the entries of the matrix that leads from one cube to the other one
  obtain ⟨s11, e11⟩ : ∃ s, s = x * (c0 * b1 - c1 * b0) + y * (c0 * b3 - c3 * b0 - (c1 * b2 - c2 * b1)) + z * (c2 * b3 - c3 * b2) := ⟨_, rfl⟩
  obtain ⟨s12, e12⟩ : ∃ s, s = x * (a0 * c1 - a1 * c0) + y * (a0 * c3 - a3 * c0 - (a1 * c2 - a2 * c1)) + z * (a2 * c3 - a3 * c2) := ⟨_, rfl⟩
  obtain ⟨s21, e21⟩ : ∃ s, s = x * (d0 * b1 - d1 * b0) + y * (d0 * b3 - d3 * b0 - (d1 * b2 - d2 * b1)) + z * (d2 * b3 - d3 * b2) := ⟨_, rfl⟩
  obtain ⟨s22, e22⟩ : ∃ s, s = x * (a0 * d1 - a1 * d0) + y * (a0 * d3 - a3 * d0 - (a1 * d2 - a2 * d1)) + z * (a2 * d3 - a3 * d2) := ⟨_, rfl⟩
  rw [h1, h2, h3] at hb
  have p0 : c0 = s11 * a0 + s12 * b0 := by
    rw [e11, e12]
    exact comb hb (span (ci := c0) (cj := c1) (ck := c0) (di := d0) (dj := d1) (dk := d0) (ai := a0) (aj := a1) (ak := a0) (bi := b0) (bj := b1) (bk := b0) (m01) (by omega) (by have := m01; omega)).1 (span (ci := c0) (cj := c3) (ck := c0) (di := d0) (dj := d3) (dk := d0) (ai := a0) (aj := a3) (ak := a0) (bi := b0) (bj := b3) (bk := b0) (m03) (by omega) (by have := m03; omega)).1 (span (ci := c1) (cj := c2) (ck := c0) (di := d1) (dj := d2) (dk := d0) (ai := a1) (aj := a2) (ak := a0) (bi := b1) (bj := b2) (bk := b0) (m12) (by have := m01; omega) (by have := m02; omega)).1 (span (ci := c2) (cj := c3) (ck := c0) (di := d2) (dj := d3) (dk := d0) (ai := a2) (aj := a3) (ak := a0) (bi := b2) (bj := b3) (bk := b0) (m23) (by have := m02; omega) (by have := m03; omega)).1
  have p1 : c1 = s11 * a1 + s12 * b1 := by
    rw [e11, e12]
    exact comb hb (span (ci := c0) (cj := c1) (ck := c1) (di := d0) (dj := d1) (dk := d1) (ai := a0) (aj := a1) (ak := a1) (bi := b0) (bj := b1) (bk := b1) (m01) (m01) (by omega)).1 (span (ci := c0) (cj := c3) (ck := c1) (di := d0) (dj := d3) (dk := d1) (ai := a0) (aj := a3) (ak := a1) (bi := b0) (bj := b3) (bk := b1) (m03) (m01) (by have := m13; omega)).1 (span (ci := c1) (cj := c2) (ck := c1) (di := d1) (dj := d2) (dk := d1) (ai := a1) (aj := a2) (ak := a1) (bi := b1) (bj := b2) (bk := b1) (m12) (by omega) (by have := m12; omega)).1 (span (ci := c2) (cj := c3) (ck := c1) (di := d2) (dj := d3) (dk := d1) (ai := a2) (aj := a3) (ak := a1) (bi := b2) (bj := b3) (bk := b1) (m23) (by have := m12; omega) (by have := m13; omega)).1
  have p2 : c2 = s11 * a2 + s12 * b2 := by
    rw [e11, e12]
    exact comb hb (span (ci := c0) (cj := c1) (ck := c2) (di := d0) (dj := d1) (dk := d2) (ai := a0) (aj := a1) (ak := a2) (bi := b0) (bj := b1) (bk := b2) (m01) (m02) (m12)).1 (span (ci := c0) (cj := c3) (ck := c2) (di := d0) (dj := d3) (dk := d2) (ai := a0) (aj := a3) (ak := a2) (bi := b0) (bj := b3) (bk := b2) (m03) (m02) (by have := m23; omega)).1 (span (ci := c1) (cj := c2) (ck := c2) (di := d1) (dj := d2) (dk := d2) (ai := a1) (aj := a2) (ak := a2) (bi := b1) (bj := b2) (bk := b2) (m12) (m12) (by omega)).1 (span (ci := c2) (cj := c3) (ck := c2) (di := d2) (dj := d3) (dk := d2) (ai := a2) (aj := a3) (ak := a2) (bi := b2) (bj := b3) (bk := b2) (m23) (by omega) (by have := m23; omega)).1
  have p3 : c3 = s11 * a3 + s12 * b3 := by
    rw [e11, e12]
    exact comb hb (span (ci := c0) (cj := c1) (ck := c3) (di := d0) (dj := d1) (dk := d3) (ai := a0) (aj := a1) (ak := a3) (bi := b0) (bj := b1) (bk := b3) (m01) (m03) (m13)).1 (span (ci := c0) (cj := c3) (ck := c3) (di := d0) (dj := d3) (dk := d3) (ai := a0) (aj := a3) (ak := a3) (bi := b0) (bj := b3) (bk := b3) (m03) (m03) (by omega)).1 (span (ci := c1) (cj := c2) (ck := c3) (di := d1) (dj := d2) (dk := d3) (ai := a1) (aj := a2) (ak := a3) (bi := b1) (bj := b2) (bk := b3) (m12) (m13) (m23)).1 (span (ci := c2) (cj := c3) (ck := c3) (di := d2) (dj := d3) (dk := d3) (ai := a2) (aj := a3) (ak := a3) (bi := b2) (bj := b3) (bk := b3) (m23) (m23) (by omega)).1
  have q0 : d0 = s21 * a0 + s22 * b0 := by
    rw [e21, e22]
    exact comb hb (span (ci := c0) (cj := c1) (ck := c0) (di := d0) (dj := d1) (dk := d0) (ai := a0) (aj := a1) (ak := a0) (bi := b0) (bj := b1) (bk := b0) (m01) (by omega) (by have := m01; omega)).2 (span (ci := c0) (cj := c3) (ck := c0) (di := d0) (dj := d3) (dk := d0) (ai := a0) (aj := a3) (ak := a0) (bi := b0) (bj := b3) (bk := b0) (m03) (by omega) (by have := m03; omega)).2 (span (ci := c1) (cj := c2) (ck := c0) (di := d1) (dj := d2) (dk := d0) (ai := a1) (aj := a2) (ak := a0) (bi := b1) (bj := b2) (bk := b0) (m12) (by have := m01; omega) (by have := m02; omega)).2 (span (ci := c2) (cj := c3) (ck := c0) (di := d2) (dj := d3) (dk := d0) (ai := a2) (aj := a3) (ak := a0) (bi := b2) (bj := b3) (bk := b0) (m23) (by have := m02; omega) (by have := m03; omega)).2
  have q1 : d1 = s21 * a1 + s22 * b1 := by
    rw [e21, e22]
    exact comb hb (span (ci := c0) (cj := c1) (ck := c1) (di := d0) (dj := d1) (dk := d1) (ai := a0) (aj := a1) (ak := a1) (bi := b0) (bj := b1) (bk := b1) (m01) (m01) (by omega)).2 (span (ci := c0) (cj := c3) (ck := c1) (di := d0) (dj := d3) (dk := d1) (ai := a0) (aj := a3) (ak := a1) (bi := b0) (bj := b3) (bk := b1) (m03) (m01) (by have := m13; omega)).2 (span (ci := c1) (cj := c2) (ck := c1) (di := d1) (dj := d2) (dk := d1) (ai := a1) (aj := a2) (ak := a1) (bi := b1) (bj := b2) (bk := b1) (m12) (by omega) (by have := m12; omega)).2 (span (ci := c2) (cj := c3) (ck := c1) (di := d2) (dj := d3) (dk := d1) (ai := a2) (aj := a3) (ak := a1) (bi := b2) (bj := b3) (bk := b1) (m23) (by have := m12; omega) (by have := m13; omega)).2
  have q2 : d2 = s21 * a2 + s22 * b2 := by
    rw [e21, e22]
    exact comb hb (span (ci := c0) (cj := c1) (ck := c2) (di := d0) (dj := d1) (dk := d2) (ai := a0) (aj := a1) (ak := a2) (bi := b0) (bj := b1) (bk := b2) (m01) (m02) (m12)).2 (span (ci := c0) (cj := c3) (ck := c2) (di := d0) (dj := d3) (dk := d2) (ai := a0) (aj := a3) (ak := a2) (bi := b0) (bj := b3) (bk := b2) (m03) (m02) (by have := m23; omega)).2 (span (ci := c1) (cj := c2) (ck := c2) (di := d1) (dj := d2) (dk := d2) (ai := a1) (aj := a2) (ak := a2) (bi := b1) (bj := b2) (bk := b2) (m12) (m12) (by omega)).2 (span (ci := c2) (cj := c3) (ck := c2) (di := d2) (dj := d3) (dk := d2) (ai := a2) (aj := a3) (ak := a2) (bi := b2) (bj := b3) (bk := b2) (m23) (by omega) (by have := m23; omega)).2
  have q3 : d3 = s21 * a3 + s22 * b3 := by
    rw [e21, e22]
    exact comb hb (span (ci := c0) (cj := c1) (ck := c3) (di := d0) (dj := d1) (dk := d3) (ai := a0) (aj := a1) (ak := a3) (bi := b0) (bj := b1) (bk := b3) (m01) (m03) (m13)).2 (span (ci := c0) (cj := c3) (ck := c3) (di := d0) (dj := d3) (dk := d3) (ai := a0) (aj := a3) (ak := a3) (bi := b0) (bj := b3) (bk := b3) (m03) (m03) (by omega)).2 (span (ci := c1) (cj := c2) (ck := c3) (di := d1) (dj := d2) (dk := d3) (ai := a1) (aj := a2) (ak := a3) (bi := b1) (bj := b2) (bk := b3) (m12) (m13) (m23)).2 (span (ci := c2) (cj := c3) (ck := c3) (di := d2) (dj := d3) (dk := d3) (ai := a2) (aj := a3) (ak := a3) (bi := b2) (bj := b3) (bk := b3) (m23) (m23) (by omega)).2
  have hdet : s11 * s22 - s12 * s21 = 1 := by
    have g : x * (c0 * d1 - c1 * d0) + y * ((c0 * d3 - c3 * d0) - (c1 * d2 - c2 * d1)) + z * (c2 * d3 - c3 * d2) = 1 := by rw [m01, m03, m12, m23]; exact hb
    rw [p0, p1, p2, p3, q0, q1, q2, q3] at g
    have e : (s11 * s22 - s12 * s21) * (x * (a0 * b1 - a1 * b0) + y * (a0 * b3 - a3 * b0 - (a1 * b2 - a2 * b1)) + z * (a2 * b3 - a3 * b2)) = 1 := by rw [← g]; grind
    rw [hb, Int.mul_one] at e
    exact e
  refine ⟨s22, -s12, -s21, s11, by grind, ?_⟩
  obtain ⟨f1, f2, f3⟩ := f
  obtain ⟨g1, g2, g3⟩ := f'
  simp only [chg, Prod.mk.injEq] at *
  subst h7 h8 h9 k7 k8 k9
  clear e11 e12 e21 e22 hb m01 m23 m02 m13 m03 m12
  subst p0 p1 p2 p3 q0 q1 q2 q3
  refine ⟨by grind, by grind, by grind⟩

end Go.Proofs.Ytofoahdnkcbhbaa
