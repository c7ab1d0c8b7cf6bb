/- Several texts in one: XRm, XGm, XFa. -/
import Derived.Test.YthheongdgcfngaaDoorZ5
import Derived.Test.YthheongdgcfngaaDoorMath

/- Chapter 5: multiplicities modulo a prime, both sides' the same. Mathematics; no Go function in sight. -/
namespace Go.Proofs.YthheongdgcfngaaDoor
open Go.RowKit

theorem mul0_d (n m : Int) : mul0 n m = decide (m ∣ n) := by
  unfold mul0
  split
  · rename_i h; subst h; rw [Bool.eq_iff_iff]; simp [Int.zero_dvd]
  · rw [Bool.eq_iff_iff]; simp [Int.dvd_iff_tmod_eq_zero]
theorem wr_0 : wrap64 0 = 0 := wr_in (by omega)
theorem wr_1 : wrap64 1 = 1 := wr_in (by omega)
theorem wr_wr (x : Int) : wrap64 (wrap64 x) = wrap64 x := by simpa using wr_al x 0
theorem nv0 (a b c d x : Int) : nva [a, b, c, d] x 1 = wrap64 (a * x * x * x + b * x * x + c * x + d) := by
  simp only [nva, List.foldl, nst, pl, mu, wr_al, wr_ar, wr_ml, wr_mr]
  congr 1; grind
theorem dv0 (a b c d x : Int) : dvd [a, b, c, d] x 1 = [wrap64 a, wrap64 (b + x * a), wrap64 (c + x * (b + x * a))] := by
  simp only [dvd, show ¬ ((1 : Int) = 0) by decide, if_false, List.dropLast, List.foldl, dst, pl, mu, Int.tdiv_one, wr_wr, wr_ar, wr_mr, List.nil_append, List.cons_append]
  congr 1
  · congr 1; grind
  · congr 1
    · apply congrArg; grind
    · congr 1; apply congrArg; grind
theorem dv1 (a b c x : Int) : dvd [a, b, c] x 1 = [wrap64 a, wrap64 (b + x * a)] := by
  simp only [dvd, show ¬ ((1 : Int) = 0) by decide, if_false, List.dropLast, List.foldl, dst, pl, mu, Int.tdiv_one, wr_wr, wr_ar, wr_mr, List.nil_append, List.cons_append]
  congr 1
  · congr 1; grind
  · congr 1; apply congrArg; grind
theorem dv2 (a b x : Int) : dvd [a, b] x 1 = [wrap64 a] := by
  simp only [dvd, show ¬ ((1 : Int) = 0) by decide, if_false, List.dropLast, List.foldl, dst, pl, mu, Int.tdiv_one, wr_wr, wr_ar, List.nil_append]
  congr 1; congr 1; grind
theorem nv1 (a b c x : Int) : nva [a, b, c] x 1 = wrap64 (a * x * x + b * x + c) := by
  simp only [nva, List.foldl, nst, pl, mu, wr_al, wr_ar, wr_ml, wr_mr]
  congr 1; grind
theorem nv2 (a b x : Int) : nva [a, b] x 1 = wrap64 (a * x + b) := by
  simp only [nva, List.foldl, nst, pl, mu, wr_al, wr_ar, wr_ml, wr_mr]
  congr 1; grind
theorem nv3 (a x : Int) : nva [a] x 1 = wrap64 a := by
  simp only [nva, List.foldl, nst, pl, mu, wr_al, wr_ar]
  congr 1; grind
/-- The three lower numbers of the form moved to a point x, 1: the value, the slope, half the second slope. -/
def g3 (a b c d x : Int) : Int := a * x * x * x + b * x * x + c * x + d
def g2 (a b c x : Int) : Int := 3 * a * x * x + 2 * b * x + c
def g1 (a b x : Int) : Int := 3 * a * x + b
/-- The multiplicity out of these. -/
def mm3 (p u v t : Int) : Nat := if ¬ p ∣ t then 0 else if ¬ p ∣ v then 1 else if ¬ p ∣ u then 2 else 3
theorem lvs {a b c d x : Int} (ha : -1000 ≤ a ∧ a ≤ 1000) (hb : -1000 ≤ b ∧ b ≤ 1000) (hc : -1000 ≤ c ∧ c ≤ 1000) (hd : -1000 ≤ d ∧ d ≤ 1000) (hx : -96 ≤ x ∧ x ≤ 96) :
    nva [a, b, c, d] x 1 = g3 a b c d x ∧ nva (dvd [a, b, c, d] x 1) x 1 = g2 a b c x ∧ nva (dvd (dvd [a, b, c, d] x 1) x 1) x 1 = g1 a b x ∧ nva (dvd (dvd (dvd [a, b, c, d] x 1) x 1) x 1) x 1 = a := by
  have h1 := mulb hx ha
  have h2 := mulb hx (y := b + x * a) (B := 97000) (by omega)
  have h3 := mulb hx (y := c + x * (b + x * a)) (B := 10000000) (by omega)
  have e0 : dvd [a, b, c, d] x 1 = [a, b + x * a, c + x * (b + x * a)] := by
    rw [dv0, wr_in (by omega), wr_in (by omega), wr_in (by omega)]
  have e1 : dvd [a, b + x * a, c + x * (b + x * a)] x 1 = [a, b + x * a + x * a] := by
    rw [dv1, wr_in (by omega), wr_in (by omega)]
  have e2 : dvd [a, b + x * a + x * a] x 1 = [a] := by
    rw [dv2, wr_in (by omega)]
  have p1 : a * x * x * x + b * x * x + c * x + d = d + x * (c + x * (b + x * a)) := by grind
  have q2 := mulb hx (y := b + x * a + x * a) (B := 200000) (by omega)
  have p2 : a * x * x + (b + x * a) * x + (c + x * (b + x * a)) = (c + x * (b + x * a)) + x * (b + x * a + x * a) := by grind
  have p3 : a * x + (b + x * a + x * a) = x * a + (b + x * a + x * a) := by grind
  refine ⟨?_, ?_, ?_, ?_⟩
  · rw [nv0, wr_in (by rw [p1]; omega)]; rfl
  · rw [e0, nv1, wr_in (by rw [p2]; omega)]; unfold g2; grind
  · rw [e0, e1, nv2, wr_in (by rw [p3]; omega)]; unfold g1; grind
  · rw [e0, e1, e2, nv3, wr_in (by omega)]
theorem lvs0 {a b c d : Int} (ha : -1000 ≤ a ∧ a ≤ 1000) (hb : -1000 ≤ b ∧ b ≤ 1000) (hc : -1000 ≤ c ∧ c ≤ 1000) (hd : -1000 ≤ d ∧ d ≤ 1000) :
    nva [a, b, c, d] 1 0 = a ∧ nva (dvd [a, b, c, d] 1 0) 1 0 = -b ∧ nva (dvd (dvd [a, b, c, d] 1 0) 1 0) 1 0 = c ∧ nva (dvd (dvd (dvd [a, b, c, d] 1 0) 1 0) 1 0) 1 0 = -d := by
  have e0 : dvd [a, b, c, d] 1 0 = [-b, -c, -d] := by
    simp only [dvd, if_true, List.drop, List.map]
    rw [wr_in (by omega), wr_in (by omega), wr_in (by omega)]
  have e1 : dvd [-b, -c, -d] 1 0 = [c, d] := by
    simp only [dvd, if_true, List.drop, List.map, Int.neg_neg]
    rw [wr_in (by omega), wr_in (by omega)]
  have e2 : dvd [c, d] 1 0 = [-d] := by
    simp only [dvd, if_true, List.drop, List.map]
    rw [wr_in (by omega)]
  have n4 : ∀ u v s t : Int, nva [u, v, s, t] 1 0 = wrap64 u := fun u v s t => by
    simp only [nva, List.foldl, nst, pl, mu, Int.mul_one, Int.mul_zero, Int.zero_add, Int.add_zero, wr_wr, wr_0]
  have n3 : ∀ u v s : Int, nva [u, v, s] 1 0 = wrap64 u := fun u v s => by
    simp only [nva, List.foldl, nst, pl, mu, Int.mul_one, Int.mul_zero, Int.zero_add, Int.add_zero, wr_wr, wr_0]
  have n2 : ∀ u v : Int, nva [u, v] 1 0 = wrap64 u := fun u v => by
    simp only [nva, List.foldl, nst, pl, mu, Int.mul_one, Int.mul_zero, Int.zero_add, Int.add_zero, wr_wr, wr_0]
  have n1 : ∀ u : Int, nva [u] 1 0 = wrap64 u := fun u => by
    simp only [nva, List.foldl, nst, pl, mu, Int.mul_one, Int.mul_zero, Int.zero_add, wr_wr, wr_0]
  refine ⟨?_, ?_, ?_, ?_⟩
  · rw [n4, wr_in (by omega)]
  · rw [e0, n3, wr_in (by omega)]
  · rw [e0, e1, n2, wr_in (by omega)]
  · rw [e0, e1, e2, n1, wr_in (by omega)]
/-- Not all four numbers are multiples. -/
theorem cnt_dvd {p a b c d : Int} : p ∣ cnt a b c d ↔ p ∣ a ∧ p ∣ b ∧ p ∣ c ∧ p ∣ d := by
  simp only [cnt, Int.dvd_coe_gcd_iff]
  constructor
  · rintro ⟨⟨h1, h2⟩, h3, h4⟩; exact ⟨h1, h2, h3, h4⟩
  · rintro ⟨h1, h2, h3, h4⟩; exact ⟨⟨h1, h2⟩, h3, h4⟩
theorem g_null {p a b c d x : Int} (h3 : p ∣ g3 a b c d x) (h2 : p ∣ g2 a b c x) (h1 : p ∣ g1 a b x) (h0 : p ∣ a) : p ∣ a ∧ p ∣ b ∧ p ∣ c ∧ p ∣ d := by
  have hb : p ∣ b := by
    have e : b = g1 a b x - a * (3 * x) := by unfold g1; grind
    rw [e]; exact Int.dvd_sub h1 (Int.dvd_mul_of_dvd_left h0)
  have hc : p ∣ c := by
    have e : c = g2 a b c x - (a * (3 * x * x) + b * (2 * x)) := by unfold g2; grind
    rw [e]; exact Int.dvd_sub h2 (Int.dvd_add (Int.dvd_mul_of_dvd_left h0) (Int.dvd_mul_of_dvd_left hb))
  have hd : p ∣ d := by
    have e : d = g3 a b c d x - (a * (x * x * x) + b * (x * x) + c * x) := by unfold g3; grind
    rw [e]; exact Int.dvd_sub h3 (Int.dvd_add (Int.dvd_add (Int.dvd_mul_of_dvd_left h0) (Int.dvd_mul_of_dvd_left hb)) (Int.dvd_mul_of_dvd_left hc))
  exact ⟨h0, hb, hc, hd⟩
theorem mlt_of {m x y : Int} {L : List Int} {u v t z : Int} (h0 : nva L x y = t) (h1 : nva (dvd L x y) x y = v) (h2 : nva (dvd (dvd L x y) x y) x y = u) (h3 : nva (dvd (dvd (dvd L x y) x y) x y) x y = z) (hz : ¬ (m ∣ t ∧ m ∣ v ∧ m ∣ u ∧ m ∣ z)) :
    mlt m x y 4 L = mm3 m u v t ∧ stp m x y 4 L = true := by
  simp only [mlt, stp, h0, h1, h2, h3, mul0_d, mm3]
  by_cases a : m ∣ t
  · by_cases b : m ∣ v
    · by_cases c : m ∣ u
      · have d : ¬ m ∣ z := fun d => hz ⟨a, b, c, d⟩
        simp [a, b, c, d]
      · simp [a, b, c]
    · simp [a, b]
  · simp [a]
/-- The multiplicity at a point, as the model has it. -/
def mmu (p a b c d x y : Int) : Nat := if y = 0 then mm3 p c b a else mm3 p (g1 a b x) (g2 a b c x) (g3 a b c d x)
theorem mm3_neg {p u v t : Int} : mm3 p u (-v) t = mm3 p u v t := by simp [mm3, Int.dvd_neg]
theorem mlt_1 {p a b c d x : Int} (ha : -1000 ≤ a ∧ a ≤ 1000) (hb : -1000 ≤ b ∧ b ≤ 1000) (hc : -1000 ≤ c ∧ c ≤ 1000) (hd : -1000 ≤ d ∧ d ≤ 1000) (hx : -96 ≤ x ∧ x ≤ 96) (hn : mul0 (cnt a b c d) p = false) :
    mlt p x 1 4 [a, b, c, d] = mmu p a b c d x 1 ∧ stp p x 1 4 [a, b, c, d] = true := by
  obtain ⟨e0, e1, e2, e3⟩ := lvs ha hb hc hd hx
  have h := mlt_of (m := p) e0 e1 e2 e3 (fun ⟨q3, q2, q1, q0⟩ => by
    rw [mul0_d] at hn
    exact absurd (cnt_dvd.2 (g_null q3 q2 q1 q0)) (by simpa using hn))
  simpa [mmu] using h
theorem mlt_0 {p a b c d : Int} (ha : -1000 ≤ a ∧ a ≤ 1000) (hb : -1000 ≤ b ∧ b ≤ 1000) (hc : -1000 ≤ c ∧ c ≤ 1000) (hd : -1000 ≤ d ∧ d ≤ 1000) (hn : mul0 (cnt a b c d) p = false) :
    mlt p 1 0 4 [a, b, c, d] = mmu p a b c d 1 0 ∧ stp p 1 0 4 [a, b, c, d] = true := by
  obtain ⟨e0, e1, e2, e3⟩ := lvs0 ha hb hc hd
  have h := mlt_of (m := p) e0 e1 e2 e3 (fun ⟨q3, q2, q1, q0⟩ => by
    rw [mul0_d] at hn
    exact absurd (cnt_dvd.2 ⟨q3, Int.dvd_neg.1 q2, q1, Int.dvd_neg.1 q0⟩) (by simpa using hn))
  simpa [mmu, mm3_neg] using h


end Go.Proofs.YthheongdgcfngaaDoor

/- Chapter 5: rational roots: exact quotients. Mathematics; no Go function in sight. -/
namespace Go.Proofs.YthheongdgcfngaaDoor
open Go.RowKit

theorem cop_dvd {x y z : Int} (hg : Int.gcd x y = 1) (h : y ∣ x * z) : y ∣ z := by
  have hc : Nat.Coprime y.natAbs x.natAbs := by rw [Nat.coprime_comm]; exact hg
  have hn : y.natAbs ∣ x.natAbs * z.natAbs := by rw [← Int.natAbs_mul]; exact Int.natAbs_dvd_natAbs.2 h
  exact Int.natAbs_dvd_natAbs.1 (hc.dvd_of_dvd_mul_left hn)
theorem mul_can {y z : Int} (hy : 1 ≤ y) (h : y * z = 0) : z = 0 := by
  rcases Int.mul_eq_zero.1 h with h | h
  · omega
  · exact h
/-- A linear form, a quadratic, a cubic form that is 0 at x, y is y X - x Y times another one. -/
theorem ex1 {a b x y : Int} (hy : 1 ≤ y) (hg : Int.gcd x y = 1) (h : a * x + b * y = 0) : ∃ a' : Int, a = y * a' ∧ b = -(x * a') := by
  have h1 : y ∣ x * a := ⟨-b, by grind⟩
  obtain ⟨a', rfl⟩ := cop_dvd hg h1
  have h2 : y * (a' * x + b) = 0 := by grind
  have := mul_can hy h2
  exact ⟨a', rfl, by grind⟩
theorem ex2 {a b c x y : Int} (hy : 1 ≤ y) (hg : Int.gcd x y = 1) (h : a * x * x + b * x * y + c * y * y = 0) : ∃ a' b' : Int, a = y * a' ∧ b = y * b' - x * a' ∧ c = -(x * b') := by
  have h1 : y ∣ x * (x * a) := ⟨-(b * x + c * y), by grind⟩
  obtain ⟨a', rfl⟩ := cop_dvd hg (cop_dvd hg h1)
  have h2 : y * ((a' * x + b) * x + c * y) = 0 := by grind
  obtain ⟨b', e1, e2⟩ := ex1 hy hg (mul_can hy h2)
  exact ⟨a', b', rfl, by grind, e2⟩
theorem ex3 {a b c d x y : Int} (hy : 1 ≤ y) (hg : Int.gcd x y = 1) (h : vx a b c d x y = 0) : ∃ a' b' c' : Int, a = y * a' ∧ b = y * b' - x * a' ∧ c = y * c' - x * b' ∧ d = -(x * c') := by
  unfold vx at h
  have h1 : y ∣ x * (x * (x * a)) := ⟨-(b * x * x + c * x * y + d * y * y), by grind⟩
  obtain ⟨a', rfl⟩ := cop_dvd hg (cop_dvd hg (cop_dvd hg h1))
  have h2 : y * ((a' * x + b) * x * x + c * x * y + d * y * y) = 0 := by grind
  obtain ⟨b', c', e1, e2, e3⟩ := ex2 hy hg (mul_can hy h2)
  exact ⟨a', b', c', rfl, by grind, e2, e3⟩
theorem quo_bd {y z B : Int} (hy : 1 ≤ y) (h : -B ≤ y * z ∧ y * z ≤ B) : -B ≤ z ∧ z ≤ B := by
  have h1 : (y * z).natAbs = y.natAbs * z.natAbs := Int.natAbs_mul ..
  have h2 : z.natAbs ≤ y.natAbs * z.natAbs := Nat.le_mul_of_pos_left _ (by omega)
  omega
theorem qt1 {y z B n : Int} (hy : 1 ≤ y) (hB : B ≤ 9000000000000000000) (e : n = y * z) (h : -B ≤ n ∧ n ≤ B) : wrap64 ((wrap64 n).tdiv y) = z := by
  have hz := quo_bd hy (e ▸ h)
  have wn : wrap64 n = n := wr_in (by omega)
  rw [wn, e, Int.mul_tdiv_cancel_left _ (by omega), wr_in (by omega)]
/-- The quotients of the program, where they are exact. -/
theorem dq3 {a b c d x y a' b' c' : Int} (hy : 1 ≤ y) (hx : -1000 ≤ x ∧ x ≤ 1000) (ha : -1000 ≤ a ∧ a ≤ 1000) (hb : -1000 ≤ b ∧ b ≤ 1000) (hc : -1000 ≤ c ∧ c ≤ 1000) (e1 : a = y * a') (e2 : b = y * b' - x * a') (e3 : c = y * c' - x * b') :
    dvd [a, b, c, d] x y = [a', b', c'] ∧ (-1000 ≤ a' ∧ a' ≤ 1000) ∧ (-1001000 ≤ b' ∧ b' ≤ 1001000) ∧ (-1001001000 ≤ c' ∧ c' ≤ 1001001000) := by
  have qa := quo_bd hy (e1 ▸ ha)
  have m1 := mulb hx qa
  have qb := quo_bd (B := 1001000) hy (z := b') (by omega)
  have m2 := mulb hx qb
  have qc := quo_bd (B := 1001001000) hy (z := c') (by omega)
  refine ⟨?_, qa, qb, qc⟩
  have s1 : wrap64 ((pl a (mu x 0)).tdiv y) = a' := by
    simp only [pl, mu, wr_ar, Int.mul_zero, Int.add_zero]
    exact qt1 (B := 1000) hy (by omega) e1 ha
  have s2 : wrap64 ((pl b (mu x a')).tdiv y) = b' := by
    simp only [pl, mu, wr_ar]
    exact qt1 (B := 1001000) hy (by omega) (by omega) (by omega)
  have s3 : wrap64 ((pl c (mu x b')).tdiv y) = c' := by
    simp only [pl, mu, wr_ar]
    exact qt1 (B := 1001001000) hy (by omega) (by omega) (by omega)
  simp only [dvd, show ¬ y = 0 by omega, if_false, List.dropLast, List.foldl, dst, s1, s2, s3, List.nil_append, List.cons_append]
theorem dq2 {a b c x y a' b' : Int} (hy : 1 ≤ y) (hx : -1000 ≤ x ∧ x ≤ 1000) (ha : -1000 ≤ a ∧ a ≤ 1000) (hb : -1001000 ≤ b ∧ b ≤ 1001000) (e1 : a = y * a') (e2 : b = y * b' - x * a') :
    dvd [a, b, c] x y = [a', b'] ∧ (-1000 ≤ a' ∧ a' ≤ 1000) ∧ (-2001000 ≤ b' ∧ b' ≤ 2001000) := by
  have qa := quo_bd hy (e1 ▸ ha)
  have m1 := mulb hx qa
  have qb := quo_bd (B := 2001000) hy (z := b') (by omega)
  refine ⟨?_, qa, qb⟩
  have s1 : wrap64 ((pl a (mu x 0)).tdiv y) = a' := by
    simp only [pl, mu, wr_ar, Int.mul_zero, Int.add_zero]
    exact qt1 (B := 1000) hy (by omega) e1 ha
  have s2 : wrap64 ((pl b (mu x a')).tdiv y) = b' := by
    simp only [pl, mu, wr_ar]
    exact qt1 (B := 2001000) hy (by omega) (by omega) (by omega)
  simp only [dvd, show ¬ y = 0 by omega, if_false, List.dropLast, List.foldl, dst, s1, s2, List.nil_append, List.cons_append]
theorem dq1 {a b x y a' : Int} (hy : 1 ≤ y) (ha : -1000 ≤ a ∧ a ≤ 1000) (e1 : a = y * a') : dvd [a, b] x y = [a'] ∧ (-1000 ≤ a' ∧ a' ≤ 1000) := by
  have qa := quo_bd hy (e1 ▸ ha)
  refine ⟨?_, qa⟩
  have s1 : wrap64 ((pl a (mu x 0)).tdiv y) = a' := by
    simp only [pl, mu, wr_ar, Int.mul_zero, Int.add_zero]
    exact qt1 (B := 1000) hy (by omega) e1 ha
  simp only [dvd, show ¬ y = 0 by omega, if_false, List.dropLast, List.foldl, dst, s1, List.nil_append]
/-- The values of the program. -/
theorem nx3 (a b c d x y : Int) : nva [a, b, c, d] x y = wrap64 (vx a b c d x y) := by
  simp only [nva, List.foldl, nst, pl, mu, wr_al, wr_ar, wr_ml, wr_mr]
  congr 1; unfold vx; grind
theorem nx2 (a b c x y : Int) : nva [a, b, c] x y = wrap64 (a * x * x + b * x * y + c * y * y) := by
  simp only [nva, List.foldl, nst, pl, mu, wr_al, wr_ar, wr_ml, wr_mr]
  congr 1; grind
theorem nx1 (a b x y : Int) : nva [a, b] x y = wrap64 (a * x + b * y) := by
  simp only [nva, List.foldl, nst, pl, mu, wr_al, wr_ar, wr_ml, wr_mr]
  congr 1; grind
theorem nx0 (a x y : Int) : nva [a] x y = wrap64 a := by
  simp only [nva, List.foldl, nst, pl, mu, wr_al, wr_ar]
  congr 1; grind
theorem mul0_0 (n : Int) : mul0 n 0 = decide (n = 0) := by simp [mul0]
/-- The search at a rational place ends; a place is a root where the value is 0. -/
theorem stp_r {a b c d x y : Int} (ha : -1000 ≤ a ∧ a ≤ 1000) (hb : -1000 ≤ b ∧ b ≤ 1000) (hc : -1000 ≤ c ∧ c ≤ 1000) (hd : -1000 ≤ d ∧ d ≤ 1000) (hx : -1000 ≤ x ∧ x ≤ 1000) (hy : 1 ≤ y) (hy' : y ≤ 1000) (hg : Int.gcd x y = 1) (hN : mul0 (cnt a b c d) 0 = false) :
    stp 0 x y 4 [a, b, c, d] = true ∧ (mlt 0 x y 4 [a, b, c, d] = 0 ↔ vx a b c d x y ≠ 0) := by
  have hyy : -1000 ≤ y ∧ y ≤ 1000 := by omega
  have hv := vx_bd (A := 1000) (B := 1000) ha hb hc hd hx hyy
  have n3 : nva [a, b, c, d] x y = vx a b c d x y := by rw [nx3, wr_in (by omega)]
  have hn : ¬ (a = 0 ∧ b = 0 ∧ c = 0 ∧ d = 0) := fun h => by
    obtain ⟨rfl, rfl, rfl, rfl⟩ := h
    simp [mul0, cnt] at hN
  simp only [stp, mlt, n3, mul0_0]
  by_cases h3 : vx a b c d x y = 0
  · obtain ⟨a1, b1, c1, e1, e2, e3, e4⟩ := ex3 hy hg h3
    obtain ⟨q, qa, qb, qc⟩ := dq3 (d := d) hy hx ha hb hc e1 e2 e3
    have m1 := mulb (mulb qa hx) hx
    have m2 := mulb (mulb qb hx) hyy
    have m3 := mulb (mulb qc hyy) hyy
    have n2 : nva [a1, b1, c1] x y = a1 * x * x + b1 * x * y + c1 * y * y := by rw [nx2, wr_in (by omega)]
    simp only [h3, q, n2, decide_true, if_true]
    have hz : ∀ t : Nat, ((t + 1 = 0) ↔ (0 : Int) ≠ 0) := fun t => by simp
    refine ⟨?_, hz _⟩
    by_cases h2 : a1 * x * x + b1 * x * y + c1 * y * y = 0
    · obtain ⟨a2, b2, f1, f2, f3⟩ := ex2 hy hg h2
      obtain ⟨q', ra, rb⟩ := dq2 (c := c1) hy hx qa qb f1 f2
      have m4 := mulb ra hx
      have m5 := mulb rb hyy
      have n1 : nva [a2, b2] x y = a2 * x + b2 * y := by rw [nx1, wr_in (by omega)]
      simp only [h2, q', n1, decide_true, if_true]
      by_cases h1 : a2 * x + b2 * y = 0
      · obtain ⟨a3, g1, g2⟩ := ex1 hy hg h1
        obtain ⟨q'', sa⟩ := dq1 (b := b2) hy ra g1
        have n0 : nva [a3] x y = a3 := by rw [nx0, wr_in (by omega)]
        have h0 : a3 ≠ 0 := fun h0 => by
          have z1 : a2 = 0 := by rw [g1, h0]; simp
          have z2 : b2 = 0 := by rw [g2, h0]; simp
          have z3 : a1 = 0 := by rw [f1, z1]; simp
          have z4 : b1 = 0 := by rw [f2, z1, z2]; simp
          have z5 : c1 = 0 := by rw [f3, z2]; simp
          exact hn ⟨by rw [e1, z3]; simp, by rw [e2, z3, z4]; simp, by rw [e3, z4, z5]; simp, by rw [e4, z5]; simp⟩
        simp only [h1, decide_true, if_true]
        simp
        rw [q'', n0]
        exact h0
      · simp [h1]
    · simp [h2]
  · simp [h3]


end Go.Proofs.YthheongdgcfngaaDoor

/- Chapter 5: factors: rests of forms divided by their roots keep the other roots with their multiplicities. Mathematics; no Go function in sight. -/
namespace Go.Proofs.YthheongdgcfngaaDoor
open Go.RowKit

/-- A list times y X - x Y. -/
def mulA (x y : Int) (p : Int) : List Int → List Int
  | [] => [-(x * p)]
  | m :: M => (y * m - x * p) :: mulA x y m M
def mulL (x y : Int) (M : List Int) : List Int := mulA x y 0 M
theorem mulL0 (x y : Int) : mulL x y [] = [-(x * 0)] := rfl
theorem mulL1 (x y a : Int) : mulL x y [a] = [y * a - x * 0, -(x * a)] := rfl
theorem mulL2 (x y a b : Int) : mulL x y [a, b] = [y * a - x * 0, y * b - x * a, -(x * b)] := rfl
theorem mulL3 (x y a b c : Int) : mulL x y [a, b, c] = [y * a - x * 0, y * b - x * a, y * c - x * b, -(x * c)] := rfl
theorem mulL_len (x y : Int) (M : List Int) : (mulL x y M).length = M.length + 1 := by
  unfold mulL
  generalize (0 : Int) = p
  induction M generalizing p with
  | nil => rfl
  | cons m M ih => simp [mulA, ih]
/-- The value, as a whole number. -/
def ev (L : List Int) (x y : Int) : Int := (L.foldl (fun s n => (s.1 * x + n * s.2, s.2 * y)) ((0, 1) : Int × Int)).1
theorem ev4 (a b c d x y : Int) : ev [a, b, c, d] x y = vx a b c d x y := by simp only [ev, List.foldl]; unfold vx; grind
theorem ev3 (a b c x y : Int) : ev [a, b, c] x y = a * x * x + b * x * y + c * y * y := by simp only [ev, List.foldl]; grind
theorem ev2 (a b x y : Int) : ev [a, b] x y = a * x + b * y := by simp only [ev, List.foldl]; grind
theorem ev1 (a x y : Int) : ev [a] x y = a := by simp only [ev, List.foldl]; grind
/-- Lists that are met: of one to four numbers, not all 0, not too great. -/
def bdF : Nat → Int
  | 4 => 1000
  | 3 => 1002001000
  | 2 => 1003003001000
  | _ => 1003003001000
def GL (L : List Int) : Prop := 1 ≤ L.length ∧ L.length ≤ 4 ∧ (∀ n ∈ L, -bdF L.length ≤ n ∧ n ≤ bdF L.length) ∧ ∃ n ∈ L, n ≠ 0
/-- Points: 1, 0, or x, y with y of at least 1, without a common divisor. -/
def PT (x y : Int) : Prop := (x = 1 ∧ y = 0) ∨ (1 ≤ y ∧ y ≤ 1000 ∧ -1000 ≤ x ∧ x ≤ 1000 ∧ Int.gcd x y = 1)
theorem PT.bd {x y : Int} (h : PT x y) : (-1000 ≤ x ∧ x ≤ 1000) ∧ (-1000 ≤ y ∧ y ≤ 1000) := by
  rcases h with ⟨rfl, rfl⟩ | h
  · omega
  · omega
theorem len_1 {L : List Int} (h : L.length = 1) : ∃ a, L = [a] := by
  match L, h with
  | [a], _ => exact ⟨a, rfl⟩
theorem len_2 {L : List Int} (h : L.length = 2) : ∃ a b, L = [a, b] := by
  match L, h with
  | [a, b], _ => exact ⟨a, b, rfl⟩
theorem len_3 {L : List Int} (h : L.length = 3) : ∃ a b c, L = [a, b, c] := by
  match L, h with
  | [a, b, c], _ => exact ⟨a, b, c, rfl⟩
theorem len_4 {L : List Int} (h : L.length = 4) : ∃ a b c d, L = [a, b, c, d] := by
  match L, h with
  | [a, b, c, d], _ => exact ⟨a, b, c, d, rfl⟩
theorem GL.cases {L : List Int} (h : GL L) : (∃ a, L = [a]) ∨ (∃ a b, L = [a, b]) ∨ (∃ a b c, L = [a, b, c]) ∨ (∃ a b c d, L = [a, b, c, d]) := by
  obtain ⟨h1, h2, _⟩ := h
  rcases (show L.length = 1 ∨ L.length = 2 ∨ L.length = 3 ∨ L.length = 4 by omega) with e | e | e | e
  · exact .inl (len_1 e)
  · exact .inr (.inl (len_2 e))
  · exact .inr (.inr (.inl (len_3 e)))
  · exact .inr (.inr (.inr (len_4 e)))
theorem GL.b1 {a : Int} (h : GL [a]) : a ≠ 0 ∧ -1003003001000 ≤ a ∧ a ≤ 1003003001000 := by
  obtain ⟨_, _, h3, h4⟩ := h
  simp [bdF] at h3 h4
  exact ⟨h4, h3.1, h3.2⟩
theorem GL.b2 {a b : Int} (h : GL [a, b]) : ¬ (a = 0 ∧ b = 0) ∧ (-1003003001000 ≤ a ∧ a ≤ 1003003001000) ∧ (-1003003001000 ≤ b ∧ b ≤ 1003003001000) := by
  obtain ⟨_, _, h3, h4⟩ := h
  simp [bdF] at h3 h4
  exact ⟨by omega, h3.1, h3.2⟩
theorem GL.b3 {a b c : Int} (h : GL [a, b, c]) : ¬ (a = 0 ∧ b = 0 ∧ c = 0) ∧ (-1002001000 ≤ a ∧ a ≤ 1002001000) ∧ (-1002001000 ≤ b ∧ b ≤ 1002001000) ∧ (-1002001000 ≤ c ∧ c ≤ 1002001000) := by
  obtain ⟨_, _, h3, h4⟩ := h
  simp [bdF] at h3 h4
  exact ⟨by omega, h3.1, h3.2.1, h3.2.2⟩
theorem GL.b4 {a b c d : Int} (h : GL [a, b, c, d]) : ¬ (a = 0 ∧ b = 0 ∧ c = 0 ∧ d = 0) ∧ (-1000 ≤ a ∧ a ≤ 1000) ∧ (-1000 ≤ b ∧ b ≤ 1000) ∧ (-1000 ≤ c ∧ c ≤ 1000) ∧ (-1000 ≤ d ∧ d ≤ 1000) := by
  obtain ⟨_, _, h3, h4⟩ := h
  simp [bdF] at h3 h4
  exact ⟨by omega, h3.1, h3.2.1, h3.2.2.1, h3.2.2.2⟩
theorem GL.m1 {a : Int} (h : a ≠ 0) (h1 : -1003003001000 ≤ a ∧ a ≤ 1003003001000) : GL [a] := ⟨by simp, by simp, by simp [bdF]; omega, by simpa using h⟩
theorem GL.m2 {a b : Int} (h : ¬ (a = 0 ∧ b = 0)) (h1 : -1003003001000 ≤ a ∧ a ≤ 1003003001000) (h2 : -1003003001000 ≤ b ∧ b ≤ 1003003001000) : GL [a, b] := ⟨by simp, by simp, by simp [bdF]; omega, by simp; omega⟩
theorem GL.m3 {a b c : Int} (h : ¬ (a = 0 ∧ b = 0 ∧ c = 0)) (h1 : -1002001000 ≤ a ∧ a ≤ 1002001000) (h2 : -1002001000 ≤ b ∧ b ≤ 1002001000) (h3 : -1002001000 ≤ c ∧ c ≤ 1002001000) : GL [a, b, c] := ⟨by simp, by simp, by simp [bdF]; omega, by simp; omega⟩
theorem GL.m4 {a b c d : Int} (h : ¬ (a = 0 ∧ b = 0 ∧ c = 0 ∧ d = 0)) (h1 : -1000 ≤ a ∧ a ≤ 1000) (h2 : -1000 ≤ b ∧ b ≤ 1000) (h3 : -1000 ≤ c ∧ c ≤ 1000) (h4 : -1000 ≤ d ∧ d ≤ 1000) : GL [a, b, c, d] := ⟨by simp, by simp, by simp [bdF]; omega, by simp; omega⟩
/-- The program's value is exact. -/
theorem nva_ev {L : List Int} {x y : Int} (h : GL L) (hp : PT x y) : nva L x y = ev L x y := by
  obtain ⟨hx, hy⟩ := hp.bd
  rcases h.cases with ⟨a, rfl⟩ | ⟨a, b, rfl⟩ | ⟨a, b, c, rfl⟩ | ⟨a, b, c, d, rfl⟩
  · obtain ⟨_, h1⟩ := h.b1
    rw [nx0, ev1, wr_in (by omega)]
  · obtain ⟨_, ha, hb⟩ := h.b2
    have m1 := mulb ha hx; have m2 := mulb hb hy
    rw [nx1, ev2, wr_in (by omega)]
  · obtain ⟨_, ha, hb, hc⟩ := h.b3
    have m1 := mulb (mulb ha hx) hx; have m2 := mulb (mulb hb hx) hy; have m3 := mulb (mulb hc hy) hy
    rw [nx2, ev3, wr_in (by omega)]
  · obtain ⟨_, ha, hb, hc, hd⟩ := h.b4
    have := vx_bd (A := 1000) (B := 1000) ha hb hc hd hx hy
    rw [nx3, ev4, wr_in (by omega)]
/-- A quotient of at most three numbers. -/
theorem qq {y z n B : Int} (hy : 1 ≤ y) (e : n = y * z) (h : -B ≤ n ∧ n ≤ B) : -B ≤ z ∧ z ≤ B := quo_bd hy (e ▸ h)
theorem stq {n x p y z B : Int} (hy : 1 ≤ y) (hB : B ≤ 9000000000000000000) (e : n = y * z - x * p) (h : -B ≤ y * z ∧ y * z ≤ B) : wrap64 ((pl n (mu x p)).tdiv y) = z := by
  simp only [pl, mu, wr_ar]
  exact qt1 (B := B) hy hB (by omega) (by omega)
/-- Division by y X - x Y: the quotient that the program takes is the exact one. -/
theorem dvd_mul {L M : List Int} {x y : Int} (h : GL L) (hp : PT x y) (e : L = mulL x y M) : dvd L x y = M ∧ GL M := by
  have hl := mulL_len x y M
  rw [← e] at hl
  have h4 := h.2.1
  have h0 : M ≠ [] := fun e0 => by
    subst e0; subst e
    have := h.b1; simp at this
  have hm : M.length = 1 ∨ M.length = 2 ∨ M.length = 3 := by
    have := List.length_pos_iff.2 h0; omega
  rcases hp with ⟨rfl, rfl⟩ | ⟨hy, hy', hx0, hx1, hg⟩
  · rcases hm with e1 | e1 | e1
    · obtain ⟨a, rfl⟩ := len_1 e1
      subst e
      obtain ⟨n0, ha, hb⟩ := h.b2
      refine ⟨?_, GL.m1 (by omega) (by omega)⟩
      simp [mulL1, dvd]; exact wr_in (by omega)
    · obtain ⟨a, b, rfl⟩ := len_2 e1
      subst e
      obtain ⟨n0, ha, hb, hc⟩ := h.b3
      refine ⟨?_, GL.m2 (by omega) (by omega) (by omega)⟩
      simp [mulL2, dvd]; exact ⟨wr_in (by omega), wr_in (by omega)⟩
    · obtain ⟨a, b, c, rfl⟩ := len_3 e1
      subst e
      obtain ⟨n0, ha, hb, hc, hd⟩ := h.b4
      refine ⟨?_, GL.m3 (by omega) (by omega) (by omega) (by omega)⟩
      simp [mulL3, dvd]; exact ⟨wr_in (by omega), wr_in (by omega), wr_in (by omega)⟩
  · have hx : -1000 ≤ x ∧ x ≤ 1000 := ⟨hx0, hx1⟩
    have ny : ¬ y = 0 := by omega
    have yz : ∀ {z : Int}, z = 0 → y * z = 0 := fun h => by rw [h]; simp
    have xz : ∀ {z : Int}, z = 0 → x * z = 0 := fun h => by rw [h]; simp
    rcases hm with e1 | e1 | e1
    · obtain ⟨a, rfl⟩ := len_1 e1
      subst e
      obtain ⟨n0, ha, hb⟩ := h.b2
      have qa := qq (B := 1003003001000) hy rfl (show -1003003001000 ≤ y * a ∧ y * a ≤ 1003003001000 by omega)
      refine ⟨?_, GL.m1 (fun h => n0 ⟨by rw [h]; simp, by rw [h]; simp⟩) qa⟩
      simp only [mulL1, dvd, ny, if_false, List.dropLast, List.foldl, dst, List.nil_append]
      rw [stq (B := 1003003001000) hy (by omega) rfl (by omega)]
    · obtain ⟨a, b, rfl⟩ := len_2 e1
      subst e
      obtain ⟨n0, ha, hb, hc⟩ := h.b3
      have qa := qq (B := 1002001000) hy rfl (show -1002001000 ≤ y * a ∧ y * a ≤ 1002001000 by omega)
      have m1 := mulb hx qa
      have qb := qq (B := 1003003001000) hy rfl (show -1003003001000 ≤ y * b ∧ y * b ≤ 1003003001000 by omega)
      refine ⟨?_, GL.m2 (fun h => n0 ⟨by rw [h.1]; simp, by rw [h.1, h.2]; simp, by rw [h.2]; simp⟩) (by omega) qb⟩
      simp only [mulL2, dvd, ny, if_false, List.dropLast, List.foldl, dst, List.nil_append, List.cons_append]
      rw [stq (z := a) (B := 1002001000) hy (by omega) rfl (by omega), stq (z := b) (B := 1003003001000) hy (by omega) rfl (by omega)]
    · obtain ⟨a, b, c, rfl⟩ := len_3 e1
      subst e
      obtain ⟨n0, ha, hb, hc, hd⟩ := h.b4
      have qa := qq (B := 1000) hy rfl (show -1000 ≤ y * a ∧ y * a ≤ 1000 by omega)
      have m1 := mulb hx qa
      have qb := qq (B := 1001000) hy rfl (show -1001000 ≤ y * b ∧ y * b ≤ 1001000 by omega)
      have m2 := mulb hx qb
      have qc := qq (B := 1001001000) hy rfl (show -1001001000 ≤ y * c ∧ y * c ≤ 1001001000 by omega)
      refine ⟨?_, GL.m3 (fun h => n0 ⟨by rw [h.1]; simp, by rw [h.1, h.2.1]; simp, by rw [h.2.1, h.2.2]; simp, by rw [h.2.2]; simp⟩) (by omega) (by omega) (by omega)⟩
      simp only [mulL3, dvd, ny, if_false, List.dropLast, List.foldl, dst, List.nil_append, List.cons_append]
      rw [stq (z := a) (B := 1000) hy (by omega) rfl (by omega), stq (z := b) (B := 1001000) hy (by omega) rfl (by omega), stq (z := c) (B := 1001001000) hy (by omega) rfl (by omega)]
/-- Where the value is 0 the form is a multiple. -/
theorem ev_mul {L : List Int} {x y : Int} (h : GL L) (hp : PT x y) (h0 : ev L x y = 0) : ∃ M, L = mulL x y M := by
  rcases h.cases with ⟨a, rfl⟩ | ⟨a, b, rfl⟩ | ⟨a, b, c, rfl⟩ | ⟨a, b, c, d, rfl⟩
  · rw [ev1] at h0; exact absurd h0 h.b1.1
  · rw [ev2] at h0
    rcases hp with ⟨rfl, rfl⟩ | ⟨hy, _, _, _, hg⟩
    · exact ⟨[-b], by rw [mulL1]; simp at h0 ⊢; exact h0⟩
    · obtain ⟨a', e1, e2⟩ := ex1 hy hg h0
      exact ⟨[a'], by rw [mulL1, e1, e2]; simp⟩
  · rw [ev3] at h0
    rcases hp with ⟨rfl, rfl⟩ | ⟨hy, _, _, _, hg⟩
    · exact ⟨[-b, -c], by rw [mulL2]; simp at h0 ⊢; exact h0⟩
    · obtain ⟨a', b', e1, e2, e3⟩ := ex2 hy hg h0
      exact ⟨[a', b'], by rw [mulL2, e1, e2, e3]; simp⟩
  · rw [ev4] at h0
    rcases hp with ⟨rfl, rfl⟩ | ⟨hy, _, _, _, hg⟩
    · exact ⟨[-b, -c, -d], by rw [mulL3]; simp [vx] at h0 ⊢; exact h0⟩
    · obtain ⟨a', b', c', e1, e2, e3, e4⟩ := ex3 hy hg h0
      exact ⟨[a', b', c'], by rw [mulL3, e1, e2, e3, e4]; simp⟩
theorem ev_app {M : List Int} {x y s t : Int} (h : M.length ≤ 3) : ev (mulL x y M) s t = (y * s - x * t) * ev M s t := by
  rcases (show M.length = 0 ∨ M.length = 1 ∨ M.length = 2 ∨ M.length = 3 by omega) with e | e | e | e
  · rw [List.length_eq_zero_iff.1 e, mulL0, ev1]; simp [ev]
  · obtain ⟨a, rfl⟩ := len_1 e
    rw [mulL1, ev2, ev1]; grind
  · obtain ⟨a, b, rfl⟩ := len_2 e
    rw [mulL2, ev3, ev2]; grind
  · obtain ⟨a, b, c, rfl⟩ := len_3 e
    rw [mulL3, ev4, ev3]; unfold vx; grind
theorem mulL_com {N : List Int} {x y s t : Int} (h : N.length ≤ 2) : mulL x y (mulL s t N) = mulL s t (mulL x y N) := by
  rcases (show N.length = 0 ∨ N.length = 1 ∨ N.length = 2 by omega) with e | e | e
  · rw [List.length_eq_zero_iff.1 e]; simp only [mulL0, mulL1]; simp
  · obtain ⟨a, rfl⟩ := len_1 e
    simp only [mulL1, mulL2, List.cons.injEq, and_true]; grind
  · obtain ⟨a, b, rfl⟩ := len_2 e
    simp only [mulL2, mulL3, List.cons.injEq, and_true]; grind
theorem mlt_e {x y : Int} {n : Nat} {L : List Int} (h : GL L) (hp : PT x y) : mlt 0 x y (n + 1) L = if ev L x y = 0 then mlt 0 x y n (dvd L x y) + 1 else 0 := by
  simp only [mlt, nva_ev h hp, mul0_0, decide_eq_true_eq]
/-- A factor of another root does not count. -/
theorem mlt_app {x y s t : Int} (hp : PT x y) (hq : PT s t) (hne : t * x - s * y ≠ 0) : ∀ (n : Nat) {L M : List Int}, GL L → L = mulL s t M → mlt 0 x y n L = mlt 0 x y n M := by
  intro n
  induction n with
  | zero => intro _ _ _ _; rfl
  | succ n ih =>
    intro L M hL e
    obtain ⟨_, hM⟩ := dvd_mul hL hq e
    have hl : M.length ≤ 3 := by have := mulL_len s t M; rw [← e] at this; have := hL.2.1; omega
    have he : ev L x y = 0 ↔ ev M x y = 0 := by
      rw [e, ev_app hl, Int.mul_eq_zero]
      exact ⟨fun h => h.resolve_left hne, .inr⟩
    rw [mlt_e hL hp, mlt_e hM hp]
    by_cases h0 : ev M x y = 0
    · obtain ⟨N, eN⟩ := ev_mul hM hp h0
      obtain ⟨d1, hN⟩ := dvd_mul hM hp eN
      have hNl : N.length ≤ 2 := by have := mulL_len x y N; rw [← eN] at this; omega
      have e2 : L = mulL x y (mulL s t N) := by rw [e, eN]; exact (mulL_com hNl).symm
      obtain ⟨d2, hK⟩ := dvd_mul hL hp e2
      rw [if_pos (he.2 h0), if_pos h0, d1, d2, ih hK rfl]
    · rw [if_neg h0, if_neg fun h => h0 (he.1 h)]


end Go.Proofs.YthheongdgcfngaaDoor
