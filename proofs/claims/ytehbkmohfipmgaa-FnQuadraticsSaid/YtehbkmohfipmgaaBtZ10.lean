/- Several texts in one: XZu, XZv. -/
import Derived.Test.YtehbkmohfipmgaaBtZ9

/- Chapter 10: forms that represent numbers without a common divisor with n; compositions exist. Mathematics alone. -/
namespace Go.Proofs.Ytehbkmohfipmgaa
open Go.RowKit

def val (t : Qd) (x y : Int) : Int := t.1 * x * x + t.2.1 * x * y + t.2.2 * y * y
/-- x and y have the same rest by m. -/
def Dv (m x y : Int) : Prop := m ∣ x - y
theorem Dv.refl (m x : Int) : Dv m x x := ⟨0, by omega⟩
theorem Dv.add {m x y x' y' : Int} (h : Dv m x y) (h' : Dv m x' y') : Dv m (x + x') (y + y') := by
  obtain ⟨s, h⟩ := h; obtain ⟨u, h'⟩ := h'
  exact ⟨s + u, by rw [Int.mul_add, ← h, ← h']; omega⟩
theorem Dv.mul {m x y x' y' : Int} (h : Dv m x y) (h' : Dv m x' y') : Dv m (x * x') (y * y') := by
  obtain ⟨s, h⟩ := h; obtain ⟨u, h'⟩ := h'
  refine ⟨x * u + y' * s, ?_⟩
  have e1 : x = y + m * s := by omega
  have e2 : x' = y' + m * u := by omega
  rw [e1, e2]; grind
theorem Dv.val {m x y x' y' : Int} (t : Qd) (h : Dv m x y) (h' : Dv m x' y') : Dv m (val t x x') (val t y y') :=
  ((((Dv.refl m t.1).mul h).mul h).add (((Dv.refl m t.2.1).mul h).mul h')).add (((Dv.refl m t.2.2).mul h').mul h')
theorem gcd_one {x m : Int} : Int.gcd x m = 1 ↔ ∃ u v : Int, u * x + v * m = 1 := by
  constructor
  · intro h
    obtain ⟨u, v, e⟩ := bezZ x m
    exact ⟨u, v, by rw [e, h]; rfl⟩
  · rintro ⟨u, v, e⟩
    have h1 : (Int.gcd x m : Int) ∣ 1 := by
      rw [← e]
      exact Int.dvd_add (Int.dvd_trans (Int.gcd_dvd_left ..) (Int.dvd_mul_left _ _)) (Int.dvd_trans (Int.gcd_dvd_right ..) (Int.dvd_mul_left _ _))
    have := Int.natAbs_dvd_natAbs.2 h1
    exact Nat.dvd_one.1 (by simpa using this)
theorem Dv.gcd {m x y : Int} (h : Dv m x y) (hy : Int.gcd y m = 1) : Int.gcd x m = 1 := by
  obtain ⟨u, v, e⟩ := gcd_one.1 hy
  obtain ⟨s, h⟩ := h
  refine gcd_one.2 ⟨u, v - u * s, ?_⟩
  have e1 : x = y + m * s := by omega
  rw [e1, ← e]; grind
theorem gcd_mul {x m n : Int} (h : Int.gcd x m = 1) (h' : Int.gcd x n = 1) : Int.gcd x (m * n) = 1 := by
  obtain ⟨u, v, e⟩ := gcd_one.1 h
  obtain ⟨u', v', e'⟩ := gcd_one.1 h'
  refine gcd_one.2 ⟨u * u' * x + u * v' * n + v * m * u', v * v', ?_⟩
  have : (u * x + v * m) * (u' * x + v' * n) = 1 := by rw [e, e']; rfl
  rw [← this]; grind
theorem gcd_div {x m n : Int} (h : Int.gcd x (m * n) = 1) : Int.gcd x m = 1 := by
  obtain ⟨u, v, e⟩ := gcd_one.1 h
  exact gcd_one.2 ⟨u, v * n, by rw [← e]; grind⟩
theorem gcd_fac {x y m : Int} (h : Int.gcd (x * y) m = 1) : Int.gcd x m = 1 := by
  obtain ⟨u, v, e⟩ := gcd_one.1 h
  exact gcd_one.2 ⟨u * y, v, by rw [← e]; grind⟩
/-- The least divisor from 2 on. -/
theorem least_div (n : Nat) (hn : 2 ≤ n) : ∃ p, 2 ≤ p ∧ p ∣ n ∧ ∀ d, 2 ≤ d → d ∣ n → p ≤ d := by
  have h : ∀ k, (∃ p, 2 ≤ p ∧ p ∣ n ∧ p ≤ k) → ∃ p, 2 ≤ p ∧ p ∣ n ∧ ∀ d, 2 ≤ d → d ∣ n → p ≤ d := by
    intro k
    induction k with
    | zero => rintro ⟨p, h1, _, h3⟩; omega
    | succ k ih =>
      rintro ⟨p, h1, h2, h3⟩
      by_cases hk : ∃ q, 2 ≤ q ∧ q ∣ n ∧ q ≤ k
      · exact ih hk
      · refine ⟨p, h1, h2, fun d hd hd' => ?_⟩
        rcases Nat.lt_or_ge d p with h4 | h4
        · exact absurd ⟨d, hd, hd', by omega⟩ hk
        · exact h4
  exact h n ⟨n, hn, Nat.dvd_refl n, Nat.le_refl n⟩
/-- A number either has no common divisor with the least divisor, or is its multiple. -/
theorem least_or {n p : Nat} (hp : p ∣ n) (h2 : 2 ≤ p) (hl : ∀ d, 2 ≤ d → d ∣ n → p ≤ d) (x : Int) : Int.gcd x p = 1 ∨ (p : Int) ∣ x := by
  have hd : Int.gcd x p ∣ p := by
    have : (Int.gcd x p : Int) ∣ (p : Int) := Int.gcd_dvd_right ..
    exact Int.ofNat_dvd.1 this
  have hpos : 0 < Int.gcd x p := Nat.pos_of_dvd_of_pos hd (by omega)
  rcases Nat.lt_or_ge (Int.gcd x p) 2 with h | h
  · left; omega
  · right
    have h1 := hl _ h (Nat.dvd_trans hd hp)
    have h3 := Nat.le_of_dvd (by omega) hd
    have e : Int.gcd x p = p := by omega
    have : (Int.gcd x p : Int) ∣ x := Int.gcd_dvd_left ..
    rwa [e] at this
theorem prim_val {t : Qd} (ht : Pri t) : ∀ n : Nat, 1 ≤ n → ∃ j k : Int, Int.gcd (val t (1 + j * k) k) n = 1 := by
  intro n
  induction n using Nat.strongRecOn with
  | _ n ih =>
    intro hn
    rcases Nat.lt_or_ge n 2 with h | h
    · rw [show n = 1 by omega]
      exact ⟨0, 0, by simp⟩
    · obtain ⟨p, hp2, hpn, hl⟩ := least_div n h
      obtain ⟨m, rfl⟩ := hpn
      have hm0 : 0 < m := Nat.pos_of_ne_zero (fun e => by subst e; omega)
      have hm : m < p * m := by
        have : 2 * m ≤ p * m := Nat.mul_le_mul_right m hp2
        omega
      obtain ⟨j1, k1, hg⟩ := ih m hm hm0
      have hor := fun x => least_or (Nat.dvd_mul_right p m) hp2 hl x
      by_cases hpm : (p : Int) ∣ (m : Int)
      · obtain ⟨s, hs⟩ := hpm
        refine ⟨j1, k1, ?_⟩
        have h1 : Int.gcd (val t (1 + j1 * k1) k1) p = 1 := by
          rw [hs] at hg
          exact gcd_div hg
        have := gcd_mul h1 hg
        push_cast; exact this
      · have hcop : Int.gcd m p = 1 := (hor m).resolve_right hpm
        obtain ⟨u, v, huv⟩ := gcd_one.1 hcop
        -- good for p
        have hgp : ∃ j2 k2 : Int, Int.gcd (val t (1 + j2 * k2) k2) p = 1 := by
          rcases hor t.1 with ha | ha
          · exact ⟨0, 0, by simpa [val] using ha⟩
          · rcases hor t.2.2 with hc | hc
            · exact ⟨-1, 1, by simpa [val] using hc⟩
            · refine ⟨0, 1, ?_⟩
              rcases hor (val t (1 + 0 * 1) 1) with h1 | h1
              · exact h1
              · exfalso
                have hb : (p : Int) ∣ t.2.1 := by
                  have e : t.2.1 = val t (1 + 0 * 1) 1 - (t.1 + t.2.2) := by simp [val]; omega
                  rw [e]
                  exact Int.dvd_sub h1 (Int.dvd_add ha hc)
                obtain ⟨x, y, z, hb1⟩ := ht.bez
                have h3 : (p : Int) ∣ 1 := by
                  rw [← hb1]
                  exact Int.dvd_add (Int.dvd_add (Int.dvd_trans ha (Int.dvd_mul_left _ _)) (Int.dvd_trans hb (Int.dvd_mul_left _ _))) (Int.dvd_trans hc (Int.dvd_mul_left _ _))
                have h4 := Int.natAbs_dvd_natAbs.2 h3
                have := Nat.dvd_one.1 (by simpa using h4)
                omega
        obtain ⟨j2, k2, hg2⟩ := hgp
        refine ⟨j1 * (v * p) + j2 * (u * m), k1 * (v * p) + k2 * (u * m), ?_⟩
        have dm : ∀ x1 x2 : Int, Dv m (x1 * (v * p) + x2 * (u * m)) x1 := fun x1 x2 => ⟨x2 * u - x1 * u, by
          have : v * p = 1 - u * m := by omega
          rw [this]; grind⟩
        have dp : ∀ x1 x2 : Int, Dv p (x1 * (v * p) + x2 * (u * m)) x2 := fun x1 x2 => ⟨x1 * v - x2 * v, by
          have : u * m = 1 - v * p := by omega
          rw [this]; grind⟩
        have g1 := (Dv.val t ((Dv.refl (m : Int) 1).add ((dm j1 j2).mul (dm k1 k2))) (dm k1 k2)).gcd hg
        have g2 := (Dv.val t ((Dv.refl (p : Int) 1).add ((dp j1 j2).mul (dp k1 k2))) (dp k1 k2)).gcd hg2
        have := gcd_mul g2 g1
        push_cast; exact this
/-- .. with j and k from 0 to n - 1. -/
theorem prim_small {t : Qd} (ht : Pri t) (n : Nat) (hn : 1 ≤ n) : ∃ j k : Nat, j < n ∧ k < n ∧ Int.gcd (val t (1 + (j : Int) * k) k) n = 1 := by
  obtain ⟨j, k, h⟩ := prim_val ht n hn
  have hj0 := Int.emod_nonneg j (b := n) (by omega)
  have hj1 := Int.emod_lt_of_pos j (b := n) (by omega)
  have hk0 := Int.emod_nonneg k (b := n) (by omega)
  have hk1 := Int.emod_lt_of_pos k (b := n) (by omega)
  have d : ∀ x : Int, Dv n (x % n) x := fun x => ⟨-(x / n), by have := Int.mul_ediv_add_emod x n; rw [Int.mul_neg]; omega⟩
  have g := (Dv.val t ((Dv.refl (n : Int) 1).add ((d j).mul (d k))) (d k)).gcd h
  refine ⟨(j % n).toNat, (k % n).toNat, by omega, by omega, ?_⟩
  rw [Int.toNat_of_nonneg hj0, Int.toNat_of_nonneg hk0]
  exact g

end Go.Proofs.Ytehbkmohfipmgaa

/- Chapter 10: the composition of classes. Mathematics alone. -/
namespace Go.Proofs.Ytehbkmohfipmgaa
open Go.RowKit

theorem Pri.eqv {t u : Qd} (h : Pri t) (he : Eqv t u) : Pri u := by
  obtain ⟨x, y, z, hb⟩ := h.bez
  obtain ⟨a, b, c, d, hd, e⟩ := he.symm
  refine Pri.of (x := x * a * a + y * 2 * a * b + z * b * b) (y := x * a * c + y * (a * d + b * c) + z * b * d) (z := x * c * c + y * 2 * c * d + z * d * d) ?_
  rw [← hb, e]
  simp only [chg]
  grind
theorem Cmp.pri {q r f : Qd} (h : Cmp q r f) (hq : Pri q) (hr : Pri r) : ∀ {x : Int} (a1 a2 b c : Int), q = (a1, b, a2 * c) → r = (a2, b, a1 * c) → f = (a1 * a2, b, c) → x = x → Pri f := by
  intro x a1 a2 b c e1 e2 e3 _
  subst e1 e2 e3
  obtain ⟨x, y, z, h1⟩ := hq.bez
  obtain ⟨u, v, w, h2⟩ := hr.bez
  have h1 : x * a1 + y * b + z * (a2 * c) = 1 := h1
  have h2 : u * a2 + v * b + w * (a1 * c) = 1 := h2
  refine Pri.of (t := (a1 * a2, b, c)) (x := x * u) (y := x * a1 * v + y * (u * a2 + v * b + w * (a1 * c)) + z * (a2 * c) * v) (z := x * a1 * w * a1 + z * a2 * (u * a2 + w * (a1 * c))) ?_
  have : (x * a1 + y * b + z * (a2 * c)) * (u * a2 + v * b + w * (a1 * c)) = 1 := by rw [h1, h2]; rfl
  rw [← this]
  show x * u * (a1 * a2) + _ * b + _ * c = _
  grind
theorem dirichlet (a1 a2 b c : Int) : Cmp (a1, b, a2 * c) (a2, b, a1 * c) (a1 * a2, b, c) :=
  ⟨1, 0, 0, -c, 0, a1, a2, b, ⟨by simp, by simp, by simp; grind⟩, ⟨by simp, by simp, by simp; grind⟩, ⟨by simp, by simp, by simp⟩⟩
/-- A form whose middle number is moved by 2 k times the first one. -/
theorem eqv_move {p q r b D : Int} (k : Int) (hb : b = q + 2 * p * k) (hd : q * q - 4 * p * r = D) : ∃ c, Eqv (p, q, r) (p, b, c) ∧ b * b - 4 * p * c = D := by
  refine ⟨p * k * k + q * k + r, ⟨1, k, 0, 1, by omega, ?_⟩, ?_⟩
  · simp only [chg, Prod.mk.injEq]
    refine ⟨by grind, by grind, by grind⟩
  · rw [hb]; grind
/-- United forms and their composition. -/
theorem unite {q r : Qd} {b D : Int} (h1 : 1 ≤ q.1) (h2 : 1 ≤ r.1) (hq : dsq q = D) (hr : dsq r = D) (hg : Int.gcd r.1 q.1 = 1) (k l : Int) (hb : b = q.2.1 + 2 * q.1 * k) (hb' : b = r.2.1 + 2 * r.1 * l) :
    ∃ c, Cmp q r (q.1 * r.1, b, c) ∧ b * b - 4 * (q.1 * r.1) * c = D ∧ (Pri q → Pri r → Pri (q.1 * r.1, b, c)) := by
  obtain ⟨a1, q1, q2⟩ := q
  obtain ⟨a2, r1, r2⟩ := r
  have hq : q1 * q1 - 4 * a1 * q2 = D := hq
  have hr : r1 * r1 - 4 * a2 * r2 = D := hr
  have h1 : 1 ≤ a1 := h1
  have h2 : 1 ≤ a2 := h2
  have hb : b = q1 + 2 * a1 * k := hb
  have hb' : b = r1 + 2 * a2 * l := hb'
  obtain ⟨c1, e1, d1⟩ := eqv_move k hb hq
  obtain ⟨c2, e2, d2⟩ := eqv_move l hb' hr
  obtain ⟨u, v, huv⟩ := gcd_one.1 hg
  have huv : u * a2 + v * a1 = 1 := huv
  have hac : a1 * c1 = a2 * c2 := by
    have x1 : 4 * a1 * c1 = 4 * (a1 * c1) := Int.mul_assoc _ _ _
    have x2 : 4 * a2 * c2 = 4 * (a2 * c2) := Int.mul_assoc _ _ _
    omega
  have f1 : c1 = a2 * (u * c1 + v * c2) := by
    have e : (u * a2 + v * a1) * c1 = c1 := by rw [huv, Int.one_mul]
    have e' : (u * a2 + v * a1) * c1 = a2 * (u * c1) + v * (a1 * c1) := by grind
    rw [hac] at e'
    have e'' : a2 * (u * c1 + v * c2) = a2 * (u * c1) + v * (a2 * c2) := by grind
    omega
  have f2 : c2 = a1 * (u * c1 + v * c2) := by
    have e : (u * a2 + v * a1) * c2 = c2 := by rw [huv, Int.one_mul]
    have e' : (u * a2 + v * a1) * c2 = u * (a2 * c2) + a1 * (v * c2) := by grind
    rw [← hac] at e'
    have e'' : a1 * (u * c1 + v * c2) = u * (a1 * c1) + a1 * (v * c2) := by grind
    omega
  generalize u * c1 + v * c2 = c at f1 f2
  subst f1 f2
  refine ⟨c, ((dirichlet a1 a2 b c).left e1.symm).right e2.symm, ?_, ?_⟩
  · have : 4 * a1 * (a2 * c) = 4 * (a1 * a2) * c := by grind
    show b * b - 4 * (a1 * a2) * c = D
    omega
  · intro hp hr'
    exact (dirichlet a1 a2 b c).pri (hp.eqv e1) (hr'.eqv e2) (x := 0) a1 a2 b c rfl rfl rfl rfl
/-- The elements: reduced primitive forms of the discriminant D. -/
structure El (D : Int) (t : Qd) : Prop where
  rd : Rdd t
  pr : Pri t
  ds : dsq t = D
  ng : D < 0
theorem El.pos {D : Int} {t : Qd} (h : El D t) : Pos D t := ⟨h.rd.1, h.ds, h.ng⟩
/-- The composition of two forms: the reduced form of its class. -/
def Cpd (q r t : Qd) : Prop := Rdd t ∧ ∃ f, Cmp q r f ∧ Eqv f t
theorem Cpd.uniq {q r t u : Qd} (hq : Pri q) (h : Cpd q r t) (h' : Cpd q r u) : t = u := by
  obtain ⟨h1, f, h2, h3⟩ := h
  obtain ⟨h1', f', h2', h3'⟩ := h'
  exact h1.uniq h1' (h3.symm.trans ((h2.uniq hq h2').trans h3'))
noncomputable def cp (q r : Qd) : Qd := Classical.epsilon (Cpd q r)
theorem Cpd.cp {q r t : Qd} (hq : Pri q) (h : Cpd q r t) : cp q r = t := Cpd.uniq hq (Classical.epsilon_spec (p := Cpd q r) ⟨t, h⟩) h
theorem Cpd.left {q q' r t : Qd} (h : Cpd q r t) (he : Eqv q q') : Cpd q' r t := by
  obtain ⟨h1, f, h2, h3⟩ := h
  exact ⟨h1, f, h2.left he, h3⟩
theorem Cpd.right {q r r' t : Qd} (h : Cpd q r t) (he : Eqv r r') : Cpd q r' t := by
  obtain ⟨h1, f, h2, h3⟩ := h
  exact ⟨h1, f, h2.right he, h3⟩
theorem Cpd.symm {q r t : Qd} (h : Cpd q r t) : Cpd r q t := by
  obtain ⟨h1, f, h2, h3⟩ := h
  exact ⟨h1, f, h2.symm, h3⟩
/-- What united forms lead to. -/
theorem unite_cpd {q r : Qd} {b D : Int} (h1 : 1 ≤ q.1) (h2 : 1 ≤ r.1) (hq : dsq q = D) (hr : dsq r = D) (hD : D < 0) (hg : Int.gcd r.1 q.1 = 1) (k l : Int) (hb : b = q.2.1 + 2 * q.1 * k) (hb' : b = r.2.1 + 2 * r.1 * l) (pq : Pri q) (pr : Pri r) :
    Pos D (q.1 * r.1, b, thd (q.1 * r.1) b D) ∧ Cpd q r (red (q.1 * r.1, b, thd (q.1 * r.1) b D)) ∧ El D (red (q.1 * r.1, b, thd (q.1 * r.1) b D)) := by
  obtain ⟨c, hc, hd, hp⟩ := unite h1 h2 hq hr hg k l hb hb'
  have hm : 1 ≤ q.1 * r.1 := by
    have : 1 * 1 ≤ q.1 * r.1 := Int.mul_le_mul h1 h2 (by omega) (by omega)
    omega
  have ht : thd (q.1 * r.1) b D = c := by
    unfold thd
    have : b * b - D = 4 * (q.1 * r.1) * c := by omega
    rw [this]
    exact Int.mul_tdiv_cancel_left _ (by omega)
  rw [ht]
  have hpos : Pos D (q.1 * r.1, b, c) := ⟨hm, hd, hD⟩
  have hr := rdd_red hpos
  exact ⟨hpos, ⟨hr, _, hc, Eqv.red _⟩, ⟨hr, (hp pq pr).eqv (Eqv.red _), ((Eqv.red _).dsq).trans hd, hD⟩⟩
/-- A properly equivalent form whose first number has no common divisor with n. -/
theorem chg_val {t : Qd} (j k : Int) : (chg t (1 + j * k) j k 1).1 = val t (1 + j * k) k ∧ Eqv t (chg t (1 + j * k) j k 1) :=
  ⟨rfl, _, _, _, _, by grind, rfl⟩
theorem val_pos {D : Int} {t : Qd} (h : Pos D t) {x y : Int} (hxy : x ≠ 0 ∨ y ≠ 0) : 1 ≤ val t x y := by
  obtain ⟨p, q, r⟩ := t
  have hp : 1 ≤ p := h.1
  have hd : q * q - 4 * p * r = D := h.2.1
  have e : 4 * p * val (p, q, r) x y = (2 * p * x + q * y) * (2 * p * x + q * y) - D * (y * y) := by
    rw [← hd]; simp only [val]; grind
  have h1 := sq_nn (2 * p * x + q * y)
  have h2 := sq_nn y
  rcases Int.lt_or_le (val (p, q, r) x y) 1 with h3 | h3
  · exfalso
    have h4 : 4 * p * val (p, q, r) x y ≤ 0 := Int.mul_nonpos_of_nonneg_of_nonpos (by omega) (by omega)
    have h5 : 0 ≤ -D * (y * y) := Int.mul_nonneg (by have := h.2.2; omega) h2
    rw [Int.neg_mul] at h5
    have h6 : D * (y * y) = 0 := by omega
    have hy : y = 0 := by
      rcases Int.mul_eq_zero.1 h6 with h7 | h7
      · have := h.2.2; omega
      · rcases Int.mul_eq_zero.1 h7 with h8 | h8 <;> exact h8
    subst hy
    have h7 : (2 * p * x) * (2 * p * x) = 0 := by simp at e h1; omega
    have h8 : 2 * p * x = 0 := by rcases Int.mul_eq_zero.1 h7 with h8 | h8 <;> exact h8
    have : x = 0 := by
      rcases Int.mul_eq_zero.1 h8 with h9 | h9
      · omega
      · exact h9
    rcases hxy with h9 | h9
    · exact h9 this
    · exact h9 rfl
  · exact h3
theorem odd_even {q r p s D : Int} (h1 : q * q - 4 * p = D) (h2 : r * r - 4 * s = D) : ∃ m, r - q = 2 * m := by
  have e : (r - q) * (r + q) = 4 * (s - p) := by grind
  have h : (r - q) % 2 = 0 := by
    rcases Int.emod_two_eq (r - q) with h | h
    · exact h
    · exfalso
      have h3 : (r + q) % 2 = 1 := by omega
      have := Int.mul_emod (r - q) (r + q) 2
      rw [h, h3, e] at this
      omega
  exact ⟨(r - q) / 2, by omega⟩
/-- The middle number of united forms: steps of 2 q, fewer than r. -/
theorem middle {q r : Qd} {D : Int} (h2 : 1 ≤ r.1) (hq : dsq q = D) (hr : dsq r = D) (hg : Int.gcd r.1 q.1 = 1) : ∃ t : Nat, (t : Int) < r.1 ∧ ∃ l, q.2.1 + 2 * q.1 * t = r.2.1 + 2 * r.1 * l := by
  obtain ⟨u, v, huv⟩ := gcd_one.1 hg
  obtain ⟨m, hm⟩ := odd_even (q := q.2.1) (r := r.2.1) (p := q.1 * q.2.2) (s := r.1 * r.2.2) (D := D) (by rw [← hq]; unfold dsq; grind) (by rw [← hr]; unfold dsq; grind)
  have h0 := Int.emod_nonneg (v * m) (b := r.1) (by omega)
  have h1 := Int.emod_lt_of_pos (v * m) (b := r.1) (by omega)
  have h3 := Int.mul_ediv_add_emod (v * m) r.1
  refine ⟨((v * m) % r.1).toNat, by omega, -(u * m) - q.1 * ((v * m) / r.1), ?_⟩
  rw [Int.toNat_of_nonneg h0]
  generalize (v * m) % r.1 = x at h3 ⊢
  generalize (v * m) / r.1 = y at h3 ⊢
  have e1 : x = v * m - r.1 * y := by omega
  have e2 : r.2.1 = q.2.1 + 2 * m := by omega
  rw [e1, e2]
  have e3 : m = (u * r.1 + v * q.1) * m := by rw [huv, Int.one_mul]
  have : 2 * q.1 * (v * m) = 2 * m - 2 * r.1 * (u * m) := by
    have : 2 * m = 2 * ((u * r.1 + v * q.1) * m) := by rw [← e3]
    rw [this]; grind
  grind
theorem El.comp {D : Int} {q r : Qd} (hq : El D q) (hr : El D r) : El D (cp q r) ∧ Cpd q r (cp q r) := by
  have hq1 : 1 ≤ q.1 := hq.rd.1
  obtain ⟨j, k, hg⟩ := prim_val hr.pr q.1.toNat (by omega)
  rw [Int.toNat_of_nonneg (by omega)] at hg
  obtain ⟨e1, e2⟩ := chg_val (t := r) j k
  obtain ⟨r', hr'⟩ : ∃ r', r' = chg r (1 + j * k) j k 1 := ⟨_, rfl⟩
  rw [← hr'] at e1 e2
  have hd : dsq r' = D := e2.dsq.trans hr.ds
  have hp : 1 ≤ r'.1 := by
    rw [e1]
    refine val_pos hr.pos ?_
    by_cases hk : k = 0
    · left; subst hk; simp
    · right; exact hk
  rw [← e1] at hg
  obtain ⟨t, _, l, hl⟩ := middle hp hq.ds hd hg
  obtain ⟨_, h2, h3⟩ := unite_cpd hq1 hp hq.ds hd hq.ng hg t l rfl hl hq.pr (hr.pr.eqv e2)
  have := h2.right e2.symm
  have hc := Cpd.cp hq.pr this
  rw [hc]
  exact ⟨h3, this⟩

end Go.Proofs.Ytehbkmohfipmgaa
