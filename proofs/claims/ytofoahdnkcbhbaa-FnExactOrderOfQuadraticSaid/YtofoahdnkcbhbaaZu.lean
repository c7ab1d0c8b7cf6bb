/- Chapter 10: forms that represent numbers without a common divisor with n; compositions exist. Mathematics alone. -/
import Derived.Test.YtofoahdnkcbhbaaZt
namespace Go.Proofs.Ytofoahdnkcbhbaa
open Go.RowKit

def val (t : Qd) (x y : Int) : Int := t.1 * x * x + t.2.1 * x * y + t.2.2 * y * y
/-- x and y have the same rest by m. -/
def Dv (m x y : Int) : Prop := m ∣ x - y
theorem Dv.refl (m x : Int) : Dv m x x := ⟨0, by omega⟩
theorem Dv.add {m x y x' y' : Int} (h : Dv m x y) (h' : Dv m x' y') : Dv m (x + x') (y + y') := by
  obtain ⟨s, h⟩ := h; obtain ⟨u, h'⟩ := h'
  exact ⟨s + u, by rw [Int.mul_add, ← h, ← h']; omega⟩
theorem Dv.mul {m x y x' y' : Int} (h : Dv m x y) (h' : Dv m x' y') : Dv m (x * x') (y * y') := by
  obtain ⟨s, h⟩ := h; obtain ⟨u, h'⟩ := h'
  refine ⟨x * u + y' * s, ?_⟩
  have e1 : x = y + m * s := by omega
  have e2 : x' = y' + m * u := by omega
  rw [e1, e2]; grind
theorem Dv.val {m x y x' y' : Int} (t : Qd) (h : Dv m x y) (h' : Dv m x' y') : Dv m (val t x x') (val t y y') :=
  ((((Dv.refl m t.1).mul h).mul h).add (((Dv.refl m t.2.1).mul h).mul h')).add (((Dv.refl m t.2.2).mul h').mul h')
theorem gcd_one {x m : Int} : Int.gcd x m = 1 ↔ ∃ u v : Int, u * x + v * m = 1 := by
  constructor
  · intro h
    obtain ⟨u, v, e⟩ := bezZ x m
    exact ⟨u, v, by rw [e, h]; rfl⟩
  · rintro ⟨u, v, e⟩
    have h1 : (Int.gcd x m : Int) ∣ 1 := by
      rw [← e]
      exact Int.dvd_add (Int.dvd_trans (Int.gcd_dvd_left ..) (Int.dvd_mul_left _ _)) (Int.dvd_trans (Int.gcd_dvd_right ..) (Int.dvd_mul_left _ _))
    have := Int.natAbs_dvd_natAbs.2 h1
    exact Nat.dvd_one.1 (by simpa using this)
theorem Dv.gcd {m x y : Int} (h : Dv m x y) (hy : Int.gcd y m = 1) : Int.gcd x m = 1 := by
  obtain ⟨u, v, e⟩ := gcd_one.1 hy
  obtain ⟨s, h⟩ := h
  refine gcd_one.2 ⟨u, v - u * s, ?_⟩
  have e1 : x = y + m * s := by omega
  rw [e1, ← e]; grind
theorem gcd_mul {x m n : Int} (h : Int.gcd x m = 1) (h' : Int.gcd x n = 1) : Int.gcd x (m * n) = 1 := by
  obtain ⟨u, v, e⟩ := gcd_one.1 h
  obtain ⟨u', v', e'⟩ := gcd_one.1 h'
  refine gcd_one.2 ⟨u * u' * x + u * v' * n + v * m * u', v * v', ?_⟩
  have : (u * x + v * m) * (u' * x + v' * n) = 1 := by rw [e, e']; rfl
  rw [← this]; grind
theorem gcd_div {x m n : Int} (h : Int.gcd x (m * n) = 1) : Int.gcd x m = 1 := by
  obtain ⟨u, v, e⟩ := gcd_one.1 h
  exact gcd_one.2 ⟨u, v * n, by rw [← e]; grind⟩
theorem gcd_fac {x y m : Int} (h : Int.gcd (x * y) m = 1) : Int.gcd x m = 1 := by
  obtain ⟨u, v, e⟩ := gcd_one.1 h
  exact gcd_one.2 ⟨u * y, v, by rw [← e]; grind⟩
/-- The least divisor from 2 on. -/
theorem least_div (n : Nat) (hn : 2 ≤ n) : ∃ p, 2 ≤ p ∧ p ∣ n ∧ ∀ d, 2 ≤ d → d ∣ n → p ≤ d := by
  have h : ∀ k, (∃ p, 2 ≤ p ∧ p ∣ n ∧ p ≤ k) → ∃ p, 2 ≤ p ∧ p ∣ n ∧ ∀ d, 2 ≤ d → d ∣ n → p ≤ d := by
    intro k
    induction k with
    | zero => rintro ⟨p, h1, _, h3⟩; omega
    | succ k ih =>
      rintro ⟨p, h1, h2, h3⟩
      by_cases hk : ∃ q, 2 ≤ q ∧ q ∣ n ∧ q ≤ k
      · exact ih hk
      · refine ⟨p, h1, h2, fun d hd hd' => ?_⟩
        rcases Nat.lt_or_ge d p with h4 | h4
        · exact absurd ⟨d, hd, hd', by omega⟩ hk
        · exact h4
  exact h n ⟨n, hn, Nat.dvd_refl n, Nat.le_refl n⟩
/-- A number either has no common divisor with the least divisor, or is its multiple. -/
theorem least_or {n p : Nat} (hp : p ∣ n) (h2 : 2 ≤ p) (hl : ∀ d, 2 ≤ d → d ∣ n → p ≤ d) (x : Int) : Int.gcd x p = 1 ∨ (p : Int) ∣ x := by
  have hd : Int.gcd x p ∣ p := by
    have : (Int.gcd x p : Int) ∣ (p : Int) := Int.gcd_dvd_right ..
    exact Int.ofNat_dvd.1 this
  have hpos : 0 < Int.gcd x p := Nat.pos_of_dvd_of_pos hd (by omega)
  rcases Nat.lt_or_ge (Int.gcd x p) 2 with h | h
  · left; omega
  · right
    have h1 := hl _ h (Nat.dvd_trans hd hp)
    have h3 := Nat.le_of_dvd (by omega) hd
    have e : Int.gcd x p = p := by omega
    have : (Int.gcd x p : Int) ∣ x := Int.gcd_dvd_left ..
    rwa [e] at this
theorem prim_val {t : Qd} (ht : Pri t) : ∀ n : Nat, 1 ≤ n → ∃ j k : Int, Int.gcd (val t (1 + j * k) k) n = 1 := by
  intro n
  induction n using Nat.strongRecOn with
  | _ n ih =>
    intro hn
    rcases Nat.lt_or_ge n 2 with h | h
    · rw [show n = 1 by omega]
      exact ⟨0, 0, by simp⟩
    · obtain ⟨p, hp2, hpn, hl⟩ := least_div n h
      obtain ⟨m, rfl⟩ := hpn
      have hm0 : 0 < m := Nat.pos_of_ne_zero (fun e => by subst e; omega)
      have hm : m < p * m := by
        have : 2 * m ≤ p * m := Nat.mul_le_mul_right m hp2
        omega
      obtain ⟨j1, k1, hg⟩ := ih m hm hm0
      have hor := fun x => least_or (Nat.dvd_mul_right p m) hp2 hl x
      by_cases hpm : (p : Int) ∣ (m : Int)
      · obtain ⟨s, hs⟩ := hpm
        refine ⟨j1, k1, ?_⟩
        have h1 : Int.gcd (val t (1 + j1 * k1) k1) p = 1 := by
          rw [hs] at hg
          exact gcd_div hg
        have := gcd_mul h1 hg
        push_cast; exact this
      · have hcop : Int.gcd m p = 1 := (hor m).resolve_right hpm
        obtain ⟨u, v, huv⟩ := gcd_one.1 hcop
        -- good for p
        have hgp : ∃ j2 k2 : Int, Int.gcd (val t (1 + j2 * k2) k2) p = 1 := by
          rcases hor t.1 with ha | ha
          · exact ⟨0, 0, by simpa [val] using ha⟩
          · rcases hor t.2.2 with hc | hc
            · exact ⟨-1, 1, by simpa [val] using hc⟩
            · refine ⟨0, 1, ?_⟩
              rcases hor (val t (1 + 0 * 1) 1) with h1 | h1
              · exact h1
              · exfalso
                have hb : (p : Int) ∣ t.2.1 := by
                  have e : t.2.1 = val t (1 + 0 * 1) 1 - (t.1 + t.2.2) := by simp [val]; omega
                  rw [e]
                  exact Int.dvd_sub h1 (Int.dvd_add ha hc)
                obtain ⟨x, y, z, hb1⟩ := ht.bez
                have h3 : (p : Int) ∣ 1 := by
                  rw [← hb1]
                  exact Int.dvd_add (Int.dvd_add (Int.dvd_trans ha (Int.dvd_mul_left _ _)) (Int.dvd_trans hb (Int.dvd_mul_left _ _))) (Int.dvd_trans hc (Int.dvd_mul_left _ _))
                have h4 := Int.natAbs_dvd_natAbs.2 h3
                have := Nat.dvd_one.1 (by simpa using h4)
                omega
        obtain ⟨j2, k2, hg2⟩ := hgp
        refine ⟨j1 * (v * p) + j2 * (u * m), k1 * (v * p) + k2 * (u * m), ?_⟩
        have dm : ∀ x1 x2 : Int, Dv m (x1 * (v * p) + x2 * (u * m)) x1 := fun x1 x2 => ⟨x2 * u - x1 * u, by
          have : v * p = 1 - u * m := by omega
          rw [this]; grind⟩
        have dp : ∀ x1 x2 : Int, Dv p (x1 * (v * p) + x2 * (u * m)) x2 := fun x1 x2 => ⟨x1 * v - x2 * v, by
          have : u * m = 1 - v * p := by omega
          rw [this]; grind⟩
        have g1 := (Dv.val t ((Dv.refl (m : Int) 1).add ((dm j1 j2).mul (dm k1 k2))) (dm k1 k2)).gcd hg
        have g2 := (Dv.val t ((Dv.refl (p : Int) 1).add ((dp j1 j2).mul (dp k1 k2))) (dp k1 k2)).gcd hg2
        have := gcd_mul g2 g1
        push_cast; exact this
/-- .. with j and k from 0 to n - 1. -/
theorem prim_small {t : Qd} (ht : Pri t) (n : Nat) (hn : 1 ≤ n) : ∃ j k : Nat, j < n ∧ k < n ∧ Int.gcd (val t (1 + (j : Int) * k) k) n = 1 := by
  obtain ⟨j, k, h⟩ := prim_val ht n hn
  have hj0 := Int.emod_nonneg j (b := n) (by omega)
  have hj1 := Int.emod_lt_of_pos j (b := n) (by omega)
  have hk0 := Int.emod_nonneg k (b := n) (by omega)
  have hk1 := Int.emod_lt_of_pos k (b := n) (by omega)
  have d : ∀ x : Int, Dv n (x % n) x := fun x => ⟨-(x / n), by have := Int.mul_ediv_add_emod x n; rw [Int.mul_neg]; omega⟩
  have g := (Dv.val t ((Dv.refl (n : Int) 1).add ((d j).mul (d k))) (d k)).gcd h
  refine ⟨(j % n).toNat, (k % n).toNat, by omega, by omega, ?_⟩
  rw [Int.toNat_of_nonneg hj0, Int.toNat_of_nonneg hk0]
  exact g

end Go.Proofs.Ytofoahdnkcbhbaa
