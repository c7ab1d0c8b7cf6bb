/- Plain mathematics: products, inverses, discriminants of changed forms. No Go function in sight. -/
import Derived.Test.YtdogkkmdccieiaaDoorC1v
import Derived.Test.YtdogkkmdccieiaaDoorZ10
namespace Go.Proofs.YtdogkkmdccieiaaDoor
open Go.RowKit

def hP (a b c : Int) : Int := b * b - 3 * a * c
def hQ (a b c d : Int) : Int := b * c - 9 * a * d
def hR (b c d : Int) : Int := c * c - 3 * b * d
theorem hess_disc (a b c d : Int) : 4 * hP a b c * hR b c d - hQ a b c d * hQ a b c d = 3 * dx a b c d := by unfold hP hQ hR dx; grind
theorem hess_P (a b c d p q r s : Int) : hP (cA a b c d p r) (cB a b c d p q r s) (cC a b c d p q r s) = (p * s - q * r) * (p * s - q * r) * (hP a b c * p * p + hQ a b c d * p * r + hR b c d * r * r) := by
  unfold hP hQ hR cA cB cC vx; grind
theorem hess_R (a b c d p q r s : Int) : hR (cB a b c d p q r s) (cC a b c d p q r s) (cA a b c d q s) = (p * s - q * r) * (p * s - q * r) * (hP a b c * q * q + hQ a b c d * q * s + hR b c d * s * s) := by
  unfold hP hQ hR cA cB cC vx; grind
theorem hess_Q (a b c d p q r s : Int) : hQ (cA a b c d p r) (cB a b c d p q r s) (cC a b c d p q r s) (cA a b c d q s) = (p * s - q * r) * (p * s - q * r) * (2 * hP a b c * p * q + hQ a b c d * (p * s + q * r) + 2 * hR b c d * r * s) := by
  unfold hP hQ hR cA cB cC vx; grind
theorem quad_disc (P Q R p q r s : Int) : 4 * (P * p * p + Q * p * r + R * r * r) * (P * q * q + Q * q * s + R * s * s) - (2 * P * p * q + Q * (p * s + q * r) + 2 * R * r * s) * (2 * P * p * q + Q * (p * s + q * r) + 2 * R * r * s) = (p * s - q * r) * (p * s - q * r) * (4 * P * R - Q * Q) := by grind
theorem disc_ch (a b c d p q r s g : Int) (hg : g = p * s - q * r) : dx (cA a b c d p r) (cB a b c d p q r s) (cC a b c d p q r s) (cA a b c d q s) = dx a b c d * g * g * g * g * g * g := by
  have h1 := hess_disc (cA a b c d p r) (cB a b c d p q r s) (cC a b c d p q r s) (cA a b c d q s)
  have h2 := hess_disc a b c d
  have h3 := quad_disc (hP a b c) (hQ a b c d) (hR b c d) p q r s
  rw [hess_P, hess_Q, hess_R, ← hg] at h1
  rw [← hg, h2] at h3
  generalize hP a b c * p * p + hQ a b c d * p * r + hR b c d * r * r = X at h1 h3
  generalize hP a b c * q * q + hQ a b c d * q * s + hR b c d * s * s = Y at h1 h3
  generalize 2 * hP a b c * p * q + hQ a b c d * (p * s + q * r) + 2 * hR b c d * r * s = Z at h1 h3
  have e : 4 * (g * g * X) * (g * g * Y) - g * g * Z * (g * g * Z) = g * g * g * g * (4 * X * Y - Z * Z) := by grind
  rw [e, h3] at h1
  have e2 : g * g * g * g * (g * g * (3 * dx a b c d)) = 3 * (dx a b c d * g * g * g * g * g * g) := by grind
  omega
/-- The discriminant of a changed form, as int64 reckons. -/
theorem dsc_ch (a b c d p q r s : Int) : dsc (cA a b c d p r) (cB a b c d p q r s) (cC a b c d p q r s) (cA a b c d q s) = mu (mu (mu (mu (mu (mu (dsc a b c d) (det p q r s)) (det p q r s)) (det p q r s)) (det p q r s)) (det p q r s)) (det p q r s) := by
  have e : det p q r s = wrap64 (p * s - q * r) := by simp only [det, mi, mu, wr_sl, wr_sr]
  rw [dsc_wr, dsc_wr, e, disc_ch a b c d p q r s _ rfl]
  simp only [mu, wr_ml, wr_mr]
theorem val_ch (a b c d p q r s x y : Int) : vx (cA a b c d p r) (cB a b c d p q r s) (cC a b c d p q r s) (cA a b c d q s) x y = vx a b c d (p * x + q * y) (r * x + s * y) := by
  unfold vx cA cB cC vx; grind
theorem det_eq {a b c d : Int} (ha : -1000 ≤ a ∧ a ≤ 1000) (hb : -1000 ≤ b ∧ b ≤ 1000) (hc : -1000 ≤ c ∧ c ≤ 1000) (hd : -1000 ≤ d ∧ d ≤ 1000) : det a b c d = a * d - b * c := by
  have h1 := mulb ha hd; have h2 := mulb hb hc
  simp only [det, mi, mu, wr_sl, wr_sr]; exact wr_in (by omega)
theorem mp_eq {a b c d : Int} (ha : -1000 ≤ a ∧ a ≤ 1000) (hb : -1000 ≤ b ∧ b ≤ 1000) (hc : -1000 ≤ c ∧ c ≤ 1000) (hd : -1000 ≤ d ∧ d ≤ 1000) : mp a b c d = a * b + c * d := by
  have h1 := mulb ha hb; have h2 := mulb hc hd
  simp only [mp, pl, mu, wr_al, wr_ar]; exact wr_in (by omega)
/-- Determinants multiply. -/
theorem det_mul {a b c d p q r s : Int} (hm : isF a b c d = true) (hn : isF p q r s = true) : mu (det a b c d) (det p q r s) = det (mp a p b r) (mp a q b s) (mp c p d r) (mp c q d s) := by
  obtain ⟨ha, hb, hc, hd⟩ := isF_t hm
  obtain ⟨hp, hq, hr, hs⟩ := isF_t hn
  rw [mp_eq ha hp hb hr, mp_eq ha hq hb hs, mp_eq hc hp hd hr, mp_eq hc hq hd hs]
  simp only [det, mi, mu, wr_ml, wr_mr, wr_sl, wr_sr]
  refine congrArg wrap64 ?_
  grind
/-- The changed form changed back. -/
theorem back_0 (a b c d p q r s g : Int) :
    cA (cA a b c d p r) (cB a b c d p q r s) (cC a b c d p q r s) (cA a b c d q s) (g * s) (-(g * r)) = (g * (p * s - q * r)) * (g * (p * s - q * r)) * (g * (p * s - q * r)) * a ∧
    cB (cA a b c d p r) (cB a b c d p q r s) (cC a b c d p q r s) (cA a b c d q s) (g * s) (-(g * q)) (-(g * r)) (g * p) = (g * (p * s - q * r)) * (g * (p * s - q * r)) * (g * (p * s - q * r)) * b ∧
    cC (cA a b c d p r) (cB a b c d p q r s) (cC a b c d p q r s) (cA a b c d q s) (g * s) (-(g * q)) (-(g * r)) (g * p) = (g * (p * s - q * r)) * (g * (p * s - q * r)) * (g * (p * s - q * r)) * c ∧
    cA (cA a b c d p r) (cB a b c d p q r s) (cC a b c d p q r s) (cA a b c d q s) (-(g * q)) (g * p) = (g * (p * s - q * r)) * (g * (p * s - q * r)) * (g * (p * s - q * r)) * d := by
  refine ⟨?_, ?_, ?_, ?_⟩
  · unfold cA cB cC vx; grind
  · unfold cA cB cC vx; grind
  · unfold cA cB cC vx; grind
  · unfold cA cB cC vx; grind
theorem sq_one {g : Int} (h : g = 1 ∨ g = -1) : g * g = 1 := by rcases h with rfl | rfl <;> rfl
theorem back_1 {a b c d p q r s g : Int} (hg : g = p * s - q * r) (h : g = 1 ∨ g = -1) :
    cA (cA a b c d p r) (cB a b c d p q r s) (cC a b c d p q r s) (cA a b c d q s) (g * s) (-(g * r)) = a ∧
    cB (cA a b c d p r) (cB a b c d p q r s) (cC a b c d p q r s) (cA a b c d q s) (g * s) (-(g * q)) (-(g * r)) (g * p) = b ∧
    cC (cA a b c d p r) (cB a b c d p q r s) (cC a b c d p q r s) (cA a b c d q s) (g * s) (-(g * q)) (-(g * r)) (g * p) = c ∧
    cA (cA a b c d p r) (cB a b c d p q r s) (cC a b c d p q r s) (cA a b c d q s) (-(g * q)) (g * p) = d := by
  have h0 := back_0 a b c d p q r s g
  have h1 := sq_one h
  rw [← hg, h1] at h0
  simpa using h0
theorem inv_isF {a b c d g : Int} (hm : isF a b c d = true) (h : g = 1 ∨ g = -1) : isF (g * d) (-(g * b)) (-(g * c)) (g * a) = true := by
  obtain ⟨ha, hb, hc, hd⟩ := isF_t hm
  rcases h with rfl | rfl <;> exact isF_mk (by omega) (by omega) (by omega) (by omega)
/-- A unit matrix and its inverse. -/
theorem inv_mul {a b c d g : Int} (hm : isF a b c d = true) (hg : det a b c d = g) (h : g = 1 ∨ g = -1) :
    mp a (g * d) b (-(g * c)) = 1 ∧ mp a (-(g * b)) b (g * a) = 0 ∧ mp c (g * d) d (-(g * c)) = 0 ∧ mp c (-(g * b)) d (g * a) = 1 := by
  obtain ⟨ha, hb, hc, hd⟩ := isF_t hm
  obtain ⟨h1, h2, h3, h4⟩ := isF_t (inv_isF hm h)
  rw [det_eq ha hb hc hd] at hg
  rw [mp_eq ha h1 hb h3, mp_eq ha h2 hb h4, mp_eq hc h1 hd h3, mp_eq hc h2 hd h4]
  rcases h with h | h <;> rw [h] at hg ⊢ <;> refine ⟨?_, ?_, ?_, ?_⟩ <;> grind
theorem ivc_0 {a b c d : Int} (h : ivc a b c d = 0) : isF a b c d = true ∧ (det a b c d = 1 ∨ det a b c d = -1) := by
  unfold ivc at h
  split at h
  · rename_i hf
    refine ⟨hf, ?_⟩
    split at h
    · rename_i hu; simpa [isUnit] using hu
    · cases h
  · cases h
theorem mulc_0 {a b c d p q r s : Int} (h : mulc a b c d p q r s = 0) : isF a b c d = true ∧ isF p q r s = true ∧ isF (mp a p b r) (mp a q b s) (mp c p d r) (mp c q d s) = true := by
  unfold mulc at h
  split at h
  · rename_i hf
    split at h
    · rename_i hu; simp only [Bool.and_eq_true] at hf; exact ⟨hf.1, hf.2, hu⟩
    · cases h
  · cases h
theorem chc_0 {a b c d p q r s : Int} (h : chc a b c d p q r s = 0) : isF a b c d = true ∧ isF p q r s = true ∧ isF (cA a b c d p r) (cB a b c d p q r s) (cC a b c d p q r s) (cA a b c d q s) = true := by
  unfold chc at h
  split at h
  · rename_i hf
    split at h
    · rename_i hu; simp only [Bool.and_eq_true] at hf; exact ⟨hf.1, hf.2, hu⟩
    · cases h
  · cases h
/-- The value of a changed form at 2, -1. -/
theorem val_2 (a b c d p q r s : Int) : vl (cA a b c d p r) (cB a b c d p q r s) (cC a b c d p q r s) (cA a b c d q s) 2 (-1) = vl a b c d (2 * p - q) (2 * r - s) := by
  rw [vl_wr, vl_wr, val_ch]
  have e1 : p * 2 + q * (-1) = 2 * p - q := by omega
  have e2 : r * 2 + s * (-1) = 2 * r - s := by omega
  rw [e1, e2]

end Go.Proofs.YtdogkkmdccieiaaDoor
