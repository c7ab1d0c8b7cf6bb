/- Plain mathematics: int64's sums and products as whole numbers; forms changed by matrices. No Go function in sight. -/
import Derived.Test.YtfibeifkmfnehaaDoorBase
namespace Go.Proofs.YtfibeifkmfnehaaDoor
open Go.RowKit

theorem wr_b (x : Int) : wrap64 x = Int.bmod x 18446744073709551616 := by
  unfold wrap64 Int.bmod; dsimp only; split <;> omega
theorem wr_al (x y : Int) : wrap64 (wrap64 x + y) = wrap64 (x + y) := by simp only [wr_b, Int.bmod_add_bmod]
theorem wr_ar (x y : Int) : wrap64 (x + wrap64 y) = wrap64 (x + y) := by simp only [wr_b, Int.add_bmod_bmod]
theorem wr_sl (x y : Int) : wrap64 (wrap64 x - y) = wrap64 (x - y) := by simp only [wr_b, Int.bmod_sub_bmod]
theorem wr_sr (x y : Int) : wrap64 (x - wrap64 y) = wrap64 (x - y) := by simp only [wr_b, Int.sub_bmod_bmod]
theorem wr_ml (x y : Int) : wrap64 (wrap64 x * y) = wrap64 (x * y) := by simp only [wr_b, Int.bmod_mul_bmod]
theorem wr_mr (x y : Int) : wrap64 (x * wrap64 y) = wrap64 (x * y) := by simp only [wr_b, Int.mul_bmod_bmod]
theorem wr_n (x : Int) : wrap64 (-wrap64 x) = wrap64 (-x) := by have := wr_sr 0 x; simpa using this
theorem wr_in {x : Int} (h : -9000000000000000000 ≤ x ∧ x ≤ 9000000000000000000) : wrap64 x = x := IntWalk.wrap64_in x (by omega)

theorem mulb {x y A B : Int} (hx : -A ≤ x ∧ x ≤ A) (hy : -B ≤ y ∧ y ≤ B) : -(A * B) ≤ x * y ∧ x * y ≤ A * B := by
  have hA : 0 ≤ A := by omega
  have h : (x * y).natAbs ≤ A.natAbs * B.natAbs := by
    rw [Int.natAbs_mul]; exact Nat.mul_le_mul (by omega) (by omega)
  have e : ((A.natAbs * B.natAbs : Nat) : Int) = A * B := by
    rw [Int.natCast_mul, Int.natAbs_of_nonneg hA, Int.natAbs_of_nonneg (by omega)]
  omega
theorem mulb4 {x y z u A B C D : Int} (hx : -A ≤ x ∧ x ≤ A) (hy : -B ≤ y ∧ y ≤ B) (hz : -C ≤ z ∧ z ≤ C) (hu : -D ≤ u ∧ u ≤ D) : -(A * B * C * D) ≤ x * y * z * u ∧ x * y * z * u ≤ A * B * C * D := mulb (mulb (mulb hx hy) hz) hu

/-- a x^3 + b x^2 y + c x y^2 + d y^3. -/
def vx (a b c d x y : Int) : Int := a * x * x * x + b * x * x * y + c * x * y * y + d * y * y * y
theorem vl_wr (a b c d x y : Int) : vl a b c d x y = wrap64 (vx a b c d x y) := by
  simp only [vl, pl, mu, wr_al, wr_ar, wr_ml, vx]
theorem vx_bd {a b c d x y A B : Int} (ha : -A ≤ a ∧ a ≤ A) (hb : -A ≤ b ∧ b ≤ A) (hc : -A ≤ c ∧ c ≤ A) (hd : -A ≤ d ∧ d ≤ A) (hx : -B ≤ x ∧ x ≤ B) (hy : -B ≤ y ∧ y ≤ B) :
    -(4 * (A * B * B * B)) ≤ vx a b c d x y ∧ vx a b c d x y ≤ 4 * (A * B * B * B) := by
  have e1 := mulb4 ha hx hx hx
  have e2 := mulb4 hb hx hx hy
  have e3 := mulb4 hc hx hy hy
  have e4 := mulb4 hd hy hy hy
  unfold vx; omega
theorem vl_eq {a b c d x y : Int} (ha : -1000 ≤ a ∧ a ≤ 1000) (hb : -1000 ≤ b ∧ b ≤ 1000) (hc : -1000 ≤ c ∧ c ≤ 1000) (hd : -1000 ≤ d ∧ d ≤ 1000) (hx : -10000 ≤ x ∧ x ≤ 10000) (hy : -10000 ≤ y ∧ y ≤ 10000) : vl a b c d x y = vx a b c d x y := by
  rw [vl_wr]; have := vx_bd ha hb hc hd hx hy; exact wr_in (by omega)

/-- The four numbers of a form changed by a matrix. -/
def cA (a b c d p r : Int) : Int := vx a b c d p r
def cB (a b c d p q r s : Int) : Int := 3 * a * p * p * q + b * (2 * p * q * r + p * p * s) + c * (q * r * r + 2 * p * r * s) + 3 * d * r * r * s
def cC (a b c d p q r s : Int) : Int := 3 * a * p * q * q + b * (2 * p * q * s + q * q * r) + c * (p * s * s + 2 * q * r * s) + 3 * d * r * s * s
theorem ch_sum (a b c d p q r s : Int) : vx a b c d (p + q) (r + s) = cA a b c d p r + cB a b c d p q r s + cC a b c d p q r s + cA a b c d q s := by
  unfold vx cA cB cC vx; grind
theorem ch_dif (a b c d p q r s : Int) : vx a b c d (p - q) (r - s) = cA a b c d p r - cB a b c d p q r s + cC a b c d p q r s - cA a b c d q s := by
  unfold vx cA cB cC vx; grind
/-- The numbers of a changed form follow from its values at the base places. -/
theorem ch_b (a b c d p q r s : Int) : vx a b c d (p + q) (r + s) - vx a b c d (p - q) (r - s) - 2 * vx a b c d q s = 2 * cB a b c d p q r s := by
  rw [ch_sum, ch_dif]; unfold cA; omega
theorem ch_c (a b c d p q r s : Int) : vx a b c d (p + q) (r + s) + vx a b c d (p - q) (r - s) - 2 * vx a b c d p r = 2 * cC a b c d p q r s := by
  rw [ch_sum, ch_dif]; unfold cA; omega
theorem cB_bd {a b c d p q r s : Int} (ha : -1000 ≤ a ∧ a ≤ 1000) (hb : -1000 ≤ b ∧ b ≤ 1000) (hc : -1000 ≤ c ∧ c ≤ 1000) (hd : -1000 ≤ d ∧ d ≤ 1000) (hp : -1000 ≤ p ∧ p ≤ 1000) (hq : -1000 ≤ q ∧ q ≤ 1000) (hr : -1000 ≤ r ∧ r ≤ 1000) (hs : -1000 ≤ s ∧ s ≤ 1000) :
    (-36000000000000 ≤ cB a b c d p q r s ∧ cB a b c d p q r s ≤ 36000000000000) ∧ (-36000000000000 ≤ cC a b c d p q r s ∧ cC a b c d p q r s ≤ 36000000000000) := by
  have h1 := ch_b a b c d p q r s
  have h2 := ch_c a b c d p q r s
  have v1 := vx_bd ha hb hc hd (x := p + q) (y := r + s) (B := 2000) (by omega) (by omega)
  have v2 := vx_bd ha hb hc hd (x := p - q) (y := r - s) (B := 2000) (by omega) (by omega)
  have v3 := vx_bd ha hb hc hd hq hs
  have v4 := vx_bd ha hb hc hd hp hr
  simp only [Int.reduceMul] at v1 v2 v3 v4
  omega
theorem vx_bd2 {a b c d x y A B : Int} (ha : -A ≤ a ∧ a ≤ A) (hb : -A ≤ b ∧ b ≤ A) (hc : -A ≤ c ∧ c ≤ A) (hd : -A ≤ d ∧ d ≤ A) (hx : -(2 * B) ≤ x ∧ x ≤ 2 * B) (hy : -(2 * B) ≤ y ∧ y ≤ 2 * B) (hAB : 32 * (A * B * B * B) ≤ 100000000000000) :
    -100000000000000 ≤ vx a b c d x y ∧ vx a b c d x y ≤ 100000000000000 := by
  have h := vx_bd ha hb hc hd hx hy
  have e : 4 * (A * (2 * B) * (2 * B) * (2 * B)) = 32 * (A * B * B * B) := by grind
  omega
/-- The discriminant, as a whole number. -/
def dx (a b c d : Int) : Int := b * b * c * c - 4 * a * c * c * c - 4 * b * b * b * d - 27 * a * a * d * d + 18 * a * b * c * d
theorem dsc_wr (a b c d : Int) : dsc a b c d = wrap64 (dx a b c d) := by
  simp only [dsc, pl, mi, mu, wr_al, wr_ar, wr_sl, wr_sr, wr_ml, dx]

end Go.Proofs.YtfibeifkmfnehaaDoor
