/- Chapter 9: signatures, groups, leading forms, pure fields. -/
import Derived.Test.YtmhlolimaeejfaaDoorYk
namespace Go.Proofs.YtmhlolimaeejfaaDoor
open Go.RowKit

theorem dx_b9 {a b c d A : Int} (ha : -A ≤ a ∧ a ≤ A) (hb : -A ≤ b ∧ b ≤ A) (hc : -A ≤ c ∧ c ≤ A) (hd : -A ≤ d ∧ d ≤ A) : -(54 * (A * A * A * A)) ≤ dx a b c d ∧ dx a b c d ≤ 54 * (A * A * A * A) := by
  have h1 := mulb4 hb hb hc hc
  have h2 := mulb4 ha hc hc hc
  have h3 := mulb4 hb hb hb hd
  have h4 := mulb4 ha ha hd hd
  have h5 := mulb4 ha hb hc hd
  have e : dx a b c d = b * b * c * c - 4 * (a * c * c * c) - 4 * (b * b * b * d) - 27 * (a * a * d * d) + 18 * (a * b * c * d) := by
    unfold dx; grind
  omega
theorem dsc_b9 {a b c d : Int} (h : isF a b c d = true) : dsc a b c d = dx a b c d ∧ -54000000000000 ≤ dsc a b c d ∧ dsc a b c d ≤ 54000000000000 := by
  obtain ⟨ha, hb, hc, hd⟩ := isF_t h
  have h1 := dx_b9 ha hb hc hd
  simp only [Int.reduceMul] at h1
  have e : dsc a b c d = dx a b c d := by rw [dsc_wr]; exact wr_in (by omega)
  rw [e]
  exact ⟨rfl, by omega, by omega⟩

/-- The signature, 0 where the code is not 0. -/
def sgA (k D : Int) : Int := if k = 0 then (if 0 < D then 3 else 1) else 0
def sgB (k D : Int) : Int := if k = 0 then (if 0 < D then 0 else 1) else 0
def grO (k D : Int) : Int := if k = 0 then (if sqb D then 3 else 6) else 0
def puB (k D : Int) : Bool := decide (k = 0) && sqb (-3 * D)
theorem sg_pos {x : Int} : decide (0 < sg x) = decide (0 < x) := by
  unfold sg; split
  · simp; omega
  · split <;> simp <;> omega









theorem ret_bi {x y : Bool} {k k' : Int} (h : x = y) (h' : k = k') : Ending.returned (.tuple #[.bool x, .int .i64 k]) = .returned (.tuple #[.bool y, .int .i64 k']) := by rw [h, h']





/-- The code of the leading form. -/
def ldc (k a b c d : Int) : Int := if k = 0 then (if isF 1 b (mu a c) (mu (mu a a) d) then 0 else 3) else k
theorem ldc_k {k a b c d : Int} (h : ¬ k = 0) : ldc k a b c d = k := by simp [ldc, h]
theorem ldc_0 {a b c d : Int} (h : isF 1 b (mu a c) (mu (mu a a) d) = true) : ldc 0 a b c d = 0 := by simp [ldc, h]
theorem ldc_3 {a b c d : Int} (h : isF 1 b (mu a c) (mu (mu a a) d) = false) : ldc 0 a b c d = 3 := by simp [ldc, h]






end Go.Proofs.YtmhlolimaeejfaaDoor
