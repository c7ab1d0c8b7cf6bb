/- Chapter 1: forms with given values at the base places. -/
import Derived.Test.YtmhlolimaeejfaaDoorZ15
import Derived.Deep.DeepCutAuto
namespace Go.Proofs.YtmhlolimaeejfaaDoor
open Go.RowKit
open Go.ChangeMaps (setBlock)

/-- What comes out: the numbers (0 if not whole), and whether they are whole. -/
def whole (a b c d : Int) : Bool := (c - d - 2 * b) % 2 == 0 && (c + d - 2 * a) % 2 == 0

theorem even_t {x : Int} (h : x % 2 = 0) : (x.tmod 2 != 0) = false := by
  obtain ⟨y, rfl⟩ : ∃ y, x = 2 * y := ⟨x / 2, by omega⟩
  simp [Int.mul_tmod_right]
theorem odd_t {x : Int} (h : ¬ x % 2 = 0) : (x.tmod 2 != 0) = true := by
  have : x.tmod 2 ≠ 0 := fun e => h (Int.emod_eq_zero_of_dvd (Int.dvd_of_tmod_eq_zero e))
  simp [this]
theorem half_e {x y : Int} (h : x = 2 * y) : x.tdiv 2 = y := by
  rw [h]; exact Int.mul_tdiv_cancel_left y (by decide)



end Go.Proofs.YtmhlolimaeejfaaDoor
