/- Chapter 1: greatest common divisors. -/
import Derived.Test.YteonkfgbjdhdaaaC1b
namespace Go.Proofs.Yteonkfgbjdhdaaa
open Go.RowKit

theorem gcd_step (x y : Int) : Int.gcd y (x.tmod y) = Int.gcd x y := by
  show Nat.gcd _ _ = Nat.gcd _ _
  rw [Int.natAbs_tmod, Nat.gcd_comm, ← Nat.gcd_rec, Nat.gcd_comm]
theorem tmod_abs (x y : Int) (hy : y ≠ 0) : (x.tmod y).natAbs < y.natAbs := by
  rw [Int.natAbs_tmod]; exact Nat.mod_lt _ (by omega)
theorem tmod_bd (x y : Int) (hy : y ≠ 0) (h1 : -1000000000000000000 ≤ y) (h2 : y ≤ 1000000000000000000) : -1000000000000000000 ≤ x.tmod y ∧ x.tmod y ≤ 1000000000000000000 := by
  have := tmod_abs x y hy
  generalize x.tmod y = t at *
  omega
theorem gcd_end {x m n : Int} (h : Int.gcd x 0 = Int.gcd m n) (hx : -x ≤ x) : x = (Int.gcd m n : Int) := by
  rw [← h, Int.gcd_zero_right]; omega
theorem gcd_end' {x m n : Int} (h : Int.gcd x 0 = Int.gcd m n) (hx : x < -x) : -x = (Int.gcd m n : Int) := by
  rw [← h, Int.gcd_zero_right]; omega





end Go.Proofs.Yteonkfgbjdhdaaa
