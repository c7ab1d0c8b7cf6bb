/- Chapter 10: forms told by two numbers and a discriminant; reduced forms. -/
import Derived.Test.YtmhlolimaeejfaaZb
import Derived.Test.YtmhlolimaeejfaaMath
import Derived.Deep.QuietTactic
import Derived.BigQuiet
namespace Go.Proofs.Ytmhlolimaeejfaa
open Go.RowKit

/-- The third number of p, q with the discriminant d. -/
def thd (p q d : Int) : Int := (q * q - d).tdiv (4 * p)



/-- Reduced, of a form whose Q is in its range. -/
def rdb (a b c : Int) : Bool := decide (a < c) || (decide (a = c) && decide (0 ≤ b))
theorem dq_in {a b c : Int} (h1 : -1000000000000000000 ≤ b * b ∧ b * b ≤ 1000000000000000000) (h2 : -2000000000000000000 ≤ 4 * a * c ∧ 4 * a * c ≤ 2000000000000000000) : dq a b c = b * b - 4 * a * c := by
  simp only [dq, mi, mu, wr_ml, wr_sl, wr_sr]
  exact wr_in (by omega)
theorem gcd_b {m n B : Int} (hm : -B ≤ m ∧ m ≤ B) (hn : -B ≤ n ∧ n ≤ B) : 0 ≤ (Int.gcd m n : Int) ∧ (Int.gcd m n : Int) ≤ B := by
  refine ⟨by omega, ?_⟩
  rcases Nat.eq_zero_or_pos m.natAbs with h | h
  · have : Int.gcd m n = n.natAbs := by unfold Int.gcd; rw [h, Nat.gcd_zero_left]
    omega
  · have := Nat.gcd_le_left n.natAbs h
    unfold Int.gcd; omega

end Go.Proofs.Ytmhlolimaeejfaa
