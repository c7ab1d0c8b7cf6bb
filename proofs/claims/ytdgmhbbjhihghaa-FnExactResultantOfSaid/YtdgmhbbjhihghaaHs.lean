/- Chapter 2: the Hessian of the program. -/
import Derived.Test.YtdgmhbbjhihghaaC1
import Derived.Test.YtdgmhbbjhihghaaMath
namespace Go.Proofs.Ytdgmhbbjhihghaa
open Go.RowKit

def isR (a b c d : Int) : Bool := rng (-100) 100 a && rng (-100) 100 b && rng (-100) 100 c && rng (-100) 100 d
theorem isR_t {a b c d : Int} (h : isR a b c d = true) : (-100 ≤ a ∧ a ≤ 100) ∧ (-100 ≤ b ∧ b ≤ 100) ∧ (-100 ≤ c ∧ c ≤ 100) ∧ (-100 ≤ d ∧ d ≤ 100) := by
  simp only [isR, Bool.and_eq_true] at h
  exact ⟨rng_t h.1.1.1, rng_t h.1.1.2, rng_t h.1.2, rng_t h.2⟩
theorem isR_eq {a b c d : Int} {r : Bool} (h : r = true ↔ (-100 ≤ a ∧ a ≤ 100) ∧ (-100 ≤ b ∧ b ≤ 100) ∧ (-100 ≤ c ∧ c ≤ 100) ∧ (-100 ≤ d ∧ d ≤ 100)) : r = isR a b c d := by
  rw [Bool.eq_iff_iff, h]
  exact ⟨fun ⟨p, q, r, s⟩ => by simp [isR, rng_mk p.1 p.2, rng_mk q.1 q.2, rng_mk r.1 r.2, rng_mk s.1 s.2], isR_t⟩

set_option maxHeartbeats 400000 in
theorem allWithin100_any (k : Nat) (a b c d : Int) (w : World) (hA : Arr w k a b c d) :
    Calls Try.prog 11 #[.slice (some ⟨k, 0, none⟩) 4 4, .int .i64 100] w fun e w' => e = .returned (.bool (isR a b c d)) ∧ w = w' := by
  obtain ⟨lt, c0, c1, c2, c3, _⟩ := hA
  go_enter Try.func11, Try.ntmps11
  go_wp2
  go_rounds 5
  all_goals (go_ret; exact ⟨ret_bool (by apply isR_eq; go_light; simp at *; try omega), rfl⟩)

/-- The three numbers of the Hessian. -/
def hs1 (a b c : Int) : Int := b * b - 3 * a * c
def hs2 (a b c d : Int) : Int := b * c - 9 * a * d
def hs3 (b c d : Int) : Int := c * c - 3 * b * d



end Go.Proofs.Ytdgmhbbjhihghaa
