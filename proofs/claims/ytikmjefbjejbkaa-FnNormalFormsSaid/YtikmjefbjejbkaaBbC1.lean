/- Chapter 1: the contracts of the plain functions. -/
import Derived.Test.YtikmjefbjejbkaaBbZ1
namespace Go.Proofs.Ytikmjefbjejbkaa
open Go.RowKit

set_option maxHeartbeats 400000 in
theorem isWithin_any (n l : Int) (w : World) (h0 : 0 ≤ l) (h1 : l ≤ 1000000000000) :
    Calls Try.prog 132 #[.int .i64 n, .int .i64 l] w fun e w' => e = .returned (.bool (rng (-l) l n)) ∧ w = w' := by
  go_enter Try.func132, Try.ntmps132
  go_wp2
  all_goals (go_ret; exact ⟨ret_bool (by simp [rng]; try omega), rfl⟩)

set_option maxHeartbeats 400000 in
theorem l01In_any (n lo hi : Int) (w : World) :
    Calls Try.prog 96 #[.int .i64 n, .int .i64 lo, .int .i64 hi] w fun e w' => e = .returned (.bool (rng lo hi n)) ∧ w = w' := by
  go_enter Try.func96, Try.ntmps96
  go_wp2
  all_goals (go_ret; exact ⟨ret_bool (by simp [rng]; try omega), rfl⟩)

set_option maxHeartbeats 400000 in
theorem toForm_any (a b c d : Int) (w : World) :
    Calls Try.prog 12 #[.agg #[.int .i64 a, .int .i64 b, .int .i64 c, .int .i64 d]] w fun e w' => e = .returned (.agg #[.int .i64 a, .int .i64 b, .int .i64 c, .int .i64 d]) ∧ Below w.heap.size w w' := by
  go_enter Try.func12, Try.ntmps12
  go_wp2
  go_rounds 5
  go_returns
  exact ⟨rfl, by go_grown⟩

set_option maxHeartbeats 400000 in
theorem l01Is_any (a b c d : Int) (w : World) :
    Calls Try.prog 95 #[.agg #[.int .i64 a, .int .i64 b, .int .i64 c, .int .i64 d]] w fun e w' => e = .returned (.bool (isF a b c d)) ∧ Below w.heap.size w w' := by
  go_enter Try.func95, Try.ntmps95
  go_wp2
  go_rounds 5
  all_goals (go_ret; exact ⟨ret_bool (by apply isF_eq; go_light; simp at *; try omega), by go_grown⟩)

set_option maxHeartbeats 400000 in
theorem allWithin_any (k : Nat) (a b c d : Int) (w : World) (hA : Arr w k a b c d) :
    Calls Try.prog 102 #[.slice (some ⟨k, 0, none⟩) 4 4, .int .i64 1000] w fun e w' => e = .returned (.bool (isF a b c d)) ∧ w = w' := by
  obtain ⟨lt, c0, c1, c2, c3, _⟩ := hA
  go_enter Try.func102, Try.ntmps102
  go_wp2
  go_rounds 5
  all_goals (go_ret; exact ⟨ret_bool (by apply isF_eq; go_light; simp at *; try omega), rfl⟩)

end Go.Proofs.Ytikmjefbjejbkaa
