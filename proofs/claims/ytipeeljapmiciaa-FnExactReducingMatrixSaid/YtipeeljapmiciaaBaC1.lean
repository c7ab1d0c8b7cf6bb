/- Chapter 1: the contracts of the plain functions. -/
import Derived.Test.YtipeeljapmiciaaBaZ1
namespace Go.Proofs.Ytipeeljapmiciaa
open Go.RowKit

set_option maxHeartbeats 400000 in
theorem isWithin_any (n l : Int) (w : World) (h0 : 0 ≤ l) (h1 : l ≤ 1000000000000) :
    Calls Try.prog 106 #[.int .i64 n, .int .i64 l] w fun e w' => e = .returned (.bool (rng (-l) l n)) ∧ w = w' := by
  go_enter Try.func106, Try.ntmps106
  go_wp2
  all_goals (go_ret; exact ⟨ret_bool (by simp [rng]; try omega), rfl⟩)

set_option maxHeartbeats 400000 in
theorem l01In_any (n lo hi : Int) (w : World) :
    Calls Try.prog 70 #[.int .i64 n, .int .i64 lo, .int .i64 hi] w fun e w' => e = .returned (.bool (rng lo hi n)) ∧ w = w' := by
  go_enter Try.func70, Try.ntmps70
  go_wp2
  all_goals (go_ret; exact ⟨ret_bool (by simp [rng]; try omega), rfl⟩)

set_option maxHeartbeats 400000 in
theorem toForm_any (a b c d : Int) (w : World) :
    Calls Try.prog 13 #[.agg #[.int .i64 a, .int .i64 b, .int .i64 c, .int .i64 d]] w fun e w' => e = .returned (.agg #[.int .i64 a, .int .i64 b, .int .i64 c, .int .i64 d]) ∧ Below w.heap.size w w' := by
  go_enter Try.func13, Try.ntmps13
  go_wp2
  go_rounds 5
  go_returns
  exact ⟨rfl, by go_grown⟩

set_option maxHeartbeats 400000 in
theorem l01Is_any (a b c d : Int) (w : World) :
    Calls Try.prog 69 #[.agg #[.int .i64 a, .int .i64 b, .int .i64 c, .int .i64 d]] w fun e w' => e = .returned (.bool (isF a b c d)) ∧ Below w.heap.size w w' := by
  go_enter Try.func69, Try.ntmps69
  go_wp2
  go_rounds 5
  all_goals (go_ret; exact ⟨ret_bool (by apply isF_eq; go_light; simp at *; try omega), by go_grown⟩)

set_option maxHeartbeats 400000 in
theorem allWithin_any (k : Nat) (a b c d : Int) (w : World) (hA : Arr w k a b c d) :
    Calls Try.prog 86 #[.slice (some ⟨k, 0, none⟩) 4 4, .int .i64 1000] w fun e w' => e = .returned (.bool (isF a b c d)) ∧ w = w' := by
  obtain ⟨lt, c0, c1, c2, c3, _⟩ := hA
  go_enter Try.func86, Try.ntmps86
  go_wp2
  go_rounds 5
  all_goals (go_ret; exact ⟨ret_bool (by apply isF_eq; go_light; simp at *; try omega), rfl⟩)

end Go.Proofs.Ytipeeljapmiciaa
