/- Several texts in one: XC1, XC1b. -/
import Derived.Test.YtambbhldhhlfgaaDoorFkZ1

/- Chapter 1: the contracts of the plain functions. -/
namespace Go.Proofs.YtambbhldhhlfgaaDoor
open Go.RowKit

set_option maxHeartbeats 400000 in
theorem isWithin_any (n l : Int) (w : World) (h0 : 0 ≤ l) (h1 : l ≤ 1000000000000) :
    Calls Tryd.prog 174 #[.int .i64 n, .int .i64 l] w fun e w' => e = .returned (.bool (rng (-l) l n)) ∧ w = w' := by
  go_enter Tryd.func174, Tryd.ntmps174
  go_wp2
  all_goals (go_ret; exact ⟨ret_bool (by simp [rng]; try omega), rfl⟩)

set_option maxHeartbeats 400000 in
theorem l01In_any (n lo hi : Int) (w : World) :
    Calls Tryd.prog 77 #[.int .i64 n, .int .i64 lo, .int .i64 hi] w fun e w' => e = .returned (.bool (rng lo hi n)) ∧ w = w' := by
  go_enter Tryd.func77, Tryd.ntmps77
  go_wp2
  all_goals (go_ret; exact ⟨ret_bool (by simp [rng]; try omega), rfl⟩)



set_option maxHeartbeats 400000 in
theorem l01Is_any (a b c d : Int) (w : World) :
    Calls Tryd.prog 133 #[.agg #[.int .i64 a, .int .i64 b, .int .i64 c, .int .i64 d]] w fun e w' => e = .returned (.bool (isF a b c d)) ∧ Below w.heap.size w w' := by
  go_enter Tryd.func133, Tryd.ntmps133
  go_wp2
  go_rounds 5
  all_goals (go_ret; exact ⟨ret_bool (by apply isF_eq; go_light; simp at *; try omega), by go_grown⟩)

set_option maxHeartbeats 400000 in
theorem allWithin_any (k : Nat) (a b c d : Int) (w : World) (hA : Arr w k a b c d) :
    Calls Tryd.prog 158 #[.slice (some ⟨k, 0, none⟩) 4 4, .int .i64 1000] w fun e w' => e = .returned (.bool (isF a b c d)) ∧ w = w' := by
  obtain ⟨lt, c0, c1, c2, c3, _⟩ := hA
  go_enter Tryd.func158, Tryd.ntmps158
  go_wp2
  go_rounds 5
  all_goals (go_ret; exact ⟨ret_bool (by apply isF_eq; go_light; simp at *; try omega), rfl⟩)

end Go.Proofs.YtambbhldhhlfgaaDoor

/- Chapter 1: the contracts of the functions that only look or reckon. -/
namespace Go.Proofs.YtambbhldhhlfgaaDoor
open Go.RowKit

set_option maxHeartbeats 400000 in
theorem iIsForm_any (a b c d : Int) (w : World) :
    Calls Tryd.prog 91 #[.agg #[.int .i64 a, .int .i64 b, .int .i64 c, .int .i64 d]] w fun e w' => e = .returned (.bool (isF a b c d)) ∧ Below w.heap.size w w' := by
  go_enter Tryd.func91, Tryd.ntmps91
  go_wp2_with fail
  refine (allWithin_any _ a b c d _ (Arr.new _ _ _ _ _ _)).mono ?_
  rintro e w1 ⟨rfl, rfl⟩
  go_wp2
  go_ret
  exact ⟨rfl, by go_grown⟩

set_option maxHeartbeats 400000 in
theorem iIsMatrix_any (a b c d : Int) (w : World) :
    Calls Tryd.prog 131 #[.agg #[.int .i64 a, .int .i64 b, .int .i64 c, .int .i64 d]] w fun e w' => e = .returned (.bool (isF a b c d)) ∧ Below w.heap.size w w' := by
  go_enter Tryd.func131, Tryd.ntmps131
  go_wp2_with fail
  refine (allWithin_any _ a b c d _ (Arr.new _ _ _ _ _ _)).mono ?_
  rintro e w1 ⟨rfl, rfl⟩
  go_wp2
  go_ret
  exact ⟨rfl, by go_grown⟩



end Go.Proofs.YtambbhldhhlfgaaDoor
