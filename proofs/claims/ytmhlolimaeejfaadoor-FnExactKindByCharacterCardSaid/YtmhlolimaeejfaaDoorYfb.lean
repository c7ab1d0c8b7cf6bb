/- Chapter 9: numbers with the rest 0 or 1 by 4. -/
import Derived.Test.YtmhlolimaeejfaaDoorYc
namespace Go.Proofs.YtmhlolimaeejfaaDoor
open Go.RowKit

/-- d has the rest 0 or 1 by 4. -/
def ftb (d : Int) : Bool := decide (d % 4 < 2)
theorem ftb_fts {d : Int} : ftb d = true ↔ Fts d := by
  unfold ftb Fts
  simp only [decide_eq_true_eq]
  omega

set_option maxHeartbeats 400000 in
theorem iFits_any (d : Int) (w : World) : Calls Tryd.prog 74 #[.int .i64 d] w fun e w' => e = .returned (.bool (ftb d)) ∧ w = w' := by
  go_enter Tryd.func74, Tryd.ntmps74
  go_wp2_with fail
  refine (restBy_any d 4 _ (by omega) (by omega)).mono ?_
  rintro e w1 ⟨rfl, rfl⟩
  go_wp2
  go_ret
  exact ⟨rfl, rfl⟩

set_option maxHeartbeats 400000 in
theorem sFits9_any (d : Int) (w : World) : Calls Tryd.prog 55 #[.int .i64 d] w fun e w' => e = .returned (.bool (ftb d)) ∧ w = w' := by
  obtain ⟨t3, t4⟩ := tmod_in d 4 (by omega)
  have R8 := hid (rest_eq d 4 (by omega)); have R8' := hid (rest_eq' d 4 (by omega))
  go_enter Tryd.func55, Tryd.ntmps55
  go_wp2
  go_ret
  exact ⟨ret_bool (by unfold ftb; first | rw [R8.out] | rw [R8'.out] | (have h := R8.out; rw [Int.add_emod_right] at h; rw [h])), rfl⟩



end Go.Proofs.YtmhlolimaeejfaaDoor
