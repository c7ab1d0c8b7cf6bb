/- The sign of the discriminant. -/
import Derived.Test.YtikmjefbjejbkaaBbZ5
namespace Go.Proofs.Ytikmjefbjejbkaa
open Go.RowKit

def sg (x : Int) : Int := if 0 < x then 1 else if x < 0 then -1 else 0

set_option maxHeartbeats 400000 in
theorem iSign_any (a b c d : Int) (w : World) :
    Calls Try.prog 74 #[.agg #[.int .i64 a, .int .i64 b, .int .i64 c, .int .i64 d]] w fun e w' => e = .returned (.int .i64 (sg (dsc a b c d))) ∧ Below w.heap.size w w' := by
  have hc := fun W => iDisc0_any a b c d W
  generalize dsc a b c d = x at hc ⊢
  have HC := hid hc
  clear hc
  go_enter Try.func74, Try.ntmps74
  go_wp2_with fail
  refine (HC.out _).mono ?_
  rintro e w1 ⟨rfl, hb1⟩
  go_wp2
  all_goals (go_ret; exact ⟨ret_int (by go_light; simp only [sg]; split <;> (try split) <;> omega), by (repeat' (first | with_reducible exact Below.refl _ _ | with_reducible assumption | with_reducible refine gr_alloc ?_ _ | with_reducible refine gr_drew ?_ | with_reducible refine gr_drewN ?_ _ | with_reducible refine gr_trans ?_ (by assumption) | with_reducible refine gr_set ?_ ?_ _ | (simp; done) | omega | (simp; omega)))⟩)



end Go.Proofs.Ytikmjefbjejbkaa
