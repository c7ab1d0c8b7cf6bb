/- Chapter 1: changed forms of the program and of the model, whole. -/
import Derived.Test.YtmhlolimaeejfaaC1u
import Derived.Test.YtmhlolimaeejfaaCh
import Derived.Deep.DeepCutAuto
import Derived.Deep.RegionHeld3
namespace Go.Proofs.Ytmhlolimaeejfaa
open Go.RowKit

/-- The code of a changed form. -/
def chc (a b c d p q r s : Int) : Int := if isF a b c d && isF p q r s then (if isF (cA a b c d p r) (cB a b c d p q r s) (cC a b c d p q r s) (cA a b c d q s) then 0 else 3) else 1

set_option maxHeartbeats 400000 in
theorem iLimit_any (a b c d : Int) (w : World) :
    Calls Try.prog 117 #[.agg #[.int .i64 a, .int .i64 b, .int .i64 c, .int .i64 d]] w fun e w' => e = .returned (.tuple #[.agg #[.int .i64 (ifF a b c d a), .int .i64 (ifF a b c d b), .int .i64 (ifF a b c d c), .int .i64 (ifF a b c d d)], .int .i64 ((if isF a b c d then 0 else 3))]) ∧ Below w.heap.size w w' := by
  go_enter Try.func117, Try.ntmps117
  go_wp2_with fail
  refine (iIsForm_any a b c d _).mono ?_
  rintro e w1 ⟨rfl, hb1⟩
  have A1 := ((Arr.new w a b c d 23).alloc (.cells #[.int .i64 0, .int .i64 0, .int .i64 0, .int .i64 0] 23)).next hb1
  have R1 := (Arr.new (w.alloc (.cells #[.int .i64 a, .int .i64 b, .int .i64 c, .int .i64 d] 23)) 0 0 0 0 23).next hb1
  simp only [World.size_alloc] at R1
  obtain ⟨_, c0, c1, c2, c3, _⟩ := id A1
  obtain ⟨_, r0, r1, r2, r3, f0, f1, f2, f3⟩ := id R1
  go_wp2
  all_goals (refine bodyPost_ret (res_A (e := 2) rfl Try.underlying23 (by kernel_rfl) rfl (by (repeat (first | with_reducible assumption | with_reducible exact Arr.box (by assumption) | with_reducible apply Arr.drew | with_reducible apply Arr.drewN | with_reducible refine Arr.store4 ?_ | with_reducible apply Arr.alloc | with_reducible refine Box.drew ?_ | with_reducible refine Box.drewN ?_ _ | with_reducible refine Box.alloc ?_ _ | refine Arr.oth ?_ (by first | (simp; done) | omega | (simp; omega)) _ | refine Box.oth ?_ (by first | (simp; done) | omega | (simp; omega)) _)))) rfl ?_; exact ⟨ret_form (by go_light; simp_all [ifF]) (by go_light; simp_all [ifF]) (by go_light; simp_all [ifF]) (by go_light; simp_all [ifF]) (by go_light; simp_all), by (repeat' (first | with_reducible exact Below.refl _ _ | with_reducible assumption | with_reducible refine gr_alloc ?_ _ | with_reducible refine gr_drew ?_ | with_reducible refine gr_drewN ?_ _ | with_reducible refine gr_trans ?_ (by assumption) | with_reducible refine gr_set ?_ ?_ _ | (simp; done) | omega | (simp; omega)))⟩)

set_option maxHeartbeats 400000 in
theorem sFits_any (a b c d : Int) (w : World) :
    Calls Try.prog 99 #[.agg #[.int .i64 a, .int .i64 b, .int .i64 c, .int .i64 d]] w fun e w' => e = .returned (.bool (isF a b c d)) ∧ Below w.heap.size w w' := by
  go_enter Try.func99, Try.ntmps99
  go_wp2_with fail
  refine (l01Is_any a b c d _).mono ?_
  rintro e w1 ⟨rfl, hb1⟩
  go_wp2
  go_ret
  exact ⟨rfl, by (repeat' (first | with_reducible exact Below.refl _ _ | with_reducible assumption | with_reducible refine gr_alloc ?_ _ | with_reducible refine gr_drew ?_ | with_reducible refine gr_drewN ?_ _ | with_reducible refine gr_trans ?_ (by assumption) | with_reducible refine gr_set ?_ ?_ _ | (simp; done) | omega | (simp; omega)))⟩





end Go.Proofs.Ytmhlolimaeejfaa
