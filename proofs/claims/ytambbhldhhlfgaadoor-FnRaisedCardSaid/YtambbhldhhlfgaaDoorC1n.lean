/- Chapter 1: sums of forms, whole. -/
import Derived.Test.YtambbhldhhlfgaaDoorZ11
namespace Go.Proofs.YtambbhldhhlfgaaDoor
open Go.RowKit

/-- The code of a form of the result. -/
def lim (a b c d : Int) : Int := if isF a b c d then 0 else 3
def addc (a b c d p q r s k : Int) : Int := if isF a b c d && isF p q r s then (if rng (-1000) 1000 k then lim (am a k p) (am b k q) (am c k r) (am d k s) else 2) else 1
theorem am_def (x k y : Int) : am x k y = wrap64 (x + wrap64 (k * y)) := rfl

set_option maxHeartbeats 400000 in
theorem iWithin_any (a b c d : Int) (w : World) :
    Calls Tryd.prog 123 #[.agg #[.int .i64 a, .int .i64 b, .int .i64 c, .int .i64 d]] w fun e w' => e = .returned (.tuple #[.agg #[.int .i64 (if0 (lim a b c d) a), .int .i64 (if0 (lim a b c d) b), .int .i64 (if0 (lim a b c d) c), .int .i64 (if0 (lim a b c d) d)], .int .i64 (lim a b c d)]) ∧ Below w.heap.size w w' := by
  go_enter Tryd.func123, Tryd.ntmps123
  go_wp2_with fail
  refine (iIsForm_any a b c d _).mono ?_
  rintro e w1 ⟨rfl, hb1⟩
  obtain ⟨_, c0, c1, c2, c3, _⟩ := ((Arr.new w a b c d 25).alloc (.cells #[.int .i64 0, .int .i64 0, .int .i64 0, .int .i64 0] 25)).next hb1
  have R1 := (Arr.new (w.alloc (.cells #[.int .i64 a, .int .i64 b, .int .i64 c, .int .i64 d] 25)) 0 0 0 0 25).next hb1
  simp only [World.size_alloc] at R1
  obtain ⟨_, r0, r1, r2, r3, f0, f1, f2, f3⟩ := id R1
  go_wp2
  all_goals (refine bodyPost_ret (res_A (e := 2) rfl Tryd.underlying25 (by kernel_rfl) rfl (by (repeat (first | with_reducible assumption | with_reducible exact Arr.box (by assumption) | with_reducible apply Arr.drew | with_reducible apply Arr.drewN | with_reducible refine Arr.store4 ?_ | with_reducible apply Arr.alloc | with_reducible refine Box.drew ?_ | with_reducible refine Box.drewN ?_ _ | with_reducible refine Box.alloc ?_ _ | refine Arr.oth ?_ (by first | (simp; done) | omega | (simp; omega)) _ | refine Box.oth ?_ (by first | (simp; done) | omega | (simp; omega)) _)))) rfl ?_; exact ⟨ret_form (by go_light; simp_all [if0, lim]) (by go_light; simp_all [if0, lim]) (by go_light; simp_all [if0, lim]) (by go_light; simp_all [if0, lim]) (by go_light; simp_all [lim]), by (repeat' (first | with_reducible exact Below.refl _ _ | with_reducible assumption | with_reducible refine gr_alloc ?_ _ | with_reducible refine gr_drew ?_ | with_reducible refine gr_drewN ?_ _ | with_reducible refine gr_trans ?_ (by assumption) | with_reducible refine gr_set ?_ ?_ _ | (simp; done) | omega | (simp; omega)))⟩)

set_option maxHeartbeats 400000 in
theorem l01Fits_any (a b c d : Int) (w : World) :
    Calls Tryd.prog 93 #[.agg #[.int .i64 a, .int .i64 b, .int .i64 c, .int .i64 d]] w fun e w' => e = .returned (.bool (isF a b c d)) ∧ Below w.heap.size w w' := by
  go_enter Tryd.func93, Tryd.ntmps93
  go_wp2_with fail
  refine (l01Is_any a b c d _).mono ?_
  rintro e w1 ⟨rfl, hb1⟩
  go_wp2
  go_ret
  exact ⟨rfl, by (repeat' (first | with_reducible exact Below.refl _ _ | with_reducible assumption | with_reducible refine gr_alloc ?_ _ | with_reducible refine gr_drew ?_ | with_reducible refine gr_drewN ?_ _ | with_reducible refine gr_trans ?_ (by assumption) | with_reducible refine gr_set ?_ ?_ _ | (simp; done) | omega | (simp; omega)))⟩



end Go.Proofs.YtambbhldhhlfgaaDoor
