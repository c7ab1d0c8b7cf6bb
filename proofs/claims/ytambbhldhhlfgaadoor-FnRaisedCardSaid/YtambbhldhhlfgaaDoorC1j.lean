/- Chapter 1: primitive parts of the program. -/
import Derived.Test.YtambbhldhhlfgaaDoorZ16
import Derived.Test.YtambbhldhhlfgaaDoorZ11
namespace Go.Proofs.YtambbhldhhlfgaaDoor
open Go.RowKit

set_option maxHeartbeats 1000000 in
theorem iDivided_any (a b c d k : Int) (w : World) (ha : -1000 ≤ a ∧ a ≤ 1000) (hb : -1000 ≤ b ∧ b ≤ 1000) (hc : -1000 ≤ c ∧ c ≤ 1000) (hd : -1000 ≤ d ∧ d ≤ 1000) (hk : 0 < k) (hk2 : k ≤ 1000) :
    Calls Tryd.prog 87 #[.agg #[.int .i64 a, .int .i64 b, .int .i64 c, .int .i64 d], .int .i64 k] w fun e w' => e = .returned (.agg #[.int .i64 (a.tdiv k), .int .i64 (b.tdiv k), .int .i64 (c.tdiv k), .int .i64 (d.tdiv k)]) ∧ Below w.heap.size w w' := by
  have hz' : (k == 0) = false := by simp; omega
  have R0 := Arr.new (w.alloc (.cells #[.int .i64 (a.tdiv k), .int .i64 (b.tdiv k), .int .i64 (c.tdiv k), .int .i64 (d.tdiv k)] 25)) (a.tdiv k) (b.tdiv k) (c.tdiv k) (d.tdiv k) 25
  simp only [World.size_alloc] at R0
  go_enter Tryd.func87, Tryd.ntmps87
  go_wp2
  go_rounds 5
  refine bodyPost_ret (res_A1 (e := 2) rfl Tryd.underlying25 (by kernel_rfl) rfl R0) rfl ?_
  exact ⟨rfl, by (repeat' (first | with_reducible exact Below.refl _ _ | with_reducible assumption | with_reducible refine gr_alloc ?_ _ | with_reducible refine gr_drew ?_ | with_reducible refine gr_drewN ?_ _ | with_reducible refine gr_trans ?_ (by assumption) | with_reducible refine gr_set ?_ ?_ _ | (simp; done) | omega | (simp; omega)))⟩



end Go.Proofs.YtambbhldhhlfgaaDoor
