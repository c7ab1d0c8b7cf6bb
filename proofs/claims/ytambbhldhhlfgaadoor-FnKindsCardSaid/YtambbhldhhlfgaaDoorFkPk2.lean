/- Chapter 5: counts of kinds, the program's: kinds behind an interface. -/
import Derived.Test.YtambbhldhhlfgaaDoorFkPk
import Derived.Test.YtambbhldhhlfgaaDoorFkNum
namespace Go.Proofs.YtambbhldhhlfgaaDoor
open Go.RowKit

set_option maxHeartbeats 400000 in
theorem zkCount_any (p : Int) (w : World) : Calls Tryd.prog 210 #[.agg #[], .int .i64 p] w fun e w' => e = .returned (.int .i64 (ckv p 0)) ∧ Below w.heap.size w w' := by
  go_enter Tryd.func210, Tryd.ntmps210
  go_wp2
  go_ret
  exact ⟨ret_int (by simp [ckv]), by (repeat' (first | with_reducible exact Below.refl _ _ | with_reducible assumption | with_reducible refine gr_alloc ?_ _ | with_reducible refine gr_drew ?_ | with_reducible refine gr_drewN ?_ _ | with_reducible refine gr_trans ?_ (by assumption) | with_reducible refine gr_set ?_ ?_ _ | (simp; done) | omega | (simp; omega)))⟩

set_option maxHeartbeats 400000 in
theorem skCount_any (n p : Int) (w : World) (h2 : 2 ≤ p) (h97 : p ≤ 97) (hn : n = 3 ∨ n = 1 ∨ n = 0) : Calls Tryd.prog 214 #[.agg #[.int .i64 n], .int .i64 p] w fun e w' => e = .returned (.int .i64 (ckv p (if n = 3 then 1 else if n = 1 then 2 else 3))) ∧ Below w.heap.size w w' := by
  obtain ⟨⟨a1, a2⟩, ⟨b1, b2⟩, c1, c2⟩ := ck_bd h2 h97
  rcases hn with rfl | rfl | rfl
  all_goals
    go_enter Tryd.func214, Tryd.ntmps214
    go_wp2
    go_ret
    exact ⟨ret_int (by simp [ckv]), by (repeat' (first | with_reducible exact Below.refl _ _ | with_reducible assumption | with_reducible refine gr_alloc ?_ _ | with_reducible refine gr_drew ?_ | with_reducible refine gr_drewN ?_ _ | with_reducible refine gr_trans ?_ (by assumption) | with_reducible refine gr_set ?_ ?_ _ | (simp; done) | omega | (simp; omega)))⟩

set_option maxHeartbeats 400000 in
theorem rkCount_any (n p : Int) (w : World) (h2 : 2 ≤ p) (h97 : p ≤ 97) (hn : n = 2 ∨ n = 3) : Calls Tryd.prog 212 #[.agg #[.int .i64 n], .int .i64 p] w fun e w' => e = .returned (.int .i64 (ckv p (if n = 2 then 4 else 5))) ∧ Below w.heap.size w w' := by
  obtain ⟨⟨a1, a2⟩, ⟨b1, b2⟩, c1, c2⟩ := ck_bd h2 h97
  rcases hn with rfl | rfl
  all_goals
    go_enter Tryd.func212, Tryd.ntmps212
    go_wp2
    go_ret
    exact ⟨ret_int (by simp [ckv]), by (repeat' (first | with_reducible exact Below.refl _ _ | with_reducible assumption | with_reducible refine gr_alloc ?_ _ | with_reducible refine gr_drew ?_ | with_reducible refine gr_drewN ?_ _ | with_reducible refine gr_trans ?_ (by assumption) | with_reducible refine gr_set ?_ ?_ _ | (simp; done) | omega | (simp; omega)))⟩

set_option maxHeartbeats 400000 in
theorem allKinds_any (w : World) : Calls Tryd.prog 145 #[] w fun e w' => e = .returned (.slice (some ⟨w.heap.size, 0, none⟩) 6 6) ∧ Bx w' w.heap.size #[.iface 173 (.agg #[]), .iface 177 (.agg #[.int .i64 3]), .iface 177 (.agg #[.int .i64 1]), .iface 177 (.agg #[.int .i64 0]), .iface 175 (.agg #[.int .i64 2]), .iface 175 (.agg #[.int .i64 3])] 132 ∧ Below w.heap.size w w' := by
  go_enter Tryd.func145, Tryd.ntmps145
  go_wp2
  go_ret
  exact ⟨rfl, Bx.new _ _ _, by (repeat' (first | with_reducible exact Below.refl _ _ | with_reducible assumption | with_reducible refine gr_alloc ?_ _ | with_reducible refine gr_drew ?_ | with_reducible refine gr_drewN ?_ _ | with_reducible refine gr_trans ?_ (by assumption) | with_reducible refine gr_set ?_ ?_ _ | (simp; done) | omega | (simp; omega)))⟩


end Go.Proofs.YtambbhldhhlfgaaDoor
