/- Chapter 5: counts of kinds, the program's: kinds behind an interface. -/
import Derived.Test.YthheongdgcfngaaDoorPk
import Derived.Test.YthheongdgcfngaaDoorNum
namespace Go.Proofs.YthheongdgcfngaaDoor
open Go.RowKit

set_option maxHeartbeats 400000 in
theorem zkCount_any (p : Int) (w : World) : Calls Tryd.prog 119 #[.agg #[], .int .i64 p] w fun e w' => e = .returned (.int .i64 (ckv p 0)) ∧ Below w.heap.size w w' := by
  go_enter Tryd.func119, Tryd.ntmps119
  go_wp2
  go_ret
  exact ⟨ret_int (by simp [ckv]), by (repeat' (first | with_reducible exact Below.refl _ _ | with_reducible assumption | with_reducible refine gr_alloc ?_ _ | with_reducible refine gr_drew ?_ | with_reducible refine gr_drewN ?_ _ | with_reducible refine gr_trans ?_ (by assumption) | with_reducible refine gr_set ?_ ?_ _ | (simp; done) | omega | (simp; omega)))⟩

set_option maxHeartbeats 400000 in
theorem skCount_any (n p : Int) (w : World) (h2 : 2 ≤ p) (h97 : p ≤ 97) (hn : n = 3 ∨ n = 1 ∨ n = 0) : Calls Tryd.prog 123 #[.agg #[.int .i64 n], .int .i64 p] w fun e w' => e = .returned (.int .i64 (ckv p (if n = 3 then 1 else if n = 1 then 2 else 3))) ∧ Below w.heap.size w w' := by
  obtain ⟨⟨a1, a2⟩, ⟨b1, b2⟩, c1, c2⟩ := ck_bd h2 h97
  rcases hn with rfl | rfl | rfl
  all_goals
    go_enter Tryd.func123, Tryd.ntmps123
    go_wp2
    go_ret
    exact ⟨ret_int (by simp [ckv]), by (repeat' (first | with_reducible exact Below.refl _ _ | with_reducible assumption | with_reducible refine gr_alloc ?_ _ | with_reducible refine gr_drew ?_ | with_reducible refine gr_drewN ?_ _ | with_reducible refine gr_trans ?_ (by assumption) | with_reducible refine gr_set ?_ ?_ _ | (simp; done) | omega | (simp; omega)))⟩

set_option maxHeartbeats 400000 in
theorem rkCount_any (n p : Int) (w : World) (h2 : 2 ≤ p) (h97 : p ≤ 97) (hn : n = 2 ∨ n = 3) : Calls Tryd.prog 121 #[.agg #[.int .i64 n], .int .i64 p] w fun e w' => e = .returned (.int .i64 (ckv p (if n = 2 then 4 else 5))) ∧ Below w.heap.size w w' := by
  obtain ⟨⟨a1, a2⟩, ⟨b1, b2⟩, c1, c2⟩ := ck_bd h2 h97
  rcases hn with rfl | rfl
  all_goals
    go_enter Tryd.func121, Tryd.ntmps121
    go_wp2
    go_ret
    exact ⟨ret_int (by simp [ckv]), by (repeat' (first | with_reducible exact Below.refl _ _ | with_reducible assumption | with_reducible refine gr_alloc ?_ _ | with_reducible refine gr_drew ?_ | with_reducible refine gr_drewN ?_ _ | with_reducible refine gr_trans ?_ (by assumption) | with_reducible refine gr_set ?_ ?_ _ | (simp; done) | omega | (simp; omega)))⟩

set_option maxHeartbeats 400000 in
theorem allKinds_any (w : World) : Calls Tryd.prog 48 #[] w fun e w' => e = .returned (.slice (some ⟨w.heap.size, 0, none⟩) 6 6) ∧ Bx w' w.heap.size #[.iface 98 (.agg #[]), .iface 102 (.agg #[.int .i64 3]), .iface 102 (.agg #[.int .i64 1]), .iface 102 (.agg #[.int .i64 0]), .iface 100 (.agg #[.int .i64 2]), .iface 100 (.agg #[.int .i64 3])] 53 ∧ Below w.heap.size w w' := by
  go_enter Tryd.func48, Tryd.ntmps48
  go_wp2
  go_ret
  exact ⟨rfl, Bx.new _ _ _, by (repeat' (first | with_reducible exact Below.refl _ _ | with_reducible assumption | with_reducible refine gr_alloc ?_ _ | with_reducible refine gr_drew ?_ | with_reducible refine gr_drewN ?_ _ | with_reducible refine gr_trans ?_ (by assumption) | with_reducible refine gr_set ?_ ?_ _ | (simp; done) | omega | (simp; omega)))⟩


end Go.Proofs.YthheongdgcfngaaDoor
