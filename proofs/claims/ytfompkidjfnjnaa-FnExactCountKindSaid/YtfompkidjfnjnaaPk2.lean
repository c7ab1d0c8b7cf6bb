/- Chapter 5: counts of kinds, the program's: kinds behind an interface. -/
import Derived.Test.YtfompkidjfnjnaaPk
namespace Go.Proofs.Ytfompkidjfnjnaa
open Go.RowKit

set_option maxHeartbeats 400000 in
theorem zkNumber_any (w : World) : Calls Try.prog 47 #[.agg #[]] w fun e w' => e = .returned (.int .i64 0) ∧ Below w.heap.size w w' := by
  go_enter Try.func47, Try.ntmps47
  go_wp2
  go_ret
  exact ⟨rfl, by (repeat' (first | with_reducible exact Below.refl _ _ | with_reducible assumption | with_reducible refine gr_alloc ?_ _ | with_reducible refine gr_drew ?_ | with_reducible refine gr_drewN ?_ _ | with_reducible refine gr_trans ?_ (by assumption) | with_reducible refine gr_set ?_ ?_ _ | (simp; done) | omega | (simp; omega)))⟩

set_option maxHeartbeats 400000 in
theorem skNumber_any (n : Int) (w : World) : Calls Try.prog 49 #[.agg #[.int .i64 n]] w fun e w' => e = .returned (.int .i64 (if n = 3 then 1 else if n = 1 then 2 else 3)) ∧ Below w.heap.size w w' := by
  go_enter Try.func49, Try.ntmps49
  go_wp2
  all_goals (go_ret; exact ⟨ret_int (by go_light; simp_all), by (repeat' (first | with_reducible exact Below.refl _ _ | with_reducible assumption | with_reducible refine gr_alloc ?_ _ | with_reducible refine gr_drew ?_ | with_reducible refine gr_drewN ?_ _ | with_reducible refine gr_trans ?_ (by assumption) | with_reducible refine gr_set ?_ ?_ _ | (simp; done) | omega | (simp; omega)))⟩)

set_option maxHeartbeats 400000 in
theorem rkNumber_any (n : Int) (w : World) : Calls Try.prog 51 #[.agg #[.int .i64 n]] w fun e w' => e = .returned (.int .i64 (if n = 2 then 4 else 5)) ∧ Below w.heap.size w w' := by
  go_enter Try.func51, Try.ntmps51
  go_wp2
  all_goals (go_ret; exact ⟨ret_int (by go_light; simp_all), by (repeat' (first | with_reducible exact Below.refl _ _ | with_reducible assumption | with_reducible refine gr_alloc ?_ _ | with_reducible refine gr_drew ?_ | with_reducible refine gr_drewN ?_ _ | with_reducible refine gr_trans ?_ (by assumption) | with_reducible refine gr_set ?_ ?_ _ | (simp; done) | omega | (simp; omega)))⟩)

set_option maxHeartbeats 400000 in
theorem zkCount_any (p : Int) (w : World) : Calls Try.prog 46 #[.agg #[], .int .i64 p] w fun e w' => e = .returned (.int .i64 (ckv p 0)) ∧ Below w.heap.size w w' := by
  go_enter Try.func46, Try.ntmps46
  go_wp2
  go_ret
  exact ⟨ret_int (by simp [ckv]), by (repeat' (first | with_reducible exact Below.refl _ _ | with_reducible assumption | with_reducible refine gr_alloc ?_ _ | with_reducible refine gr_drew ?_ | with_reducible refine gr_drewN ?_ _ | with_reducible refine gr_trans ?_ (by assumption) | with_reducible refine gr_set ?_ ?_ _ | (simp; done) | omega | (simp; omega)))⟩

set_option maxHeartbeats 400000 in
theorem skCount_any (n p : Int) (w : World) (h2 : 2 ≤ p) (h97 : p ≤ 97) (hn : n = 3 ∨ n = 1 ∨ n = 0) : Calls Try.prog 48 #[.agg #[.int .i64 n], .int .i64 p] w fun e w' => e = .returned (.int .i64 (ckv p (if n = 3 then 1 else if n = 1 then 2 else 3))) ∧ Below w.heap.size w w' := by
  obtain ⟨⟨a1, a2⟩, ⟨b1, b2⟩, c1, c2⟩ := ck_bd h2 h97
  rcases hn with rfl | rfl | rfl
  all_goals
    go_enter Try.func48, Try.ntmps48
    go_wp2
    go_ret
    exact ⟨ret_int (by simp [ckv]), by (repeat' (first | with_reducible exact Below.refl _ _ | with_reducible assumption | with_reducible refine gr_alloc ?_ _ | with_reducible refine gr_drew ?_ | with_reducible refine gr_drewN ?_ _ | with_reducible refine gr_trans ?_ (by assumption) | with_reducible refine gr_set ?_ ?_ _ | (simp; done) | omega | (simp; omega)))⟩

set_option maxHeartbeats 400000 in
theorem rkCount_any (n p : Int) (w : World) (h2 : 2 ≤ p) (h97 : p ≤ 97) (hn : n = 2 ∨ n = 3) : Calls Try.prog 50 #[.agg #[.int .i64 n], .int .i64 p] w fun e w' => e = .returned (.int .i64 (ckv p (if n = 2 then 4 else 5))) ∧ Below w.heap.size w w' := by
  obtain ⟨⟨a1, a2⟩, ⟨b1, b2⟩, c1, c2⟩ := ck_bd h2 h97
  rcases hn with rfl | rfl
  all_goals
    go_enter Try.func50, Try.ntmps50
    go_wp2
    go_ret
    exact ⟨ret_int (by simp [ckv]), by (repeat' (first | with_reducible exact Below.refl _ _ | with_reducible assumption | with_reducible refine gr_alloc ?_ _ | with_reducible refine gr_drew ?_ | with_reducible refine gr_drewN ?_ _ | with_reducible refine gr_trans ?_ (by assumption) | with_reducible refine gr_set ?_ ?_ _ | (simp; done) | omega | (simp; omega)))⟩

set_option maxHeartbeats 400000 in
theorem allKinds_any (w : World) : Calls Try.prog 19 #[] w fun e w' => e = .returned (.slice (some ⟨w.heap.size, 0, none⟩) 6 6) ∧ Bx w' w.heap.size #[.iface 48 (.agg #[]), .iface 50 (.agg #[.int .i64 3]), .iface 50 (.agg #[.int .i64 1]), .iface 50 (.agg #[.int .i64 0]), .iface 52 (.agg #[.int .i64 2]), .iface 52 (.agg #[.int .i64 3])] 41 ∧ Below w.heap.size w w' := by
  go_enter Try.func19, Try.ntmps19
  go_wp2
  go_ret
  exact ⟨rfl, Bx.new _ _ _, by (repeat' (first | with_reducible exact Below.refl _ _ | with_reducible assumption | with_reducible refine gr_alloc ?_ _ | with_reducible refine gr_drew ?_ | with_reducible refine gr_drewN ?_ _ | with_reducible refine gr_trans ?_ (by assumption) | with_reducible refine gr_set ?_ ?_ _ | (simp; done) | omega | (simp; omega)))⟩


end Go.Proofs.Ytfompkidjfnjnaa
