/- Several texts in one: XC1, XE1. -/
import Derived.Test.YtdogkkmdccieiaaDoorZ1
import Derived.Test.YtdogkkmdccieiaaDoorZ2

/- Chapter 1: the contracts of the plain functions. -/
namespace Go.Proofs.YtdogkkmdccieiaaDoor
open Go.RowKit

set_option maxHeartbeats 400000 in
theorem isWithin_any (n l : Int) (w : World) (h0 : 0 ≤ l) (h1 : l ≤ 1000000000000) :
    Calls Tryd.prog 103 #[.int .i64 n, .int .i64 l] w fun e w' => e = .returned (.bool (rng (-l) l n)) ∧ w = w' := by
  go_enter Tryd.func103, Tryd.ntmps103
  go_wp2
  all_goals (go_ret; exact ⟨ret_bool (by simp [rng]; try omega), rfl⟩)

set_option maxHeartbeats 400000 in
theorem l01In_any (n lo hi : Int) (w : World) :
    Calls Tryd.prog 63 #[.int .i64 n, .int .i64 lo, .int .i64 hi] w fun e w' => e = .returned (.bool (rng lo hi n)) ∧ w = w' := by
  go_enter Tryd.func63, Tryd.ntmps63
  go_wp2
  all_goals (go_ret; exact ⟨ret_bool (by simp [rng]; try omega), rfl⟩)



set_option maxHeartbeats 400000 in
theorem l01Is_any (a b c d : Int) (w : World) :
    Calls Tryd.prog 78 #[.agg #[.int .i64 a, .int .i64 b, .int .i64 c, .int .i64 d]] w fun e w' => e = .returned (.bool (isF a b c d)) ∧ Below w.heap.size w w' := by
  go_enter Tryd.func78, Tryd.ntmps78
  go_wp2
  go_rounds 5
  all_goals (go_ret; exact ⟨ret_bool (by apply isF_eq; go_light; simp at *; try omega), by go_grown⟩)

set_option maxHeartbeats 400000 in
theorem allWithin_any (k : Nat) (a b c d : Int) (w : World) (hA : Arr w k a b c d) :
    Calls Tryd.prog 90 #[.slice (some ⟨k, 0, none⟩) 4 4, .int .i64 1000] w fun e w' => e = .returned (.bool (isF a b c d)) ∧ w = w' := by
  obtain ⟨lt, c0, c1, c2, c3, _⟩ := hA
  go_enter Tryd.func90, Tryd.ntmps90
  go_wp2
  go_rounds 5
  all_goals (go_ret; exact ⟨ret_bool (by apply isF_eq; go_light; simp at *; try omega), rfl⟩)

end Go.Proofs.YtdogkkmdccieiaaDoor

/- Chapter 4: what is an element; elements of results. -/
namespace Go.Proofs.YtdogkkmdccieiaaDoor
open Go.RowKit

set_option maxHeartbeats 400000 in
theorem allW4_any (L : Int) (k : Nat) (a b c d : Int) (w : World) (hA : Arr w k a b c d) (h0 : 0 ≤ L) (h1 : L ≤ 1000000000000) :
    Calls Tryd.prog 90 #[.slice (some ⟨k, 0, none⟩) 4 4, .int .i64 L] w fun e w' => e = .returned (.bool (is4 L a b c d)) ∧ w = w' := by
  obtain ⟨lt, c0, c1, c2, c3, _⟩ := hA
  go_enter Tryd.func90, Tryd.ntmps90
  go_wp2
  go_rounds 5
  all_goals (go_ret; exact ⟨ret_bool (by apply is4_eq; go_light; simp at *; try omega), rfl⟩)

set_option maxHeartbeats 400000 in
theorem allW3_any (L : Int) (k : Nat) (a b c : Int) (w : World) (hA : Arr3 w k a b c) (h0 : 0 ≤ L) (h1 : L ≤ 1000000000000) :
    Calls Tryd.prog 90 #[.slice (some ⟨k, 0, none⟩) 3 3, .int .i64 L] w fun e w' => e = .returned (.bool (is3 L a b c)) ∧ w = w' := by
  obtain ⟨lt, c0, c1, c2, _⟩ := hA
  go_enter Tryd.func90, Tryd.ntmps90
  go_wp2
  go_rounds 4
  all_goals (go_ret; exact ⟨ret_bool (by apply is3_eq; go_light; simp at *; try omega), rfl⟩)

set_option maxHeartbeats 400000 in
theorem iIsE_any (a b c : Int) (w : World) :
    Calls Tryd.prog 39 #[.agg #[.int .i64 a, .int .i64 b, .int .i64 c]] w fun e w' => e = .returned (.bool (isE a b c)) ∧ Below w.heap.size w w' := by
  go_enter Tryd.func39, Tryd.ntmps39
  go_wp2_with fail
  refine (allW3_any 10000 _ a b c _ (Arr3.new _ _ _ _ _) (by omega) (by omega)).mono ?_
  rintro e w1 ⟨rfl, rfl⟩
  go_wp2
  go_ret
  exact ⟨rfl, by (repeat' (first | with_reducible exact Below.refl _ _ | with_reducible assumption | with_reducible refine gr_alloc ?_ _ | with_reducible refine gr_drew ?_ | with_reducible refine gr_drewN ?_ _ | with_reducible refine gr_trans ?_ (by assumption) | with_reducible refine gr_set ?_ ?_ _ | (simp; done) | omega | (simp; omega)))⟩

set_option maxHeartbeats 400000 in
theorem sIsE0_any (a b c : Int) (w : World) :
    Calls Tryd.prog 65 #[.agg #[.int .i64 a, .int .i64 b, .int .i64 c]] w fun e w' => e = .returned (.bool (isE a b c)) ∧ Below w.heap.size w w' := by
  go_enter Tryd.func65, Tryd.ntmps65
  go_wp2
  go_rounds 4
  all_goals (go_ret; exact ⟨ret_bool (by apply is3_eq; go_light; simp at *; try omega), by go_grown⟩)







set_option maxHeartbeats 1000000 in
theorem iTold_any (a b c : Int) (w : World) :
    Calls Tryd.prog 54 #[.agg #[.int .i64 a, .int .i64 b, .int .i64 c]] w fun e w' => e = .returned (.tuple #[.agg #[.int .i64 (if0 (elc a b c) a), .int .i64 (if0 (elc a b c) b), .int .i64 (if0 (elc a b c) c)], .int .i64 (elc a b c)]) ∧ Below w.heap.size w w' := by
  go_enter Tryd.func54, Tryd.ntmps54
  go_wp2_with fail
  refine (iIsE_any a b c _).mono ?_
  rintro e w1 ⟨rfl, hb1⟩
  have A1 := ((Arr3.new w a b c 27).alloc (.cells #[.int .i64 0, .int .i64 0, .int .i64 0] 27)).next hb1
  have R1 := (Arr3.new (w.alloc (.cells #[.int .i64 a, .int .i64 b, .int .i64 c] 27)) 0 0 0 27).next hb1
  simp only [World.size_alloc] at R1
  obtain ⟨_, r0, r1, r2, f0, f1, f2⟩ := id R1
  by_cases hm : isE a b c = true
  · obtain ⟨_, a0, a1, a2, _⟩ := id A1
    go_wp2
    refine bodyPost_ret (res_A3 (e := 2) rfl Tryd.underlying27 (by kernel_rfl) rfl (by (repeat (first | with_reducible assumption | with_reducible exact Arr3.box (by assumption) | with_reducible exact Arr3.new _ _ _ _ _ | with_reducible refine Arr3.drew ?_ | with_reducible refine Arr3.drewN ?_ _ | with_reducible refine Arr3.store3 ?_ | with_reducible refine Arr3.alloc ?_ _ | with_reducible refine Arr3.next ?_ (by assumption) | refine Arr3.oth ?_ (by first | (simp; done) | omega | (simp; omega)) _ )))) rfl ?_
    have k0 : elc a b c = 0 := by simp [elc, hm]
    exact ⟨ret_t3 (by simp [if0, k0]) (by simp [if0, k0]) (by simp [if0, k0]) (by simp [k0]), by (repeat' (first | with_reducible exact Below.refl _ _ | with_reducible assumption | with_reducible refine gr_alloc ?_ _ | with_reducible refine gr_drew ?_ | with_reducible refine gr_drewN ?_ _ | with_reducible refine gr_trans ?_ (by assumption) | with_reducible refine gr_set ?_ ?_ _ | (simp; done) | omega | (simp; omega)))⟩
  · have hm' : isE a b c = false := by simpa using hm
    clear hm
    go_wp2
    refine bodyPost_ret (res_A3 (e := 2) rfl Tryd.underlying27 (by kernel_rfl) rfl (by (repeat (first | with_reducible assumption | with_reducible exact Arr3.box (by assumption) | with_reducible exact Arr3.new _ _ _ _ _ | with_reducible refine Arr3.drew ?_ | with_reducible refine Arr3.drewN ?_ _ | with_reducible refine Arr3.store3 ?_ | with_reducible refine Arr3.alloc ?_ _ | with_reducible refine Arr3.next ?_ (by assumption) | refine Arr3.oth ?_ (by first | (simp; done) | omega | (simp; omega)) _ )))) rfl ?_
    have k0 : elc a b c = 3 := by simp [elc, hm']
    exact ⟨ret_t3 (by simp [if0, k0]) (by simp [if0, k0]) (by simp [if0, k0]) (by simp [k0]), by (repeat' (first | with_reducible exact Below.refl _ _ | with_reducible assumption | with_reducible refine gr_alloc ?_ _ | with_reducible refine gr_drew ?_ | with_reducible refine gr_drewN ?_ _ | with_reducible refine gr_trans ?_ (by assumption) | with_reducible refine gr_set ?_ ?_ _ | (simp; done) | omega | (simp; omega)))⟩

set_option maxHeartbeats 1000000 in
theorem sTold_any (a b c : Int) (w : World) :
    Calls Tryd.prog 59 #[.agg #[.int .i64 a, .int .i64 b, .int .i64 c]] w fun e w' => e = .returned (.tuple #[.agg #[.int .i64 (if0 (elc a b c) a), .int .i64 (if0 (elc a b c) b), .int .i64 (if0 (elc a b c) c)], .int .i64 (elc a b c)]) ∧ Below w.heap.size w w' := by
  go_enter Tryd.func59, Tryd.ntmps59
  go_wp2_with fail
  refine (sIsE0_any a b c _).mono ?_
  rintro e w1 ⟨rfl, hb1⟩
  have A1 := ((Arr3.new w a b c 27).alloc (.cells #[.int .i64 0, .int .i64 0, .int .i64 0] 27)).next hb1
  have R1 := (Arr3.new (w.alloc (.cells #[.int .i64 a, .int .i64 b, .int .i64 c] 27)) 0 0 0 27).next hb1
  simp only [World.size_alloc] at R1
  obtain ⟨_, r0, r1, r2, f0, f1, f2⟩ := id R1
  by_cases hm : isE a b c = true
  · obtain ⟨_, a0, a1, a2, _⟩ := id A1
    go_wp2
    refine bodyPost_ret (res_A3 (e := 2) rfl Tryd.underlying27 (by kernel_rfl) rfl (by (repeat (first | with_reducible assumption | with_reducible exact Arr3.box (by assumption) | with_reducible exact Arr3.new _ _ _ _ _ | with_reducible refine Arr3.drew ?_ | with_reducible refine Arr3.drewN ?_ _ | with_reducible refine Arr3.store3 ?_ | with_reducible refine Arr3.alloc ?_ _ | with_reducible refine Arr3.next ?_ (by assumption) | refine Arr3.oth ?_ (by first | (simp; done) | omega | (simp; omega)) _ )))) rfl ?_
    have k0 : elc a b c = 0 := by simp [elc, hm]
    exact ⟨ret_t3 (by simp [if0, k0]) (by simp [if0, k0]) (by simp [if0, k0]) (by simp [k0]), by (repeat' (first | with_reducible exact Below.refl _ _ | with_reducible assumption | with_reducible refine gr_alloc ?_ _ | with_reducible refine gr_drew ?_ | with_reducible refine gr_drewN ?_ _ | with_reducible refine gr_trans ?_ (by assumption) | with_reducible refine gr_set ?_ ?_ _ | (simp; done) | omega | (simp; omega)))⟩
  · have hm' : isE a b c = false := by simpa using hm
    clear hm
    go_wp2
    refine bodyPost_ret (res_A3 (e := 2) rfl Tryd.underlying27 (by kernel_rfl) rfl (by (repeat (first | with_reducible assumption | with_reducible exact Arr3.box (by assumption) | with_reducible exact Arr3.new _ _ _ _ _ | with_reducible refine Arr3.drew ?_ | with_reducible refine Arr3.drewN ?_ _ | with_reducible refine Arr3.store3 ?_ | with_reducible refine Arr3.alloc ?_ _ | with_reducible refine Arr3.next ?_ (by assumption) | refine Arr3.oth ?_ (by first | (simp; done) | omega | (simp; omega)) _ )))) rfl ?_
    have k0 : elc a b c = 3 := by simp [elc, hm']
    exact ⟨ret_t3 (by simp [if0, k0]) (by simp [if0, k0]) (by simp [if0, k0]) (by simp [k0]), by (repeat' (first | with_reducible exact Below.refl _ _ | with_reducible assumption | with_reducible refine gr_alloc ?_ _ | with_reducible refine gr_drew ?_ | with_reducible refine gr_drewN ?_ _ | with_reducible refine gr_trans ?_ (by assumption) | with_reducible refine gr_set ?_ ?_ _ | (simp; done) | omega | (simp; omega)))⟩

end Go.Proofs.YtdogkkmdccieiaaDoor
