/- Chapter 4: what is an element; elements of results. -/
import Derived.Test.YtambbhldhhlfgaaE0
import Derived.Test.YtambbhldhhlfgaaC1
namespace Go.Proofs.Ytambbhldhhlfgaa
open Go.RowKit

set_option maxHeartbeats 400000 in
theorem allW4_any (L : Int) (k : Nat) (a b c d : Int) (w : World) (hA : Arr w k a b c d) (h0 : 0 ≤ L) (h1 : L ≤ 1000000000000) :
    Calls Try.prog 60 #[.slice (some ⟨k, 0, none⟩) 4 4, .int .i64 L] w fun e w' => e = .returned (.bool (is4 L a b c d)) ∧ w = w' := by
  obtain ⟨lt, c0, c1, c2, c3, _⟩ := hA
  go_enter Try.func60, Try.ntmps60
  go_wp2
  go_rounds 5
  all_goals (go_ret; exact ⟨ret_bool (by apply is4_eq; go_light; simp at *; try omega), rfl⟩)

set_option maxHeartbeats 400000 in
theorem allW3_any (L : Int) (k : Nat) (a b c : Int) (w : World) (hA : Arr3 w k a b c) (h0 : 0 ≤ L) (h1 : L ≤ 1000000000000) :
    Calls Try.prog 60 #[.slice (some ⟨k, 0, none⟩) 3 3, .int .i64 L] w fun e w' => e = .returned (.bool (is3 L a b c)) ∧ w = w' := by
  obtain ⟨lt, c0, c1, c2, _⟩ := hA
  go_enter Try.func60, Try.ntmps60
  go_wp2
  go_rounds 4
  all_goals (go_ret; exact ⟨ret_bool (by apply is3_eq; go_light; simp at *; try omega), rfl⟩)

set_option maxHeartbeats 400000 in
theorem iIsE_any (a b c : Int) (w : World) :
    Calls Try.prog 9 #[.agg #[.int .i64 a, .int .i64 b, .int .i64 c]] w fun e w' => e = .returned (.bool (isE a b c)) ∧ Below w.heap.size w w' := by
  go_enter Try.func9, Try.ntmps9
  go_wp2_with fail
  refine (allW3_any 10000 _ a b c _ (Arr3.new _ _ _ _ _) (by omega) (by omega)).mono ?_
  rintro e w1 ⟨rfl, rfl⟩
  go_wp2
  go_ret
  exact ⟨rfl, by (repeat' (first | with_reducible exact Below.refl _ _ | with_reducible assumption | with_reducible refine gr_alloc ?_ _ | with_reducible refine gr_drew ?_ | with_reducible refine gr_drewN ?_ _ | with_reducible refine gr_trans ?_ (by assumption) | with_reducible refine gr_set ?_ ?_ _ | (simp; done) | omega | (simp; omega)))⟩

set_option maxHeartbeats 400000 in
theorem sIsE0_any (a b c : Int) (w : World) :
    Calls Try.prog 61 #[.agg #[.int .i64 a, .int .i64 b, .int .i64 c]] w fun e w' => e = .returned (.bool (isE a b c)) ∧ Below w.heap.size w w' := by
  go_enter Try.func61, Try.ntmps61
  go_wp2
  go_rounds 4
  all_goals (go_ret; exact ⟨ret_bool (by apply is3_eq; go_light; simp at *; try omega), by go_grown⟩)

set_option maxHeartbeats 400000 in
theorem sIsE_any (a b c : Int) (w : World) :
    Calls Try.prog 10 #[.agg #[.int .i64 a, .int .i64 b, .int .i64 c]] w fun e w' => e = .returned (.bool (isE a b c)) ∧ Below w.heap.size w w' := by
  go_enter Try.func10, Try.ntmps10
  go_wp2_with fail
  refine (sIsE0_any a b c _).mono ?_
  rintro e w1 ⟨rfl, hb1⟩
  go_wp2
  go_ret
  exact ⟨rfl, by (repeat' (first | with_reducible exact Below.refl _ _ | with_reducible assumption | with_reducible refine gr_alloc ?_ _ | with_reducible refine gr_drew ?_ | with_reducible refine gr_drewN ?_ _ | with_reducible refine gr_trans ?_ (by assumption) | with_reducible refine gr_set ?_ ?_ _ | (simp; done) | omega | (simp; omega)))⟩





set_option maxHeartbeats 1000000 in
theorem iTold_any (a b c : Int) (w : World) :
    Calls Try.prog 53 #[.agg #[.int .i64 a, .int .i64 b, .int .i64 c]] w fun e w' => e = .returned (.tuple #[.agg #[.int .i64 (if0 (elc a b c) a), .int .i64 (if0 (elc a b c) b), .int .i64 (if0 (elc a b c) c)], .int .i64 (elc a b c)]) ∧ Below w.heap.size w w' := by
  go_enter Try.func53, Try.ntmps53
  go_wp2_with fail
  refine (iIsE_any a b c _).mono ?_
  rintro e w1 ⟨rfl, hb1⟩
  have A1 := ((Arr3.new w a b c 27).alloc (.cells #[.int .i64 0, .int .i64 0, .int .i64 0] 27)).next hb1
  have R1 := (Arr3.new (w.alloc (.cells #[.int .i64 a, .int .i64 b, .int .i64 c] 27)) 0 0 0 27).next hb1
  simp only [World.size_alloc] at R1
  obtain ⟨_, r0, r1, r2, f0, f1, f2⟩ := id R1
  by_cases hm : isE a b c = true
  · obtain ⟨_, a0, a1, a2, _⟩ := id A1
    go_wp2
    refine bodyPost_ret (res_A3 (e := 2) rfl Try.underlying27 (by kernel_rfl) rfl (by (repeat (first | with_reducible assumption | with_reducible exact Arr3.box (by assumption) | with_reducible exact Arr3.new _ _ _ _ _ | with_reducible refine Arr3.drew ?_ | with_reducible refine Arr3.drewN ?_ _ | with_reducible refine Arr3.store3 ?_ | with_reducible refine Arr3.alloc ?_ _ | with_reducible refine Arr3.next ?_ (by assumption) | refine Arr3.oth ?_ (by first | (simp; done) | omega | (simp; omega)) _ )))) rfl ?_
    have k0 : elc a b c = 0 := by simp [elc, hm]
    exact ⟨ret_t3 (by simp [if0, k0]) (by simp [if0, k0]) (by simp [if0, k0]) (by simp [k0]), by (repeat' (first | with_reducible exact Below.refl _ _ | with_reducible assumption | with_reducible refine gr_alloc ?_ _ | with_reducible refine gr_drew ?_ | with_reducible refine gr_drewN ?_ _ | with_reducible refine gr_trans ?_ (by assumption) | with_reducible refine gr_set ?_ ?_ _ | (simp; done) | omega | (simp; omega)))⟩
  · have hm' : isE a b c = false := by simpa using hm
    clear hm
    go_wp2
    refine bodyPost_ret (res_A3 (e := 2) rfl Try.underlying27 (by kernel_rfl) rfl (by (repeat (first | with_reducible assumption | with_reducible exact Arr3.box (by assumption) | with_reducible exact Arr3.new _ _ _ _ _ | with_reducible refine Arr3.drew ?_ | with_reducible refine Arr3.drewN ?_ _ | with_reducible refine Arr3.store3 ?_ | with_reducible refine Arr3.alloc ?_ _ | with_reducible refine Arr3.next ?_ (by assumption) | refine Arr3.oth ?_ (by first | (simp; done) | omega | (simp; omega)) _ )))) rfl ?_
    have k0 : elc a b c = 3 := by simp [elc, hm']
    exact ⟨ret_t3 (by simp [if0, k0]) (by simp [if0, k0]) (by simp [if0, k0]) (by simp [k0]), by (repeat' (first | with_reducible exact Below.refl _ _ | with_reducible assumption | with_reducible refine gr_alloc ?_ _ | with_reducible refine gr_drew ?_ | with_reducible refine gr_drewN ?_ _ | with_reducible refine gr_trans ?_ (by assumption) | with_reducible refine gr_set ?_ ?_ _ | (simp; done) | omega | (simp; omega)))⟩

set_option maxHeartbeats 1000000 in
theorem sTold_any (a b c : Int) (w : World) :
    Calls Try.prog 57 #[.agg #[.int .i64 a, .int .i64 b, .int .i64 c]] w fun e w' => e = .returned (.tuple #[.agg #[.int .i64 (if0 (elc a b c) a), .int .i64 (if0 (elc a b c) b), .int .i64 (if0 (elc a b c) c)], .int .i64 (elc a b c)]) ∧ Below w.heap.size w w' := by
  go_enter Try.func57, Try.ntmps57
  go_wp2_with fail
  refine (sIsE0_any a b c _).mono ?_
  rintro e w1 ⟨rfl, hb1⟩
  have A1 := ((Arr3.new w a b c 27).alloc (.cells #[.int .i64 0, .int .i64 0, .int .i64 0] 27)).next hb1
  have R1 := (Arr3.new (w.alloc (.cells #[.int .i64 a, .int .i64 b, .int .i64 c] 27)) 0 0 0 27).next hb1
  simp only [World.size_alloc] at R1
  obtain ⟨_, r0, r1, r2, f0, f1, f2⟩ := id R1
  by_cases hm : isE a b c = true
  · obtain ⟨_, a0, a1, a2, _⟩ := id A1
    go_wp2
    refine bodyPost_ret (res_A3 (e := 2) rfl Try.underlying27 (by kernel_rfl) rfl (by (repeat (first | with_reducible assumption | with_reducible exact Arr3.box (by assumption) | with_reducible exact Arr3.new _ _ _ _ _ | with_reducible refine Arr3.drew ?_ | with_reducible refine Arr3.drewN ?_ _ | with_reducible refine Arr3.store3 ?_ | with_reducible refine Arr3.alloc ?_ _ | with_reducible refine Arr3.next ?_ (by assumption) | refine Arr3.oth ?_ (by first | (simp; done) | omega | (simp; omega)) _ )))) rfl ?_
    have k0 : elc a b c = 0 := by simp [elc, hm]
    exact ⟨ret_t3 (by simp [if0, k0]) (by simp [if0, k0]) (by simp [if0, k0]) (by simp [k0]), by (repeat' (first | with_reducible exact Below.refl _ _ | with_reducible assumption | with_reducible refine gr_alloc ?_ _ | with_reducible refine gr_drew ?_ | with_reducible refine gr_drewN ?_ _ | with_reducible refine gr_trans ?_ (by assumption) | with_reducible refine gr_set ?_ ?_ _ | (simp; done) | omega | (simp; omega)))⟩
  · have hm' : isE a b c = false := by simpa using hm
    clear hm
    go_wp2
    refine bodyPost_ret (res_A3 (e := 2) rfl Try.underlying27 (by kernel_rfl) rfl (by (repeat (first | with_reducible assumption | with_reducible exact Arr3.box (by assumption) | with_reducible exact Arr3.new _ _ _ _ _ | with_reducible refine Arr3.drew ?_ | with_reducible refine Arr3.drewN ?_ _ | with_reducible refine Arr3.store3 ?_ | with_reducible refine Arr3.alloc ?_ _ | with_reducible refine Arr3.next ?_ (by assumption) | refine Arr3.oth ?_ (by first | (simp; done) | omega | (simp; omega)) _ )))) rfl ?_
    have k0 : elc a b c = 3 := by simp [elc, hm']
    exact ⟨ret_t3 (by simp [if0, k0]) (by simp [if0, k0]) (by simp [if0, k0]) (by simp [k0]), by (repeat' (first | with_reducible exact Below.refl _ _ | with_reducible assumption | with_reducible refine gr_alloc ?_ _ | with_reducible refine gr_drew ?_ | with_reducible refine gr_drewN ?_ _ | with_reducible refine gr_trans ?_ (by assumption) | with_reducible refine gr_set ?_ ?_ _ | (simp; done) | omega | (simp; omega)))⟩

end Go.Proofs.Ytambbhldhhlfgaa
