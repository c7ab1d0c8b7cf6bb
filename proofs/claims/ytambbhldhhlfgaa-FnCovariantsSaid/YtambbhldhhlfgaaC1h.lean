/- Chapter 1: contents. -/
import Derived.Test.YtambbhldhhlfgaaC1d
import Derived.Test.YtambbhldhhlfgaaC1g
import Derived.Test.YtambbhldhhlfgaaArr3
namespace Go.Proofs.Ytambbhldhhlfgaa
open Go.RowKit





set_option maxHeartbeats 1000000 in
theorem iGcd4_any (k : Nat) (a b c d : Int) (w : World) (hA : Arr w k a b c d) (ha : -1000 ≤ a ∧ a ≤ 1000) (hb : -1000 ≤ b ∧ b ≤ 1000) (hc : -1000 ≤ c ∧ c ≤ 1000) (hd : -1000 ≤ d ∧ d ≤ 1000) :
    Calls Try.prog 83 #[.slice (some ⟨k, 0, none⟩) 4 4] w fun e w' => e = .returned (.int .i64 (cnt a b c d)) ∧ Below w.heap.size w w' := by
  have g2 := gcd_le (m := a.natAbs) (n := b) (B := 1000) (by omega) hb
  have g3 := gcd_le (m := Int.gcd a.natAbs b) (n := c) (B := 1000) (by omega) hc
  obtain ⟨_, a0, a1, a2, a3, _⟩ := id hA
  go_enter Try.func83, Try.ntmps83
  go_wp2_with fail
  refine wp_loop_rounds 5 ?_
  rw [rounds_succ]; go_wp2_with fail
  refine (iGcd_any _ _ _ (by omega) (by omega)).mono ?_
  rintro e w2 ⟨rfl, hb2⟩
  have A2 := hA.next hb2
  clear a0 a1 a2 a3
  obtain ⟨_, a0, a1, a2, a3, _⟩ := id A2
  go_wp2_with fail
  rw [rounds_succ]; go_wp2_with fail
  refine (iGcd_any _ _ _ (by omega) (by omega)).mono ?_
  rintro e w3 ⟨rfl, hb3⟩
  have A3 := A2.next hb3
  clear a0 a1 a2 a3
  obtain ⟨_, a0, a1, a2, a3, _⟩ := id A3
  go_wp2_with fail
  rw [rounds_succ]; go_wp2_with fail
  refine (iGcd_any _ _ _ (by omega) (by omega)).mono ?_
  rintro e w4 ⟨rfl, hb4⟩
  have A4 := A3.next hb4
  clear a0 a1 a2 a3
  obtain ⟨_, a0, a1, a2, a3, _⟩ := id A4
  go_wp2_with fail
  rw [rounds_succ]; go_wp2_with fail
  refine (iGcd_any _ _ _ (by omega) (by omega)).mono ?_
  rintro e w5 ⟨rfl, hb5⟩
  go_wp2_with fail
  rw [rounds_succ]; go_wp2_with fail
  go_ret
  exact ⟨ret_int (by rw [← cnt_fold]), by (repeat' (first | with_reducible exact Below.refl _ _ | with_reducible assumption | with_reducible refine gr_alloc ?_ _ | with_reducible refine gr_drew ?_ | with_reducible refine gr_drewN ?_ _ | with_reducible refine gr_trans ?_ (by assumption) | with_reducible refine gr_set ?_ ?_ _ | (simp; done) | omega | (simp; omega)))⟩



/-- The greatest common divisor of three numbers. -/
def cnt3 (a b c : Int) : Int := Int.gcd (Int.gcd a b) c

set_option maxHeartbeats 1000000 in
theorem iGcd3_any (k : Nat) (a b c : Int) (w : World) (hA : Arr3 w k a b c) (ha : -100000000 ≤ a ∧ a ≤ 100000000) (hb : -100000000 ≤ b ∧ b ≤ 100000000) (hc : -100000000 ≤ c ∧ c ≤ 100000000) :
    Calls Try.prog 83 #[.slice (some ⟨k, 0, none⟩) 3 3] w fun e w' => e = .returned (.int .i64 (cnt3 a b c)) ∧ Below w.heap.size w w' := by
  have g2 := gcd_le (m := a.natAbs) (n := b) (B := 100000000) (by omega) hb
  obtain ⟨_, a0, a1, a2, _⟩ := id hA
  go_enter Try.func83, Try.ntmps83
  go_wp2_with fail
  refine wp_loop_rounds 4 ?_
  rw [rounds_succ]; go_wp2_with fail
  refine (iGcd_any _ _ _ (by omega) (by omega)).mono ?_
  rintro e w2 ⟨rfl, hb2⟩
  have A2 := hA.next hb2
  clear a0 a1 a2
  obtain ⟨_, a0, a1, a2, _⟩ := id A2
  go_wp2_with fail
  rw [rounds_succ]; go_wp2_with fail
  refine (iGcd_any _ _ _ (by omega) (by omega)).mono ?_
  rintro e w3 ⟨rfl, hb3⟩
  have A3 := A2.next hb3
  clear a0 a1 a2
  obtain ⟨_, a0, a1, a2, _⟩ := id A3
  go_wp2_with fail
  rw [rounds_succ]; go_wp2_with fail
  refine (iGcd_any _ _ _ (by omega) (by omega)).mono ?_
  rintro e w4 ⟨rfl, hb4⟩
  go_wp2_with fail
  rw [rounds_succ]; go_wp2_with fail
  go_ret
  exact ⟨ret_int (by simp [cnt3, Int.gcd]), by (repeat' (first | with_reducible exact Below.refl _ _ | with_reducible assumption | with_reducible refine gr_alloc ?_ _ | with_reducible refine gr_drew ?_ | with_reducible refine gr_drewN ?_ _ | with_reducible refine gr_trans ?_ (by assumption) | with_reducible refine gr_set ?_ ?_ _ | (simp; done) | omega | (simp; omega)))⟩

end Go.Proofs.Ytambbhldhhlfgaa
