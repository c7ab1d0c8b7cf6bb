/- Multiples. -/
import Derived.Test.YtdogkkmdccieiaaDoorZ1
namespace Go.Proofs.YtdogkkmdccieiaaDoor
open Go.RowKit

/-- Is n a multiple of m? (0 has the multiple 0 alone.) -/
def mul0 (n m : Int) : Bool := if m = 0 then decide (n = 0) else decide (n.tmod m = 0)
theorem mul0_p {n m : Int} (h : 2 ≤ m) : mul0 n m = decide (n.tmod m = 0) := by unfold mul0; rw [if_neg (by omega)]
theorem beq_dec (a b : Int) : (a == b) = decide (a = b) := by rw [Bool.eq_iff_iff]; simp
theorem tmod_6 (n m : Int) (h1 : 1 ≤ m) (h : m ≤ 1000000000000000) : -1000000000000000 ≤ n.tmod m ∧ n.tmod m ≤ 1000000000000000 := by
  have := Int.natAbs_tmod n m
  have hb : n.natAbs % m.natAbs < m.natAbs := Nat.mod_lt _ (by omega)
  omega

set_option maxHeartbeats 400000 in
theorem isMultiple_any (n m : Int) (w : World) (h0 : 0 ≤ m) (h97 : m ≤ 1000000000000000) : Calls Tryd.prog 121 #[.int .i64 n, .int .i64 m] w fun e w' => e = .returned (.bool (mul0 n m)) ∧ w = w' := by
  by_cases hm : m = 0
  · have hm' : (m == 0) = true := by simpa using hm
    have H := hid hm
    clear hm
    go_enter Tryd.func121, Tryd.ntmps121
    go_wp2
    go_ret
    exact ⟨ret_bool (by simp [mul0, H.out, beq_dec]), rfl⟩
  · obtain ⟨hb1, hb2⟩ := tmod_6 n m (by omega) h97
    have hm1 : 1 ≤ m := by omega
    have hm' : (m == 0) = false := by simpa using hm
    have H := hid hm
    clear hm
    go_enter Tryd.func121, Tryd.ntmps121
    go_wp2
    go_ret
    exact ⟨ret_bool (by simp [mul0, H.out, beq_dec]), rfl⟩

theorem tmod_in (n m : Int) (h : 1 ≤ m) : -m < n.tmod m ∧ n.tmod m < m := by
  have := Int.natAbs_tmod n m
  have hb : n.natAbs % m.natAbs < m.natAbs := Nat.mod_lt _ (by omega)
  omega
theorem rest_eq (n m : Int) (h : 1 ≤ m) : (n.tmod m + m) % m = n % m := by
  rw [Int.add_emod_right, Int.tmod_eq_emod]
  split
  · simp
  · have e : n % m - ↑m.natAbs = n % m - m := by omega
    rw [e, Int.sub_emod_right, Int.emod_emod]
theorem rest_eq' (n m : Int) (h : 1 ≤ m) : (n.tmod m + m).tmod m = n % m := by
  rw [Int.tmod_eq_emod_of_nonneg (by have := tmod_in n m h; omega)]
  exact rest_eq n m h
theorem mul0_e {n m : Int} (h : 1 ≤ m) : mul0 n m = decide (n % m = 0) := by
  unfold mul0; rw [if_neg (by omega), Bool.eq_iff_iff]
  simp only [decide_eq_true_eq]
  exact ⟨fun e => Int.emod_eq_zero_of_dvd (Int.dvd_of_tmod_eq_zero e), fun e => Int.tmod_eq_zero_of_dvd (Int.dvd_of_emod_eq_zero e)⟩



end Go.Proofs.YtdogkkmdccieiaaDoor
