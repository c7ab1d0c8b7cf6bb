/- Chapter 5: primes, the program's and the model's. -/
import Derived.Test.YtdogkkmdccieiaaDoorPm
import Derived.Test.YtdogkkmdccieiaaDoorC1b
import Derived.Test.YtdogkkmdccieiaaDoorYa
namespace Go.Proofs.YtdogkkmdccieiaaDoor
open Go.RowKit

/-- The least divisor of n. -/
def LdPost (n : Int) (w : World) (e : Ending) (w' : World) : Prop := ∃ d : Nat, e = .returned (.int .i64 ((d : Int))) ∧ (2 ≤ d ∧ (d : Int) ≤ n ∧ n.toNat % d = 0 ∧ NoDiv n.toNat d) ∧ w = w'
theorem nodiv_int {n : Nat} {k : Nat} (h : NoDiv n k) (j : Nat) (a : 2 ≤ j) (b : j < k) : (n : Int) % (j : Int) ≠ 0 := fun e => h j a b (by exact_mod_cast e)
theorem sqn_lt {k : Nat} {n : Int} (h : (k : Int) * k ≤ n) (h6 : n ≤ 1000000) : k ≤ 1000 := by
  by_cases hk : k ≤ 1000
  · exact hk
  · have : (1001 : Int) * 1001 ≤ (k : Int) * k := Int.mul_le_mul (by omega) (by omega) (by omega) (by omega)
    omega
theorem sqn_bd {k : Nat} (h : k ≤ 1001) : (0 : Int) ≤ (k : Int) * k ∧ (k : Int) * k ≤ 1002001 := by
  have h1 : (k : Int) * k ≤ 1001 * 1001 := Int.mul_le_mul (by omega) (by omega) (by omega) (by omega)
  have h0 : (0 : Int) ≤ (k : Int) * k := Int.mul_nonneg (by omega) (by omega)
  omega

set_option maxHeartbeats 400000 in
theorem leastDivisor_any (n : Int) (w : World) (h2 : 2 ≤ n) (h6 : n ≤ 1000000) : Calls Tryd.prog 116 #[.int .i64 n] w (LdPost n w) := by
  obtain ⟨N, rfl⟩ : ∃ N : Nat, n = N := ⟨n.toNat, by omega⟩
  go_enter Tryd.func116, Tryd.ntmps116
  go_wp2
  go_loop [3] (fun s => ∃ k : Nat, 2 ≤ k ∧ k ≤ 1001 ∧ k ≤ N ∧ s = .int .i64 ((k : Int)) ∧ NoDiv N k) (fun s => (1001 - intOf s).toNat)
  case atStart => exact ⟨2, by omega, by omega, by omega, rfl, by intro j h1 h2; omega⟩
  case round =>
    obtain ⟨k, hk2, hkn, hkN, rfl, H⟩ := hrel
    obtain ⟨hs0, hs1⟩ := sqn_bd hkn
    by_cases hle : (k : Int) * k ≤ (N : Int)
    · have h9 := sqn_lt hle h6
      by_cases hz : (N : Int) % (k : Int) = 0
      · have hz' : ((N : Int) % (k : Int) == 0) = true := by simpa using hz
        have HZ := hid hz
        clear hz
        go_wp2
        go_ret
        exact ⟨k, rfl, ⟨hk2, by omega, by have := HZ.out; simp only [Int.toNat_natCast]; exact_mod_cast this, H⟩, rfl⟩
      · have hz' : ((N : Int) % (k : Int) == 0) = false := by simpa using hz
        have HN : NoDiv N (k + 1) := nodiv_succ H fun e => hz (by exact_mod_cast e)
        have hlt : k + 1 ≤ N := by
          have := sq_lt hk2 hle
          omega
        clear hz H
        go_wp2
        go_round
        case rel => exact ⟨k + 1, by omega, by omega, by omega, by go_num, HN⟩
        case measure => simp [intOf]; omega
    · have HN : NoDiv N N := nodiv_whole (by omega) H (by
        have : (N : Int) < (k : Int) * k := by omega
        exact_mod_cast this)
      clear H
      go_wp2
      go_ret
      exact ⟨N, rfl, ⟨by omega, by omega, by simp, HN⟩, rfl⟩

theorem ldp {p : Int} {d : Nat} (h2 : 2 ≤ p) (h97 : p ≤ 97) (h : 2 ≤ d ∧ (d : Int) ≤ p ∧ p.toNat % d = 0 ∧ NoDiv p.toNat d) : (d : Int) = p ↔ prm p = true := by
  obtain ⟨P, rfl⟩ : ∃ P : Nat, p = P := ⟨p.toNat, by omega⟩
  obtain ⟨a, b, c, e⟩ := h
  simp only [Int.toNat_natCast] at c e
  constructor
  · intro hd
    have hd' : d = P := by omega
    subst hd'
    exact prm_mk h2 h97 fun j h1 h3 => nodiv_int e j h1 (by omega)
  · intro hp
    by_cases hd : (d : Int) = (P : Int)
    · exact hd
    · exact absurd (show (P : Int) % (d : Int) = 0 by exact_mod_cast c) (prm_div hp d a (by omega))

set_option maxHeartbeats 400000 in
theorem isPrime_any (p : Int) (w : World) : Calls Tryd.prog 110 #[.int .i64 p] w fun e w' => e = .returned (.bool (prm p)) ∧ w = w' := by
  by_cases h2 : 2 ≤ p
  · by_cases h97 : p ≤ 97
    · go_enter Tryd.func110, Tryd.ntmps110
      go_wp2_with (go_at_call 116; refine (leastDivisor_any p _ h2 (by omega)).mono ?_; rintro e w' ⟨d, rfl, hd, rfl⟩)
      go_ret
      exact ⟨ret_bool (by rw [Bool.eq_iff_iff, ← ldp h2 h97 hd]; simp), rfl⟩
    · have hp := prm_out (p := p) (by omega)
      have HP := hid hp
      clear hp
      go_enter Tryd.func110, Tryd.ntmps110
      go_wp2_with fail
      go_ret
      exact ⟨ret_bool HP.out.symm, rfl⟩
  · have hp := prm_out (p := p) (by omega)
    have HP := hid hp
    clear hp
    go_enter Tryd.func110, Tryd.ntmps110
    go_wp2_with fail
    go_ret
    exact ⟨ret_bool HP.out.symm, rfl⟩




end Go.Proofs.YtdogkkmdccieiaaDoor
