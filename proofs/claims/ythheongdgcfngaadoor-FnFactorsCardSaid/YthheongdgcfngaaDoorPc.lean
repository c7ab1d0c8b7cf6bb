/- Chapter 5: primes, the program's and the model's. -/
import Derived.Test.YthheongdgcfngaaDoorPm
import Derived.Test.YthheongdgcfngaaDoorZ1
namespace Go.Proofs.YthheongdgcfngaaDoor
open Go.RowKit

def LdPost (n : Int) (w : World) (e : Ending) (w' : World) : Prop := ∃ d : Int, e = .returned (.int .i64 d) ∧ (d = n ↔ prm n = true) ∧ w = w'

set_option maxHeartbeats 400000 in
theorem leastDivisor_any (n : Int) (w : World) (h2 : 2 ≤ n) (h97 : n ≤ 97) : Calls Tryd.prog 80 #[.int .i64 n] w (LdPost n w) := by
  go_enter Tryd.func80, Tryd.ntmps80
  go_wp2
  go_loop [3] (fun s => ∃ k : Nat, 2 ≤ k ∧ (k : Int) ≤ n ∧ s = .int .i64 ((k : Int)) ∧ Hid (∀ j : Nat, 2 ≤ j → j < k → n % (j : Int) ≠ 0)) (fun s => (n - intOf s).toNat)
  case atStart => exact ⟨2, by omega, by omega, rfl, hid (by intro j h1 h2; omega)⟩
  case round =>
    obtain ⟨k, hk2, hkn, rfl, H⟩ := hrel
    by_cases hz : n % (k : Int) = 0
    · have hz' : (n % (k : Int) == 0) = true := by simpa using hz
      have HZ := hid hz
      clear hz
      go_wp2
      go_ret
      refine ⟨_, rfl, ?_, rfl⟩
      constructor
      · intro e
        exact prm_mk h2 h97 fun j h1 h2 => H.out j h1 (by omega)
      · intro hp
        by_cases e : (k : Int) = n
        · exact e
        · exact absurd HZ.out (prm_div hp k hk2 (by omega))
    · have hz' : (n % (k : Int) == 0) = false := by simpa using hz
      have hlt : (k : Int) < n := by
        by_cases e : (k : Int) = n
        · subst e; simp at hz
        · omega
      have HN : Hid (∀ j : Nat, 2 ≤ j → j < k + 1 → n % (j : Int) ≠ 0) := hid fun j h1 h2 => by
        by_cases e : j = k
        · subst e; exact hz
        · exact H.out j h1 (by omega)
      clear hz H
      go_wp2
      go_round
      case rel => exact ⟨k + 1, by omega, by omega, by go_num, HN⟩
      case measure => simp [intOf]; omega

set_option maxHeartbeats 400000 in
theorem isPrime_any (p : Int) (w : World) : Calls Tryd.prog 47 #[.int .i64 p] w fun e w' => e = .returned (.bool (prm p)) ∧ w = w' := by
  by_cases h2 : 2 ≤ p
  · by_cases h97 : p ≤ 97
    · go_enter Tryd.func47, Tryd.ntmps47
      go_wp2_with (go_at_call 80; refine (leastDivisor_any p _ h2 h97).mono ?_; rintro e w' ⟨d, rfl, hd, rfl⟩)
      go_ret
      exact ⟨ret_bool (by rw [Bool.eq_iff_iff, ← hd]; simp), rfl⟩
    · have hp := prm_out (p := p) (by omega)
      have HP := hid hp
      clear hp
      go_enter Tryd.func47, Tryd.ntmps47
      go_wp2_with fail
      go_ret
      exact ⟨ret_bool HP.out.symm, rfl⟩
  · have hp := prm_out (p := p) (by omega)
    have HP := hid hp
    clear hp
    go_enter Tryd.func47, Tryd.ntmps47
    go_wp2_with fail
    go_ret
    exact ⟨ret_bool HP.out.symm, rfl⟩

set_option maxHeartbeats 400000 in
theorem l05Prime_any (p : Int) (w : World) : Calls Tryd.prog 59 #[.int .i64 p] w fun e w' => e = .returned (.bool (prm p)) ∧ w = w' := by
  by_cases hr : rng 2 97 p = true
  · obtain ⟨h2, h97⟩ := rng_t hr
    go_enter Tryd.func59, Tryd.ntmps59
    go_wp2_with (go_at_call 53; refine (l01In_any p 2 97 _).mono ?_; rintro e w' ⟨rfl, rfl⟩)
    go_loop [3] (fun s => ∃ k : Nat, 2 ≤ k ∧ k ≤ 10 ∧ s = .int .i64 ((k : Int)) ∧ Hid (∀ j : Nat, 2 ≤ j → j < k → p % (j : Int) ≠ 0)) (fun s => (10 - intOf s).toNat)
    case atStart => exact ⟨2, by omega, by omega, rfl, hid (by intro j h1 h2; omega)⟩
    case round =>
      obtain ⟨k, hk2, hkn, rfl, H⟩ := hrel
      obtain ⟨hs0, hs1⟩ := sq_bd hkn
      by_cases hle : (k : Int) * k ≤ p
      · have h9 := sq_10 hle h97
        have hlt := sq_lt hk2 hle
        by_cases hz : p % (k : Int) = 0
        · have hz' : (p % (k : Int) == 0) = true := by simpa using hz
          have hp := prm_f hk2 hlt hz
          have HP := hid hp
          clear hz hp
          go_wp2
          go_ret
          exact ⟨ret_bool HP.out.symm, rfl⟩
        · have hz' : (p % (k : Int) == 0) = false := by simpa using hz
          have HN : Hid (∀ j : Nat, 2 ≤ j → j < k + 1 → p % (j : Int) ≠ 0) := hid fun j h1 h2 => by
            by_cases e : j = k
            · subst e; exact hz
            · exact H.out j h1 (by omega)
          clear hz H
          go_wp2
          go_round
          case rel => exact ⟨k + 1, by omega, by omega, by go_num, HN⟩
          case measure => simp [intOf]; omega
      · have hp : prm p = true := prm_sq h2 h97 fun j h1 h2 => H.out j h1 (by
          by_cases hjk : j < k
          · exact hjk
          · have : (k : Int) * k ≤ ((j * j : Nat) : Int) := by
              have : k * k ≤ j * j := Nat.mul_le_mul (by omega) (by omega)
              exact_mod_cast this
            omega)
        have HP := hid hp
        clear hp H
        go_wp2
        go_ret
        exact ⟨ret_bool HP.out.symm, rfl⟩
  · have hr' : rng 2 97 p = false := by simpa using hr
    have hp := prm_out (p := p) (fun h => hr (rng_mk h.1 h.2))
    have HP := hid hp
    clear hp hr
    go_enter Tryd.func59, Tryd.ntmps59
    go_wp2_with (go_at_call 53; refine (l01In_any p 2 97 _).mono ?_; rintro e w' ⟨rfl, rfl⟩)
    go_ret
    exact ⟨ret_bool HP.out.symm, rfl⟩


end Go.Proofs.YthheongdgcfngaaDoor
