/- Chapter 9: ideal numbers of the model: primes, local factors. -/
import Derived.Test.YtihcmgjfkiaelaaDoorSa
import Derived.Test.YtihcmgjfkiaelaaDoorYu
namespace Go.Proofs.YtihcmgjfkiaelaaDoor
open Go.RowKit

theorem sq_23 {k : Nat} (h : k ≤ 23) : (0 : Int) ≤ (k : Int) * k ∧ (k : Int) * k ≤ 529 := by
  have h1 : (k : Int) * k ≤ 23 * 23 := Int.mul_le_mul (by omega) (by omega) (by omega) (by omega)
  have h0 : (0 : Int) ≤ (k : Int) * k := Int.mul_nonneg (by omega) (by omega)
  omega
theorem sq_22 {k q : Nat} (h : (k : Int) * k ≤ q) (hq : q ≤ 500) : k ≤ 22 := by
  rcases Nat.lt_or_ge 22 k with h0 | h0
  · have : (23 : Int) * 23 ≤ (k : Int) * k := Int.mul_le_mul (by omega) (by omega) (by omega) (by omega)
    omega
  · exact h0

set_option maxHeartbeats 400000 in
theorem l09Prime_any (q : Nat) (w : World) (h2 : 2 ≤ q) (h5 : q ≤ 500) : Calls Tryd.prog 102 #[.int .i64 ((q : Int))] w fun e w' => e = .returned (.bool (prq q)) ∧ w = w' := by
  go_enter Tryd.func102, Tryd.ntmps102
  go_wp2
  go_loop [3] (fun s => ∃ k : Nat, 2 ≤ k ∧ k ≤ 23 ∧ s = .int .i64 ((k : Int)) ∧ NoDiv q k) (fun s => (23 - intOf s).toNat)
  case atStart => exact ⟨2, by omega, by omega, rfl, by intro j h1 h2; omega⟩
  case round =>
    obtain ⟨k, hk2, hk23, rfl, H⟩ := hrel
    obtain ⟨hs0, hs1⟩ := sq_23 hk23
    by_cases hle : (k : Int) * k ≤ (q : Int)
    · have h22 := sq_22 hle h5
      by_cases hz : (q : Int) % (k : Int) = 0
      · have hz' : ((q : Int) % (k : Int) == 0) = true := by simpa using hz
        have hp : prq q = false := by
          cases h : prq (q : Int) with
          | false => rfl
          | true => exact absurd hz (prq_div h k hk2 (sq_lt hk2 hle))
        have HP := hid hp
        clear hz hp H
        go_wp2
        go_ret
        exact ⟨ret_bool HP.out.symm, rfl⟩
      · have hz' : ((q : Int) % (k : Int) == 0) = false := by simpa using hz
        have HN : NoDiv q (k + 1) := nodiv_succ H fun e => hz (by exact_mod_cast e)
        clear hz H
        go_wp2
        go_round
        case rel => exact ⟨k + 1, by omega, by omega, by go_num, HN⟩
        case measure => simp [intOf]; omega
    · have HP := hid (prm_prq9 ⟨h2, nodiv_whole h2 H (by
        have : (q : Int) < (k : Int) * k := by omega
        exact_mod_cast this)⟩ h5)
      clear H
      go_wp2
      go_ret
      exact ⟨ret_bool HP.out.symm, rfl⟩

theorem tt_bd9 {t : Nat} (h : t ≤ 9) : (0 : Int) ≤ ((t : Int) + 1) * (t + 2) ∧ ((t : Int) + 1) * (t + 2) ≤ 10 * 11 :=
  ⟨Int.mul_nonneg (by omega) (by omega), Int.mul_le_mul (by omega) (by omega) (by omega) (by omega)⟩
/-- The first i numbers of a local factor. -/
def lcs (k : Int) (i : Nat) : List Int := (List.range i).map (lcl k)
theorem lcs_s (k : Int) (i : Nat) : lcs k (i + 1) = lcs k i ++ [lcl k i] := by simp [lcs, List.range_succ]
theorem lcs_len (k : Int) (i : Nat) : (lcs k i).length = i := by simp [lcs]
theorem lcs_get {k : Int} {i n : Nat} (h : i < n) : (lcs k n).getD i 0 = lcl k i := by simp [lcs, h]
theorem lc_app {w : World} {B : Nat} {t : TypeId} {v : Value} {k z : Int} {i : Nat} (hz : z = lcl k i) (h : w.ownsRow B t 1 v (i + 1) ((lcs k i).map (Value.int .i64) ++ [.int .i64 z])) : w.ownsRow B t 1 v (i + 1) ((lcs k (i + 1)).map (Value.int .i64)) := by
  rw [lcs_s, ← hz]; simpa using h

set_option maxRecDepth 100000 in
set_option maxHeartbeats 2000000 in
theorem l09Local_any (k : Int) (w : World) : Calls Tryd.prog 103 #[.int .i64 k, .int .i64 9] w (LstV 10 (fun i => lcl k i) w) := by
  have O0 := owns_empty w w.heap.size 2 1 (Nat.le_refl _)
  have U0 := gr_alloc (Below.refl w.heap.size w) (.cells #[] 2)
  have H1 := hid (@lclk_1 k); have H2 := hid (@lclk_2 k); have H30 := hid (@lclk_30 k); have H31 := hid (@lclk_31 k); have H4 := hid (@lclk_4 k)
  have HX := hid (fun h1 h2 h3 h4 t => @lcl_x k t h1 h2 h3 h4)
  go_enter Tryd.func103, Tryd.ntmps103
  go_wp2_with fail
  go_loopw [5, 6] (fun v s wr => ∃ i : Nat, i ≤ 10 ∧ s = .int .i64 ((i : Int)) ∧ wr.ownsRow w.heap.size 2 1 v i ((lcs k i).map (Value.int .i64)) ∧ Below w.heap.size w wr) (fun _ s _ => (10 - intOf s).toNat)
  case atStart => exact ⟨0, by omega, rfl, O0, U0⟩
  case round =>
    obtain ⟨i, hi, rfl, hO, hU⟩ := hrel
    have HO := hid hO; have HU := hid hU
    have hv := hU.size
    clear hO hU O0 U0
    by_cases hle : i ≤ 9
    · have hle' : decide ((i : Int) ≤ 9) = true := by simp; omega
      obtain ⟨q0, q1⟩ := tt_bd9 hle
      by_cases h1 : k = 1
      · have b1 : (k == 1) = true := by simpa using h1
        have HE := hid (H1.out h1 i)
        clear h1
        go_wp2_with (at_builtin; refine app_i64 rfl _ _ rfl w.heap.size rfl HO.out rfl (by omega) (by omega) ?_)
        intro v1 w1 O1 hg1
        have HO1 := hid (lc_app (by first | exact HE.out.symm | (rw [HE.out])) O1)
        have HU1 := hid (gr_own (gr_alloc HU.out _) hg1 (fun j hj => (HO.out.lt j hj).1))
        clear O1 hg1
        go_wp2_with fail
        go_roundw
        case rel => exact ⟨i + 1, by omega, by go_num, HO1.out, HU1.out⟩
        case measure => simp [intOf]; omega
      · have b1 : (k == 1) = false := by simpa using h1
        by_cases h2 : k = 2
        · have b2 : (k == 2) = true := by simpa using h2
          have HE := hid (H2.out h2 i)
          clear h1 h2
          go_wp2_with (at_builtin; refine app_i64 rfl _ _ rfl w.heap.size rfl HO.out rfl (by omega) (by omega) ?_)
          intro v1 w1 O1 hg1
          have HO1 := hid (lc_app (by first | exact HE.out.symm | (rw [HE.out])) O1)
          have HU1 := hid (gr_own (gr_alloc HU.out _) hg1 (fun j hj => (HO.out.lt j hj).1))
          clear O1 hg1
          go_wp2_with fail
          go_roundw
          case rel => exact ⟨i + 1, by omega, by go_num, HO1.out, HU1.out⟩
          case measure => simp [intOf]; omega
        · have b2 : (k == 2) = false := by simpa using h2
          by_cases h3 : k = 3
          · have b3 : (k == 3) = true := by simpa using h3
            have b4 : (k == 4) = false := by simp; omega
            by_cases h30 : i % 3 = 0
            · have b30 : ((i : Int) % 3 == 0) = true := by simp; omega
              have HE := hid (H30.out h3 i h30)
              clear h1 h2 h3 h30
              go_wp2_with (at_builtin; refine app_i64 rfl _ _ rfl w.heap.size rfl HO.out rfl (by omega) (by omega) ?_)
              intro v1 w1 O1 hg1
              have HO1 := hid (lc_app (by first | exact HE.out.symm | (rw [HE.out])) O1)
              have HU1 := hid (gr_own (gr_alloc HU.out _) hg1 (fun j hj => (HO.out.lt j hj).1))
              clear O1 hg1
              go_wp2_with fail
              go_roundw
              case rel => exact ⟨i + 1, by omega, by go_num, HO1.out, HU1.out⟩
              case measure => simp [intOf]; omega
            · have b30 : ((i : Int) % 3 == 0) = false := by simp; omega
              have HE := hid (H31.out h3 i h30)
              clear h1 h2 h3 h30
              go_wp2_with (at_builtin; refine app_i64 rfl _ _ rfl w.heap.size rfl HO.out rfl (by omega) (by omega) ?_)
              intro v1 w1 O1 hg1
              have HO1 := hid (lc_app (by first | exact HE.out.symm | (rw [HE.out])) O1)
              have HU1 := hid (gr_own (gr_alloc HU.out _) hg1 (fun j hj => (HO.out.lt j hj).1))
              clear O1 hg1
              go_wp2_with fail
              go_roundw
              case rel => exact ⟨i + 1, by omega, by go_num, HO1.out, HU1.out⟩
              case measure => simp [intOf]; omega
          · have b3 : (k == 3) = false := by simpa using h3
            by_cases h4 : k = 4
            · have b4 : (k == 4) = true := by simpa using h4
              have HE := hid (H4.out h4 i)
              clear h1 h2 h3 h4
              go_wp2_with (at_builtin; refine app_i64 rfl _ _ rfl w.heap.size rfl HO.out rfl (by omega) (by omega) ?_)
              intro v1 w1 O1 hg1
              have HO1 := hid (lc_app (by first | exact HE.out.symm | (rw [HE.out])) O1)
              have HU1 := hid (gr_own (gr_alloc HU.out _) hg1 (fun j hj => (HO.out.lt j hj).1))
              clear O1 hg1
              go_wp2_with fail
              go_roundw
              case rel => exact ⟨i + 1, by omega, by go_num, HO1.out, HU1.out⟩
              case measure => simp [intOf]; omega
            · have b4 : (k == 4) = false := by simpa using h4
              have HE := hid (HX.out h1 h2 h3 h4 i)
              clear h1 h2 h3 h4
              go_wp2_with (at_builtin; refine app_i64 rfl _ _ rfl w.heap.size rfl HO.out rfl (by omega) (by omega) ?_)
              intro v1 w1 O1 hg1
              have HO1 := hid (lc_app (by first | exact HE.out.symm | (rw [HE.out])) O1)
              have HU1 := hid (gr_own (gr_alloc HU.out _) hg1 (fun j hj => (HO.out.lt j hj).1))
              clear O1 hg1
              go_wp2_with fail
              go_roundw
              case rel => exact ⟨i + 1, by omega, by go_num, HO1.out, HU1.out⟩
              case measure => simp [intOf]; omega
    · have e : i = 10 := by omega
      subst e
      have HV := hid ((OwnV.of_owns (L := lcs k 10) (by rw [lcs_len]; exact HO.out)))
      clear HO
      go_wp2_with fail
      go_ret
      refine ⟨_, rfl, ?_, HU.out⟩
      have := HV.out
      rw [lcs_len] at this
      exact this.congr fun j hj => lcs_get hj


end Go.Proofs.YtihcmgjfkiaelaaDoor
