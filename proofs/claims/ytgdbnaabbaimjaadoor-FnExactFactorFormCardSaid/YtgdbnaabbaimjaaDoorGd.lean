/- Chapter 5: divisors, the model's. -/
import Derived.Test.YtgdbnaabbaimjaaDoorAp
namespace Go.Proofs.YtgdbnaabbaimjaaDoor
open Go.RowKit

/-- The divisors of D among 1, .., k. -/
def dvK (D : Int) (k : Nat) : List Int := ((List.range k).map fun j : Nat => (j : Int) + 1).filter fun y => D % y == 0
theorem dvK_s (D : Int) (k : Nat) : dvK D (k + 1) = dvK D k ++ (if (D % ((k : Int) + 1) == 0) = true then [(k : Int) + 1] else []) := by
  unfold dvK
  rw [List.range_succ, List.map_append, List.filter_append]
  simp [List.filter_cons]
theorem dvK_t {D : Int} {k : Nat} (h : (D % ((k : Int) + 1) == 0) = true) : dvK D (k + 1) = dvK D k ++ [(k : Int) + 1] := by rw [dvK_s, if_pos h]
theorem dvK_f {D : Int} {k : Nat} (h : (D % ((k : Int) + 1) == 0) = false) : dvK D (k + 1) = dvK D k := by rw [dvK_s, h]; simp
theorem dvK_len (D : Int) (k : Nat) : (dvK D k).length ≤ k := by
  have := List.length_filter_le (fun y : Int => D % y == 0) ((List.range k).map fun j : Nat => (j : Int) + 1)
  simpa [dvK] using this
theorem dv_app {w : World} {B : Nat} {t : TypeId} {v : Value} {D : Int} {k : Nat} (hp : dvK D (k + 1) = dvK D k ++ [(k : Int) + 1]) (h : w.ownsRow B t 1 v ((dvK D k).length + 1) ((dvK D k).map (Value.int .i64) ++ [.int .i64 ((k : Int) + 1)])) : w.ownsRow B t 1 v (dvK D (k + 1)).length ((dvK D (k + 1)).map (Value.int .i64)) := by
  rw [hp]; simpa using h

/-- A row of integers of the call's own. -/
def DvOut (L : List Int) (w : World) (e : Ending) (w' : World) : Prop := ∃ v, e = .returned v ∧ w'.ownsRow w.heap.size 2 1 v L.length (L.map (Value.int .i64)) ∧ Below w.heap.size w w'

set_option maxRecDepth 100000 in
set_option maxHeartbeats 1000000 in
theorem l05Divisors_any (n : Int) (N : Nat) (w : World) (h0 : -1000 ≤ n) (h1 : n ≤ 1000) (hN : N = n.natAbs) : Calls Tryd.prog 84 #[.int .i64 n] w (DvOut (dvK N N) w) := by
  have hcase : (n < -n ∧ -n = (N : Int)) ∨ (¬ n < -n ∧ n = (N : Int)) := by omega
  have hN' : N ≤ 1000 := by omega
  have O0 := owns_empty w w.heap.size 2 1 (Nat.le_refl _)
  have U0 := gr_alloc (Below.refl w.heap.size w) (.cells #[] 2)
  obtain ⟨i0, hi, hi0, hi1, hi2⟩ := info_parts info_l64
  have HI := hid hi; have HZ0 := hid hi0; have HZ1 := hid hi1; have HZ2 := hid hi2
  clear hi hi0 hi1 hi2 hN
  go_enter Tryd.func84, Tryd.ntmps84
  rcases hcase with ⟨h1', h2⟩ | ⟨h1', h2⟩
  all_goals
    go_wp2_with fail
    go_loopw [3, 4] (fun s3 s4 wr => ∃ k : Nat, k ≤ N ∧ s4 = .int .i64 (((k : Int) + 1)) ∧ wr.ownsRow w.heap.size 2 1 s3 (dvK N k).length ((dvK N k).map (Value.int .i64)) ∧ Below w.heap.size w wr) (fun _ s4 _ => N + 1 - (intOf s4).toNat)
    case atStart => exact ⟨0, Nat.zero_le _, rfl, O0, U0⟩
    case round =>
      obtain ⟨k, hk, rfl, hO, hU⟩ := hrel
      have HO := hid hO; have HU := hid hU
      have hl := dvK_len N k
      have hv := hU.size
      clear hO hU O0 U0
      by_cases hlt : k < N
      · cases hp : ((N : Int) % ((k : Int) + 1) == 0) with
        | false =>
          have HP := hid (dvK_f hp)
          go_wp2
          go_roundw
          case rel => exact ⟨k + 1, by omega, by go_num, by rw [HP.out]; exact HO.out, HU.out⟩
          case measure => simp [intOf]; omega
        | true =>
          have HP := hid (dvK_t hp)
          go_wp2_with (at_builtin; refine app_i64 rfl _ _ rfl w.heap.size rfl HO.out rfl (by omega) (by omega) ?_)
          intro y1 W1 O1 hg1
          have HO1 := hid (dv_app HP.out O1)
          have HU1 := hid (gr_own (gr_alloc HU.out _) hg1 (fun j hj => (HO.out.lt j hj).1))
          clear O1 hg1
          go_wp2
          go_roundw
          case rel => exact ⟨k + 1, by omega, by go_num, HO1.out, HU1.out⟩
          case measure => simp [intOf]; omega
      · have e : k = N := by omega
        subst e
        go_wp2
        go_ret
        exact ⟨_, rfl, HO.out, HU.out⟩


end Go.Proofs.YtgdbnaabbaimjaaDoor
