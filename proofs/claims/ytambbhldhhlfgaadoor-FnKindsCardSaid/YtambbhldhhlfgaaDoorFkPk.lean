/- Chapter 5: counts of kinds. -/
import Derived.Test.YtambbhldhhlfgaaDoorFkZ3
import Derived.Test.YtambbhldhhlfgaaDoorFkBx
namespace Go.Proofs.YtambbhldhhlfgaaDoor
open Go.RowKit

/-- The number of the forms modulo p of a kind. -/
def ckv (p k : Int) : Int :=
  if k = 0 then 1 else if k = 1 then (p - 1) * (p + 1) * p * (p - 1) / 6 else if k = 2 then (p - 1) * (p + 1) * p * (p - 1) / 2
  else if k = 3 then (p - 1) * (p + 1) * p * (p - 1) / 3 else if k = 4 then (p - 1) * (p + 1) * p else (p - 1) * (p + 1)
def ckc (p k : Int) : Int := if prm p && rng 0 5 k then 0 else 2
def ck0 (p k : Int) : Int := if prm p && rng 0 5 k then ckv p k else 0
theorem mulk {x y X Y : Int} (hx : 0 ≤ x) (hX : x ≤ X) (hy : 0 ≤ y) (hY : y ≤ Y) : 0 ≤ x * y ∧ x * y ≤ X * Y :=
  ⟨Int.mul_nonneg hx hy, Int.mul_le_mul hX hY hy (by omega)⟩
theorem ck_bd {p : Int} (h2 : 2 ≤ p) (h : p ≤ 97) : (0 ≤ (p - 1) * (p + 1) ∧ (p - 1) * (p + 1) ≤ 10000) ∧ (0 ≤ (p - 1) * (p + 1) * p ∧ (p - 1) * (p + 1) * p ≤ 1000000) ∧ (0 ≤ (p - 1) * (p + 1) * p * (p - 1) ∧ (p - 1) * (p + 1) * p * (p - 1) ≤ 100000000) := by
  have a := mulk (x := p - 1) (y := p + 1) (X := 96) (Y := 98) (by omega) (by omega) (by omega) (by omega)
  have b := mulk (x := (p - 1) * (p + 1)) (y := p) (X := 10000) (Y := 97) a.1 (by omega) (by omega) (by omega)
  have c := mulk (x := (p - 1) * (p + 1) * p) (y := p - 1) (X := 1000000) (Y := 96) b.1 (by omega) (by omega) (by omega)
  omega
theorem ck_bd3 {p : Int} (h2 : 2 ≤ p) (h : p ≤ 97) : (0 ≤ p * p ∧ p * p ≤ 10000) ∧ (0 ≤ p * p * p ∧ p * p * p ≤ 1000000) ∧ (0 ≤ (p - 1) * (p * p * p - p) ∧ (p - 1) * (p * p * p - p) ≤ 100000000) ∧ (p - 1) * (p * p * p - p) = (p - 1) * (p + 1) * p * (p - 1) := by
  have a := mulk (x := p) (y := p) (X := 97) (Y := 97) (by omega) (by omega) (by omega) (by omega)
  have b := mulk (x := p * p) (y := p) (X := 10000) (Y := 97) a.1 (by omega) (by omega) (by omega)
  have c := ck_bd h2 h
  have e : (p - 1) * (p * p * p - p) = (p - 1) * (p + 1) * p * (p - 1) := by grind
  omega

set_option maxHeartbeats 1000000 in
theorem sCountKind_any (p k : Int) (w : World) : Calls Tryd.prog 71 #[.int .i64 p, .int .i64 k] w fun e w' => e = .returned (.tuple #[.int .i64 (ck0 p k), .int .i64 (ckc p k)]) ∧ Below w.heap.size w w' := by
  cases hp : prm p with
  | false =>
    have H := hid (show ck0 p k = 0 ∧ ckc p k = 2 by simp [ck0, ckc, hp])
    go_enter Tryd.func71, Tryd.ntmps71
    go_wp2_with (go_at_call 152; refine (l05Prime_any _ _).mono ?_; rintro e w' ⟨rfl, rfl⟩)
    go_ret2
    rw [H.out.1, H.out.2]
    exact ⟨rfl, Below.refl _ _⟩
  | true =>
    obtain ⟨h2, h97⟩ := prm_rng hp
    cases hk : rng 0 5 k with
    | false =>
      have H := hid (show ck0 p k = 0 ∧ ckc p k = 2 by simp [ck0, ckc, hp, hk])
      go_enter Tryd.func71, Tryd.ntmps71
      go_wp2_with (first | (go_at_call 152; refine (l05Prime_any _ _).mono ?_; rintro e w' ⟨rfl, rfl⟩) | (go_at_call 77; refine (l01In_any k 0 5 _).mono ?_; rintro e w' ⟨rfl, rfl⟩))
      go_ret2
      rw [H.out.1, H.out.2]
      exact ⟨rfl, Below.refl _ _⟩
    | true =>
      have hv : ck0 p k = ckv p k := by simp [ck0, hp, hk]
      have hc : ckc p k = 0 := by simp [ckc, hp, hk]
      have hkr := rng_t hk
      obtain ⟨⟨a1, a2⟩, ⟨b1, b2⟩, c1, c2⟩ := ck_bd h2 h97
      obtain ⟨⟨d1, d2⟩, ⟨e1, e2⟩, ⟨f1, f2⟩, hE⟩ := ck_bd3 h2 h97
      have H := hid hv; have HC := hid hc; have HE := hid hE
      clear hv hc hE
      have hk6 : k = 0 ∨ k = 1 ∨ k = 2 ∨ k = 3 ∨ k = 4 ∨ k = 5 := by omega
      rcases hk6 with rfl | rfl | rfl | rfl | rfl | rfl
      all_goals
        go_enter Tryd.func71, Tryd.ntmps71
        go_wp2_with (first | (go_at_call 152; refine (l05Prime_any _ _).mono ?_; rintro e w' ⟨rfl, rfl⟩) | (go_at_call 77; refine (l01In_any _ 0 5 _).mono ?_; rintro e w' ⟨rfl, rfl⟩))
        go_ret2
        rw [H.out, HC.out]
        first
          | exact ⟨rfl, Below.refl _ _⟩
          | exact ⟨ret_tup2 (by unfold ckv; simp [HE.out]) rfl, Below.refl _ _⟩


end Go.Proofs.YtambbhldhhlfgaaDoor
