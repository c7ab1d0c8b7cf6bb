/- Chapter 5: the model's list of roots modulo a prime. -/
import Derived.Test.YtdogkkmdccieiaaDoorRo
namespace Go.Proofs.YtdogkkmdccieiaaDoor
open Go.RowKit

theorem info_sl5 : (Tryd.prog.info? 44).map (fun i => (i.zero, i.size, i.bytes)) = some (some (.slice none 0 0), 1, 24) := by kernel_rfl
def rw3 (r : Int × Int × Int) : List Int := [r.1, r.2.1, r.2.2]
theorem ptm_k {n k : Nat} (h : k < n) (h' : k < (ptm (n : Int)).length) : (ptm (n : Int))[k] = ((k : Int), 1) := by
  simp [ptm, ptl, h]
theorem ptm_e {n : Nat} (h' : n < (ptm (n : Int)).length) : (ptm (n : Int))[n] = (1, 0) := by
  simp [ptm, ptl]
/-- The root at a point: none, or one of a multiplicity greater than 0. -/
theorem rt_or (m : Int) (L : List Int) (x y : Int) {M : Nat} (hM : mlt m x y 4 L = M) : ((M : Int) = 0 ∧ rt1 m L (x, y) = []) ∨ (0 < (M : Int) ∧ rt1 m L (x, y) = [(x, y, (M : Int))]) := by
  rcases Nat.eq_zero_or_pos M with h | h
  · subst h; exact .inl ⟨rfl, by simp [rt1, hM]⟩
  · exact .inr ⟨by omega, by simp [rt1, hM, show ¬ M = 0 by omega]⟩
theorem map_app {R R' : List (Int × Int × Int)} {r : List (Int × Int × Int)} (h : R' = R ++ r) : R'.map rw3 = R.map rw3 ++ r.map rw3 := by rw [h, List.map_append]
/-- A list of rows that the call laid. -/
def RwOut (s : Nat) (R : List (List Int)) (w : World) (e : Ending) (w' : World) : Prop := ∃ v, e = .returned v ∧ RwX w.heap.size w' v s R ∧ Below w.heap.size w w'




end Go.Proofs.YtdogkkmdccieiaaDoor
