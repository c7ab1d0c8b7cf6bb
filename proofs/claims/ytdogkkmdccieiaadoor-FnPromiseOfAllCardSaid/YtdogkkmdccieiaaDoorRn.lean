/- Chapter 5: the model's multiplicities and zeros. -/
import Derived.Test.YtdogkkmdccieiaaDoorZ8
namespace Go.Proofs.YtdogkkmdccieiaaDoor
open Go.RowKit

theorem tm0 (n p : Int) : (n.tmod p == 0) = decide (p ∣ n) := by
  rw [Bool.eq_iff_iff]; simp [Int.dvd_iff_tmod_eq_zero]
theorem and4 (a b c d : Prop) [Decidable a] [Decidable b] [Decidable c] [Decidable d] : (decide a && decide b && decide c && decide d) = decide (a ∧ b ∧ c ∧ d) := by
  rw [Bool.eq_iff_iff]; simp [and_assoc]



theorem mmF3 {p u v t : Int} (h : (t.tmod p == 0) = false) : mm3 p u v t = 0 := by
  rw [tm0] at h; simp at h; simp [mm3, h]
theorem mmF2 {p u v t : Int} (h3 : (t.tmod p == 0) = true) (h : (v.tmod p == 0) = false) : mm3 p u v t = 1 := by
  rw [tm0] at h h3; simp at h h3; simp [mm3, h, h3]
theorem mmF1 {p u v t : Int} (h3 : (t.tmod p == 0) = true) (h2 : (v.tmod p == 0) = true) (h : (u.tmod p == 0) = false) : mm3 p u v t = 2 := by
  rw [tm0] at h h2 h3; simp at h h2 h3; simp [mm3, h, h2, h3]
theorem mmF0 {p u v t : Int} (h3 : (t.tmod p == 0) = true) (h2 : (v.tmod p == 0) = true) (h : (u.tmod p == 0) = true) : mm3 p u v t = 3 := by
  rw [tm0] at h h2 h3; simp at h h2 h3; simp [mm3, h, h2, h3]
/-- The changed form at a point. -/
theorem chg1 {a b c d x : Int} (ha : -1000 ≤ a ∧ a ≤ 1000) (hb : -1000 ≤ b ∧ b ≤ 1000) (hc : -1000 ≤ c ∧ c ≤ 1000) (hd : -1000 ≤ d ∧ d ≤ 1000) (hx : -498 ≤ x ∧ x ≤ 498) :
    wrap64 (cB a b c d 1 x 0 1) = g1 a b x ∧ wrap64 (cC a b c d 1 x 0 1) = g2 a b c x ∧ wrap64 (cA a b c d x 1) = g3 a b c d x := by
  obtain ⟨_, h1, h2, h3⟩ := ch_wr (p := 1) (q := x) (r := 0) (s := 1) ha hb hc hd (by omega) (by omega) (by omega) (by omega)
  refine ⟨?_, ?_, ?_⟩
  · rw [h1]; unfold cB g1; grind
  · rw [h2]; unfold cC g2; grind
  · rw [h3]; unfold cA g3 vx; grind
theorem chg0 {a b c d : Int} (ha : -1000 ≤ a ∧ a ≤ 1000) (hb : -1000 ≤ b ∧ b ≤ 1000) (hc : -1000 ≤ c ∧ c ≤ 1000) (hd : -1000 ≤ d ∧ d ≤ 1000) :
    wrap64 (cB a b c d 0 1 1 0) = c ∧ wrap64 (cC a b c d 0 1 1 0) = b ∧ wrap64 (cA a b c d 1 0) = a := by
  obtain ⟨_, h1, h2, h3⟩ := ch_wr (p := 0) (q := 1) (r := 1) (s := 0) ha hb hc hd (by omega) (by omega) (by omega) (by omega)
  refine ⟨?_, ?_, ?_⟩
  · rw [h1]; unfold cB; grind
  · rw [h2]; unfold cC; grind
  · rw [h3]; unfold cA vx; grind




end Go.Proofs.YtdogkkmdccieiaaDoor
