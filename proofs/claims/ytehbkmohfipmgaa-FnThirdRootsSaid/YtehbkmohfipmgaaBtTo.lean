/- Chapter 10: what TriplesWith lists has the root form. Mathematics alone. -/
import Derived.Test.YtehbkmohfipmgaaBtZp
import Derived.Test.YtehbkmohfipmgaaBtZ8
namespace Go.Proofs.Ytehbkmohfipmgaa
open Go.RowKit

theorem t1_mem {x y z n a e g : Int} : ∀ (j : Nat) (f : Fm), f ∈ t1 x y z n a e g j → ∃ k : Nat, k < j ∧ f = (a, 3 * e, 3 * g, -n + (k : Int)) ∧ tq x y z a e g (-n + k) = true := by
  intro j
  induction j with
  | zero => intro f h; simp [t1] at h
  | succ j ih =>
    intro f h
    simp only [t1, List.mem_append] at h
    rcases h with h | h
    · obtain ⟨k, h1, h2⟩ := ih f h
      exact ⟨k, by omega, h2⟩
    · split at h
      · rename_i hq
        exact ⟨j, by omega, by simpa using h, hq⟩
      · simp at h
theorem t2_mem {x y z n a e : Int} : ∀ (j : Nat) (f : Fm), f ∈ t2 x y z n a e j → ∃ k : Nat, k < j ∧ f ∈ t1 x y z n a e (-n + k) (2 * n + 1).toNat := by
  intro j
  induction j with
  | zero => intro f h; simp [t2] at h
  | succ j ih =>
    intro f h
    simp only [t2, List.mem_append] at h
    rcases h with h | h
    · obtain ⟨k, h1, h2⟩ := ih f h
      exact ⟨k, by omega, h2⟩
    · exact ⟨j, by omega, h⟩
theorem t3_mem {x y z n a : Int} : ∀ (j : Nat) (f : Fm), f ∈ t3 x y z n a j → ∃ k : Nat, k < j ∧ f ∈ t2 x y z n a (-n + k) (2 * n + 1).toNat := by
  intro j
  induction j with
  | zero => intro f h; simp [t3] at h
  | succ j ih =>
    intro f h
    simp only [t3, List.mem_append] at h
    rcases h with h | h
    · obtain ⟨k, h1, h2⟩ := ih f h
      exact ⟨k, by omega, h2⟩
    · exact ⟨j, by omega, h⟩
theorem t4_mem {x y z n : Int} : ∀ (j : Nat) (f : Fm), f ∈ t4 x y z n j → ∃ k : Nat, k < j ∧ f ∈ t3 x y z n (-n + k) (2 * n + 1).toNat := by
  intro j
  induction j with
  | zero => intro f h; simp [t4] at h
  | succ j ih =>
    intro f h
    simp only [t4, List.mem_append] at h
    rcases h with h | h
    · obtain ⟨k, h1, h2⟩ := ih f h
      exact ⟨k, by omega, h2⟩
    · exact ⟨j, by omega, h⟩
theorem isF_in {a b c d : Int} (ha : -1000 ≤ a ∧ a ≤ 1000) (hb : -1000 ≤ b ∧ b ≤ 1000) (hc : -1000 ≤ c ∧ c ≤ 1000) (hd : -1000 ≤ d ∧ d ≤ 1000) : isF a b c d = true := by
  simp [isF, rng]; omega
theorem tls_root {x y z n : Int} (hn : 1 ≤ n ∧ n ≤ 5) {f : Fm} (h : f ∈ tls x y z n) : rfc f.1 f.2.1 f.2.2.1 f.2.2.2 = 0 ∧ rt1 f.1 (f.2.1.tdiv 3) (f.2.2.1.tdiv 3) = x ∧ rt2 f.1 (f.2.1.tdiv 3) (f.2.2.1.tdiv 3) f.2.2.2 = y ∧ rt3 (f.2.1.tdiv 3) (f.2.2.1.tdiv 3) f.2.2.2 = z := by
  obtain ⟨k, hk, h⟩ := t4_mem _ f h
  obtain ⟨k', hk', h⟩ := t3_mem _ f h
  obtain ⟨k'', hk'', h⟩ := t2_mem _ f h
  obtain ⟨l, hl, rfl, hq⟩ := t1_mem _ f h
  generalize ea : -n + (k : Int) = a at *
  generalize ee : -n + (k' : Int) = e at *
  generalize eg : -n + (k'' : Int) = g at *
  generalize ed : -n + (l : Int) = d at *
  have e1 : (3 * e).tdiv 3 = e := Int.mul_tdiv_cancel_left _ (by omega)
  have e2 : (3 * g).tdiv 3 = g := Int.mul_tdiv_cancel_left _ (by omega)
  have m1 : (3 * e).tmod 3 = 0 := Int.mul_tmod_right _ _
  have m2 : (3 * g).tmod 3 = 0 := Int.mul_tmod_right _ _
  have hF := isF_in (a := a) (b := 3 * e) (c := 3 * g) (d := d) (by omega) (by omega) (by omega) (by omega)
  have hT : tri a (3 * e) (3 * g) d = true := by simp [tri, hF, m1, m2]
  refine ⟨by simp [rfc, hF, hT], ?_⟩
  dsimp only
  rw [e1, e2]
  simp only [tq, qeq, Bool.and_eq_true, beq_iff_eq] at hq
  simpa [and_assoc] using hq

end Go.Proofs.Ytehbkmohfipmgaa
