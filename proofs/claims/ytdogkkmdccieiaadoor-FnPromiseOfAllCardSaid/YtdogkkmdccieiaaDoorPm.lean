/- Primes of at most 97: what both sides ask. No Go function in sight. -/
import Derived.Test.YtdogkkmdccieiaaDoorZ1
namespace Go.Proofs.YtdogkkmdccieiaaDoor
open Go.RowKit

/-- Is n a prime of at most 97? -/
def prmN (n : Nat) : Bool := decide (2 ≤ n) && decide (n ≤ 97) && (List.range 98).all fun k => decide (k < 2) || decide (n ≤ k) || decide (n % k ≠ 0)
def prm (p : Int) : Bool := decide (0 ≤ p) && prmN p.toNat
theorem prm_rng {p : Int} (h : prm p = true) : 2 ≤ p ∧ p ≤ 97 := by
  simp only [prm, prmN, Bool.and_eq_true, decide_eq_true_eq] at h
  omega
theorem prm_div {p : Int} (h : prm p = true) (k : Nat) (h2 : 2 ≤ k) (hk : (k : Int) < p) : p % (k : Int) ≠ 0 := by
  have hr := prm_rng h
  simp only [prm, prmN, Bool.and_eq_true, decide_eq_true_eq, List.all_eq_true, Bool.or_eq_true] at h
  obtain ⟨n, rfl⟩ : ∃ n : Nat, p = n := ⟨p.toNat, by omega⟩
  have h' := h.2.2 k (List.mem_range.2 (by omega))
  simp only [Int.toNat_natCast] at h'
  rcases h' with (h' | h') | h'
  · omega
  · omega
  · exact fun e => h' (by exact_mod_cast e)
theorem prm_mk {p : Int} (h2 : 2 ≤ p) (h : p ≤ 97) (hd : ∀ k : Nat, 2 ≤ k → (k : Int) < p → p % (k : Int) ≠ 0) : prm p = true := by
  obtain ⟨n, rfl⟩ : ∃ n : Nat, p = n := ⟨p.toNat, by omega⟩
  simp only [prm, prmN, Bool.and_eq_true, decide_eq_true_eq, List.all_eq_true, Bool.or_eq_true, Int.toNat_natCast]
  refine ⟨by omega, ⟨by omega, by omega⟩, fun k _ => ?_⟩
  by_cases h0 : k < 2
  · exact .inl (.inl h0)
  by_cases h1 : n ≤ k
  · exact .inl (.inr h1)
  · refine .inr fun e => hd k (by omega) (by omega) (by exact_mod_cast e)
/-- Is n a prime of at most 499? -/
def prqN (n : Nat) : Bool := decide (2 ≤ n) && decide (n ≤ 499) && (List.range 500).all fun k => decide (k < 2) || decide (n ≤ k) || decide (n % k ≠ 0)
def prq (p : Int) : Bool := decide (0 ≤ p) && prqN p.toNat
theorem prq_rng {p : Int} (h : prq p = true) : 2 ≤ p ∧ p ≤ 499 := by
  simp only [prq, prqN, Bool.and_eq_true, decide_eq_true_eq] at h
  omega
theorem prq_div {p : Int} (h : prq p = true) (k : Nat) (h2 : 2 ≤ k) (hk : (k : Int) < p) : p % (k : Int) ≠ 0 := by
  have hr := prq_rng h
  simp only [prq, prqN, Bool.and_eq_true, decide_eq_true_eq, List.all_eq_true, Bool.or_eq_true] at h
  obtain ⟨n, rfl⟩ : ∃ n : Nat, p = n := ⟨p.toNat, by omega⟩
  have h' := h.2.2 k (List.mem_range.2 (by omega))
  simp only [Int.toNat_natCast] at h'
  rcases h' with (h' | h') | h'
  · omega
  · omega
  · exact fun e => h' (by exact_mod_cast e)
theorem prq_mk {p : Int} (h2 : 2 ≤ p) (h : p ≤ 499) (hd : ∀ k : Nat, 2 ≤ k → (k : Int) < p → p % (k : Int) ≠ 0) : prq p = true := by
  obtain ⟨n, rfl⟩ : ∃ n : Nat, p = n := ⟨p.toNat, by omega⟩
  simp only [prq, prqN, Bool.and_eq_true, decide_eq_true_eq, List.all_eq_true, Bool.or_eq_true, Int.toNat_natCast]
  refine ⟨by omega, ⟨by omega, by omega⟩, fun k _ => ?_⟩
  by_cases h0 : k < 2
  · exact .inl (.inl h0)
  by_cases h1 : n ≤ k
  · exact .inl (.inr h1)
  · refine .inr fun e => hd k (by omega) (by omega) (by exact_mod_cast e)
theorem prm_prq {p : Int} (h : prm p = true) : prq p = true := by
  obtain ⟨h2, h9⟩ := prm_rng h
  exact prq_mk h2 (by omega) fun k a b => prm_div h k a b
theorem prm_small : ∀ n : Nat, n < 98 → 2 ≤ n → ((List.range 10).all fun k => decide (k < 2) || decide (n < k * k) || decide (n % k ≠ 0)) = true → prmN n = true := by decide +kernel
/-- It is enough to ask the divisors whose square is not greater. -/
theorem prm_sq {p : Int} (h2 : 2 ≤ p) (h : p ≤ 97) (hd : ∀ k : Nat, 2 ≤ k → ((k * k : Nat) : Int) ≤ p → p % (k : Int) ≠ 0) : prm p = true := by
  obtain ⟨n, rfl⟩ : ∃ n : Nat, p = n := ⟨p.toNat, by omega⟩
  simp only [prm, Bool.and_eq_true, decide_eq_true_eq, Int.toNat_natCast]
  refine ⟨by omega, prm_small n (by omega) (by omega) ?_⟩
  simp only [List.all_eq_true, Bool.or_eq_true, decide_eq_true_eq]
  intro k _
  by_cases h0 : k < 2
  · exact .inl (.inl h0)
  by_cases h1 : n < k * k
  · exact .inl (.inr h1)
  · refine .inr fun e => hd k (by omega) (by omega) (by exact_mod_cast e)
theorem prm_f {p : Int} {k : Nat} (h2 : 2 ≤ k) (hk : (k : Int) < p) (h : p % (k : Int) = 0) : prm p = false := by
  cases hp : prm p with
  | false => rfl
  | true => exact absurd h (prm_div hp k h2 hk)
theorem prm_out {p : Int} (h : ¬ (2 ≤ p ∧ p ≤ 97)) : prm p = false := by
  cases hp : prm p with
  | false => rfl
  | true => exact absurd (prm_rng hp) h
theorem sq_lt {k : Nat} {p : Int} (h2 : 2 ≤ k) (h : (k : Int) * k ≤ p) : (k : Int) < p := by
  have : (k : Int) * 2 ≤ k * k := Int.mul_le_mul_of_nonneg_left (by omega) (by omega)
  omega
theorem sq_bd {k : Nat} (h : k ≤ 10) : (0 : Int) ≤ (k : Int) * k ∧ (k : Int) * k ≤ 100 := by
  have h1 : (k : Int) * k ≤ k * 10 := Int.mul_le_mul_of_nonneg_left (by omega) (by omega)
  have h0 : (0 : Int) ≤ (k : Int) * k := Int.mul_nonneg (by omega) (by omega)
  omega
theorem sq_10 {k : Nat} {p : Int} (h : (k : Int) * k ≤ p) (hp : p ≤ 97) : k ≤ 9 := by
  by_cases hk : k ≤ 9
  · exact hk
  · have : (10 : Int) * 10 ≤ (k : Int) * k := Int.mul_le_mul (by omega) (by omega) (by omega) (by omega)
    omega
/-- The primes less than k. -/
def prl : Nat → List Int
  | 0 => []
  | k + 1 => if prm k then prl k ++ [(k : Int)] else prl k
theorem prl_t {k : Nat} (h : prm k = true) : prl (k + 1) = prl k ++ [(k : Int)] := by simp [prl, h]
theorem prl_f {k : Nat} (h : prm k = false) : prl (k + 1) = prl k := by simp [prl, h]
theorem prl_len (k : Nat) : (prl k).length ≤ k := by
  induction k with
  | zero => simp [prl]
  | succ k ih =>
    unfold prl
    split
    · simp; omega
    · omega
theorem prl_2 : prl 2 = [] := by decide +kernel
theorem prl_mem {k : Nat} {q : Int} (h : q ∈ prl k) : prm q = true ∧ q < k := by
  induction k with
  | zero => simp [prl] at h
  | succ k ih =>
    unfold prl at h
    split at h
    · rename_i hp
      rcases List.mem_append.1 h with h | h
      · have := ih h; exact ⟨this.1, by omega⟩
      · simp at h; subst h; exact ⟨hp, by omega⟩
    · have := ih h; exact ⟨this.1, by omega⟩
/-- The code of a number of at most 97. -/
def nco (n : Int) : Int := if rng 2 97 n then 0 else 2
/-- The code of a form and a prime. -/
def fpc (a b c d p : Int) : Int := if isF a b c d then (if prm p then 0 else 2) else 1
theorem fpc_0 {a b c d p : Int} : fpc a b c d p = 0 ↔ isF a b c d = true ∧ prm p = true := by
  unfold fpc; split
  · split <;> simp_all
  · simp_all


end Go.Proofs.YtdogkkmdccieiaaDoor
