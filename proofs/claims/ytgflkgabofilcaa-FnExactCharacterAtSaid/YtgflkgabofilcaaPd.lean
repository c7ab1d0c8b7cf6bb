/- Chapter 5: a form and a prime; multiples; ramified primes. -/
import Derived.Test.YtgflkgabofilcaaPc
import Derived.Test.YtgflkgabofilcaaC1d
namespace Go.Proofs.Ytgflkgabofilcaa
open Go.RowKit

/-- Is n a multiple of m? (0 has the multiple 0 alone.) -/
def mul0 (n m : Int) : Bool := if m = 0 then decide (n = 0) else decide (n.tmod m = 0)
theorem mul0_p {n m : Int} (h : 2 ≤ m) : mul0 n m = decide (n.tmod m = 0) := by unfold mul0; rw [if_neg (by omega)]
theorem beq_dec (a b : Int) : (a == b) = decide (a = b) := by rw [Bool.eq_iff_iff]; simp
theorem tmod_6 (n m : Int) (h1 : 1 ≤ m) (h : m ≤ 1000000000000000) : -1000000000000000 ≤ n.tmod m ∧ n.tmod m ≤ 1000000000000000 := by
  have := Int.natAbs_tmod n m
  have hb : n.natAbs % m.natAbs < m.natAbs := Nat.mod_lt _ (by omega)
  omega
theorem tmod_97 (n m : Int) (h1 : 1 ≤ m) (h : m ≤ 97) : -97 ≤ n.tmod m ∧ n.tmod m ≤ 97 := by
  have := Int.natAbs_tmod n m
  have hb : n.natAbs % m.natAbs < m.natAbs := Nat.mod_lt _ (by omega)
  omega

set_option maxHeartbeats 400000 in
theorem isMultiple_any (n m : Int) (w : World) (h0 : 0 ≤ m) (h97 : m ≤ 1000000000000000) : Calls Try.prog 25 #[.int .i64 n, .int .i64 m] w fun e w' => e = .returned (.bool (mul0 n m)) ∧ w = w' := by
  by_cases hm : m = 0
  · have hm' : (m == 0) = true := by simpa using hm
    have H := hid hm
    clear hm
    go_enter Try.func25, Try.ntmps25
    go_wp2
    go_ret
    exact ⟨ret_bool (by simp [mul0, H.out, beq_dec]), rfl⟩
  · obtain ⟨hb1, hb2⟩ := tmod_6 n m (by omega) h97
    have hm1 : 1 ≤ m := by omega
    have hm' : (m == 0) = false := by simpa using hm
    have H := hid hm
    clear hm
    go_enter Try.func25, Try.ntmps25
    go_wp2
    go_ret
    exact ⟨ret_bool (by simp [mul0, H.out, beq_dec]), rfl⟩





/-- Is p ramified? -/
def rmf (a b c d p : Int) : Bool := decide (fpc a b c d p = 0) && decide ((dsc a b c d).tmod p = 0)
theorem rmf_0 {a b c d p : Int} (h : isF a b c d = true) (hp : prm p = true) : rmf a b c d p = decide ((dsc a b c d).tmod p = 0) := by simp [rmf, fpc, h, hp]
theorem rmf_n {a b c d p : Int} (h : fpc a b c d p ≠ 0) : rmf a b c d p = false := by simp [rmf, h]






end Go.Proofs.Ytgflkgabofilcaa
