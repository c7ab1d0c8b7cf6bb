/- Chapter 5: a form and a prime; multiples; ramified primes. -/
import Derived.Test.YtmhlolimaeejfaaDoorPc
import Derived.Test.YtmhlolimaeejfaaDoorC1d
import Derived.Test.YtmhlolimaeejfaaDoorMul
namespace Go.Proofs.YtmhlolimaeejfaaDoor
open Go.RowKit

theorem tmod_97 (n m : Int) (h1 : 1 ≤ m) (h : m ≤ 97) : -97 ≤ n.tmod m ∧ n.tmod m ≤ 97 := by
  have := Int.natAbs_tmod n m
  have hb : n.natAbs % m.natAbs < m.natAbs := Nat.mod_lt _ (by omega)
  omega

theorem tmod_499 (n m : Int) (h1 : 1 ≤ m) (h : m ≤ 499) : -499 ≤ n.tmod m ∧ n.tmod m ≤ 499 := by
  have := Int.natAbs_tmod n m
  have hb : n.natAbs % m.natAbs < m.natAbs := Nat.mod_lt _ (by omega)
  omega

set_option maxHeartbeats 400000 in
theorem iCheckFP_any (a b c d p : Int) (w : World) : Calls Tryd.prog 28 #[.agg #[.int .i64 a, .int .i64 b, .int .i64 c, .int .i64 d], .int .i64 p] w fun e w' => e = .returned (.int .i64 (fpc a b c d p)) ∧ Below w.heap.size w w' := by
  go_enter Tryd.func28, Tryd.ntmps28
  go_wp2_with fail
  refine (iIsForm_any a b c d _).mono ?_
  rintro e w1 ⟨rfl, hb1⟩
  cases hF : isF a b c d with
  | false =>
    go_wp2_with fail
    go_ret
    exact ⟨ret_int (by simp [fpc, hF]), by (repeat' (first | with_reducible exact Below.refl _ _ | with_reducible assumption | with_reducible refine gr_alloc ?_ _ | with_reducible refine gr_drew ?_ | with_reducible refine gr_drewN ?_ _ | with_reducible refine gr_trans ?_ (by assumption) | with_reducible refine gr_set ?_ ?_ _ | (simp; done) | omega | (simp; omega)))⟩
  | true =>
    cases hp : prm p with
    | false =>
      go_wp2_with (go_at_call 43; refine (isPrime_any _ _).mono ?_; rintro e w' ⟨rfl, rfl⟩)
      go_ret
      exact ⟨ret_int (by simp [fpc, hF, hp]), by (repeat' (first | with_reducible exact Below.refl _ _ | with_reducible assumption | with_reducible refine gr_alloc ?_ _ | with_reducible refine gr_drew ?_ | with_reducible refine gr_drewN ?_ _ | with_reducible refine gr_trans ?_ (by assumption) | with_reducible refine gr_set ?_ ?_ _ | (simp; done) | omega | (simp; omega)))⟩
    | true =>
      go_wp2_with (go_at_call 43; refine (isPrime_any _ _).mono ?_; rintro e w' ⟨rfl, rfl⟩)
      go_ret
      exact ⟨ret_int (by simp [fpc, hF, hp]), by (repeat' (first | with_reducible exact Below.refl _ _ | with_reducible assumption | with_reducible refine gr_alloc ?_ _ | with_reducible refine gr_drew ?_ | with_reducible refine gr_drewN ?_ _ | with_reducible refine gr_trans ?_ (by assumption) | with_reducible refine gr_set ?_ ?_ _ | (simp; done) | omega | (simp; omega)))⟩

set_option maxHeartbeats 400000 in
theorem l05Code_any (a b c d p : Int) (w : World) : Calls Tryd.prog 25 #[.agg #[.int .i64 a, .int .i64 b, .int .i64 c, .int .i64 d], .int .i64 p] w fun e w' => e = .returned (.int .i64 (fpc a b c d p)) ∧ Below w.heap.size w w' := by
  go_enter Tryd.func25, Tryd.ntmps25
  go_wp2_with fail
  refine (l01Is_any a b c d _).mono ?_
  rintro e w1 ⟨rfl, hb1⟩
  cases hF : isF a b c d with
  | false =>
    go_wp2_with fail
    go_ret
    exact ⟨ret_int (by simp [fpc, hF]), by (repeat' (first | with_reducible exact Below.refl _ _ | with_reducible assumption | with_reducible refine gr_alloc ?_ _ | with_reducible refine gr_drew ?_ | with_reducible refine gr_drewN ?_ _ | with_reducible refine gr_trans ?_ (by assumption) | with_reducible refine gr_set ?_ ?_ _ | (simp; done) | omega | (simp; omega)))⟩
  | true =>
    cases hp : prm p with
    | false =>
      go_wp2_with (go_at_call 37; refine (l05Prime_any _ _).mono ?_; rintro e w' ⟨rfl, rfl⟩)
      go_ret
      exact ⟨ret_int (by simp [fpc, hF, hp]), by (repeat' (first | with_reducible exact Below.refl _ _ | with_reducible assumption | with_reducible refine gr_alloc ?_ _ | with_reducible refine gr_drew ?_ | with_reducible refine gr_drewN ?_ _ | with_reducible refine gr_trans ?_ (by assumption) | with_reducible refine gr_set ?_ ?_ _ | (simp; done) | omega | (simp; omega)))⟩
    | true =>
      go_wp2_with (go_at_call 37; refine (l05Prime_any _ _).mono ?_; rintro e w' ⟨rfl, rfl⟩)
      go_ret
      exact ⟨ret_int (by simp [fpc, hF, hp]), by (repeat' (first | with_reducible exact Below.refl _ _ | with_reducible assumption | with_reducible refine gr_alloc ?_ _ | with_reducible refine gr_drew ?_ | with_reducible refine gr_drewN ?_ _ | with_reducible refine gr_trans ?_ (by assumption) | with_reducible refine gr_set ?_ ?_ _ | (simp; done) | omega | (simp; omega)))⟩

/-- Is p ramified? -/
def rmf (a b c d p : Int) : Bool := decide (fpc a b c d p = 0) && decide ((dsc a b c d).tmod p = 0)
theorem rmf_0 {a b c d p : Int} (h : isF a b c d = true) (hp : prm p = true) : rmf a b c d p = decide ((dsc a b c d).tmod p = 0) := by simp [rmf, fpc, h, hp]
theorem rmf_n {a b c d p : Int} (h : fpc a b c d p ≠ 0) : rmf a b c d p = false := by simp [rmf, h]






end Go.Proofs.YtmhlolimaeejfaaDoor
