/- Chapter 10: forms told by two numbers and a discriminant; reduced forms. -/
import Derived.Test.YtofoahdnkcbhbaaZb
import Derived.Test.YtofoahdnkcbhbaaMath
import Derived.Deep.QuietTactic
import Derived.BigQuiet
namespace Go.Proofs.Ytofoahdnkcbhbaa
open Go.RowKit

/-- The third number of p, q with the discriminant d. -/
def thd (p q d : Int) : Int := (q * q - d).tdiv (4 * p)

set_option maxHeartbeats 400000 in
theorem wdisc_any (p q d : Int) (w : World) (hp : 1 ≤ p ∧ p ≤ 1000000000000) (hq : -1000000000 ≤ q ∧ q ≤ 1000000000) (hd : -1000000000000 ≤ d ∧ d ≤ 1000000000000) :
    Calls Try.prog 50 #[.int .i64 p, .int .i64 q, .int .i64 d] w fun e w' => e = .returned (.agg #[.int .i64 p, .int .i64 q, .int .i64 (thd p q d)]) ∧ Below w.heap.size w w' := by
  have hqq := mulb (A := 1000000000) (B := 1000000000) hq hq
  have H : Hid (thd p q d = (q * q - d).tdiv (4 * p)) := hid rfl
  have R0 := Arr3.new w 0 0 0 25
  obtain ⟨_, r0, r1, r2, f0, f1, f2⟩ := id R0
  obtain ⟨q1, q2⟩ := hqq; obtain ⟨p1, p2⟩ := hp; obtain ⟨d1, d2⟩ := hd
  have q1' : -1000000000000000000 ≤ q * q := by omega
  have q2' : q * q ≤ 1000000000000000000 := by omega
  have hn : ¬ 4 * p = 0 := by omega
  have hb := Int.natAbs_tdiv_le_natAbs (q * q - d) (4 * p)
  have hb1 : -1000001000000000000 ≤ (q * q - d).tdiv (4 * p) := by omega
  have hb2 : (q * q - d).tdiv (4 * p) ≤ 1000001000000000000 := by omega
  clear hb q1 q2 hq
  go_enter Try.func50, Try.ntmps50
  go_wp2
  refine bodyPost_ret (res_A31 (e := 2) rfl Try.underlying25 (by kernel_rfl) rfl (by (repeat (first | with_reducible assumption | with_reducible exact Arr.box (by assumption) | with_reducible exact Box.new _ _ _ _ _ _ | with_reducible exact Arr.new _ _ _ _ _ _ | with_reducible refine Arr.drew ?_ | with_reducible refine Arr.drewN ?_ _ | with_reducible refine Arr.store4 ?_ | with_reducible refine Arr.alloc ?_ _ | with_reducible refine Box.drew ?_ | with_reducible refine Box.drewN ?_ _ | with_reducible refine Box.alloc ?_ _ | with_reducible refine Arr.next ?_ (by assumption) | with_reducible refine Box.next ?_ (by assumption) | refine Arr.oth ?_ (by first | (simp; done) | omega | (simp; omega)) _ | refine Box.oth ?_ (by first | (simp; done) | omega | (simp; omega)) _ | with_reducible exact Arr3.box (by assumption) | with_reducible exact Box3.new _ _ _ _ _ | with_reducible exact Arr3.new _ _ _ _ _ | with_reducible refine Arr3.drew ?_ | with_reducible refine Arr3.drewN ?_ _ | with_reducible refine Arr3.store3 ?_ | with_reducible refine Arr3.alloc ?_ _ | with_reducible refine Box3.drew ?_ | with_reducible refine Box3.drewN ?_ _ | with_reducible refine Box3.alloc ?_ _ | with_reducible refine Arr3.next ?_ (by assumption) | with_reducible refine Box3.next ?_ (by assumption) | refine Arr3.oth ?_ (by first | (simp; done) | omega | (simp; omega)) _ | refine Box3.oth ?_ (by first | (simp; done) | omega | (simp; omega)) _)))) rfl ?_
  rw [H.out]
  exact ⟨rfl, by (repeat' (first | with_reducible exact Below.refl _ _ | with_reducible assumption | with_reducible refine gr_alloc ?_ _ | with_reducible refine gr_drew ?_ | with_reducible refine gr_drewN ?_ _ | with_reducible refine gr_trans ?_ (by assumption) | with_reducible refine gr_set ?_ ?_ _ | (simp; done) | omega | (simp; omega)))⟩

/-- Reduced, of a form whose Q is in its range. -/
def rdb (a b c : Int) : Bool := decide (a < c) || (decide (a = c) && decide (0 ≤ b))
set_option maxHeartbeats 400000 in
theorem isReduced_any (a b c : Int) (w : World) : Calls Try.prog 52 #[.agg #[.int .i64 a, .int .i64 b, .int .i64 c]] w fun e w' => e = .returned (.bool (rdb a b c)) ∧ Below w.heap.size w w' := by
  have A0 := Arr3.new w a b c 25
  obtain ⟨_, c0, c1, c2, _⟩ := id A0
  by_cases h : a < c
  · have h1 : decide (a < c) = true := by simpa using h
    go_enter Try.func52, Try.ntmps52
    go_wp2
    go_ret
    exact ⟨ret_bool (by simp [rdb, h1]), by (repeat' (first | with_reducible exact Below.refl _ _ | with_reducible assumption | with_reducible refine gr_alloc ?_ _ | with_reducible refine gr_drew ?_ | with_reducible refine gr_drewN ?_ _ | with_reducible refine gr_trans ?_ (by assumption) | with_reducible refine gr_set ?_ ?_ _ | (simp; done) | omega | (simp; omega)))⟩
  · have h1 : decide (a < c) = false := by simpa using h
    clear h
    by_cases h : a = c
    · have h2 : (a == c) = true := by simpa using h
      have H := hid h
      clear h
      go_enter Try.func52, Try.ntmps52
      go_wp2
      go_ret
      exact ⟨ret_bool (by simp [rdb, H.out]), by (repeat' (first | with_reducible exact Below.refl _ _ | with_reducible assumption | with_reducible refine gr_alloc ?_ _ | with_reducible refine gr_drew ?_ | with_reducible refine gr_drewN ?_ _ | with_reducible refine gr_trans ?_ (by assumption) | with_reducible refine gr_set ?_ ?_ _ | (simp; done) | omega | (simp; omega)))⟩
    · have h2 : (a == c) = false := by simpa using h
      have H := hid h
      clear h
      go_enter Try.func52, Try.ntmps52
      go_wp2
      go_ret
      exact ⟨ret_bool (by simp [rdb, h1, H.out]), by (repeat' (first | with_reducible exact Below.refl _ _ | with_reducible assumption | with_reducible refine gr_alloc ?_ _ | with_reducible refine gr_drew ?_ | with_reducible refine gr_drewN ?_ _ | with_reducible refine gr_trans ?_ (by assumption) | with_reducible refine gr_set ?_ ?_ _ | (simp; done) | omega | (simp; omega)))⟩
theorem dq_in {a b c : Int} (h1 : -1000000000000000000 ≤ b * b ∧ b * b ≤ 1000000000000000000) (h2 : -2000000000000000000 ≤ 4 * a * c ∧ 4 * a * c ≤ 2000000000000000000) : dq a b c = b * b - 4 * a * c := by
  simp only [dq, mi, mu, wr_ml, wr_sl, wr_sr]
  exact wr_in (by omega)
theorem gcd_b {m n B : Int} (hm : -B ≤ m ∧ m ≤ B) (hn : -B ≤ n ∧ n ≤ B) : 0 ≤ (Int.gcd m n : Int) ∧ (Int.gcd m n : Int) ≤ B := by
  refine ⟨by omega, ?_⟩
  rcases Nat.eq_zero_or_pos m.natAbs with h | h
  · have : Int.gcd m n = n.natAbs := by unfold Int.gcd; rw [h, Nat.gcd_zero_left]
    omega
  · have := Nat.gcd_le_left n.natAbs h
    unfold Int.gcd; omega

end Go.Proofs.Ytofoahdnkcbhbaa
