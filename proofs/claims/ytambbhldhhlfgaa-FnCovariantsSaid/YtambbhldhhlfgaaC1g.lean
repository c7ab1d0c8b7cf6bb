/- Chapter 1: greatest common divisors. -/
import Derived.Test.YtambbhldhhlfgaaC1b
namespace Go.Proofs.Ytambbhldhhlfgaa
open Go.RowKit

theorem gcd_step (x y : Int) : Int.gcd y (x.tmod y) = Int.gcd x y := by
  show Nat.gcd _ _ = Nat.gcd _ _
  rw [Int.natAbs_tmod, Nat.gcd_comm, ← Nat.gcd_rec, Nat.gcd_comm]
theorem tmod_abs (x y : Int) (hy : y ≠ 0) : (x.tmod y).natAbs < y.natAbs := by
  rw [Int.natAbs_tmod]; exact Nat.mod_lt _ (by omega)
theorem tmod_bd (x y : Int) (hy : y ≠ 0) (h1 : -1000000000000000000 ≤ y) (h2 : y ≤ 1000000000000000000) : -1000000000000000000 ≤ x.tmod y ∧ x.tmod y ≤ 1000000000000000000 := by
  have := tmod_abs x y hy
  generalize x.tmod y = t at *
  omega
theorem gcd_end {x m n : Int} (h : Int.gcd x 0 = Int.gcd m n) (hx : -x ≤ x) : x = (Int.gcd m n : Int) := by
  rw [← h, Int.gcd_zero_right]; omega
theorem gcd_end' {x m n : Int} (h : Int.gcd x 0 = Int.gcd m n) (hx : x < -x) : -x = (Int.gcd m n : Int) := by
  rw [← h, Int.gcd_zero_right]; omega

set_option maxHeartbeats 400000 in
theorem sGcd_any (m n : Int) (w : World) (hm : -1000000000000000000 ≤ m ∧ m ≤ 1000000000000000000) (hn : -1000000000000000000 ≤ n ∧ n ≤ 1000000000000000000) :
    Calls Try.prog 98 #[.int .i64 m, .int .i64 n] w fun e w' => e = .returned (.int .i64 ((Int.gcd m n : Int))) ∧ w = w' := by
  go_enter Try.func98, Try.ntmps98
  go_wp2
  go_loop [0, 1] (fun a b => ∃ x y : Int, a = .int .i64 x ∧ b = .int .i64 y ∧ -1000000000000000000 ≤ x ∧ x ≤ 1000000000000000000 ∧ -1000000000000000000 ≤ y ∧ y ≤ 1000000000000000000 ∧ Int.gcd x y = Int.gcd m n) (fun _ b => (intOf b).natAbs)
  case atStart => exact ⟨m, n, rfl, rfl, hm.1, hm.2, hn.1, hn.2, rfl⟩
  case round =>
    obtain ⟨x, y, rfl, rfl, hx1, hx2, hy1, hy2, hg⟩ := hrel
    have HG := hid hg
    clear hg
    have hst := gcd_step x y
    have HS := hid hst
    clear hst
    by_cases hy : y = 0
    · subst hy
      go_wp2
      · go_ret
        exact ⟨ret_int (gcd_end' HG.out (by omega)), rfl⟩
      · go_ret
        exact ⟨ret_int (gcd_end HG.out (by omega)), rfl⟩
    · have hab := tmod_abs x y hy
      obtain ⟨ht1, ht2⟩ := tmod_bd x y hy hy1 hy2
      have HAB := hid hab
      clear hab
      go_wp2
      go_round
      case rel => exact ⟨_, _, rfl, rfl, by omega, by omega, by omega, by omega, HS.out.trans HG.out⟩
      case measure => simpa [intOf] using HAB.out

set_option maxHeartbeats 400000 in
theorem iGcd_any (m n : Int) (w : World) (hm : -1000000000000000000 ≤ m ∧ m ≤ 1000000000000000000) (hn : -1000000000000000000 ≤ n ∧ n ≤ 1000000000000000000) :
    Calls Try.prog 106 #[.int .i64 m, .int .i64 n] w fun e w' => e = .returned (.int .i64 ((Int.gcd m n : Int))) ∧ Below w.heap.size w w' := by
  go_enter Try.func106, Try.ntmps106
  go_wp2
  go_loopw [0, 1] (fun a b wr => ∃ x y : Int, a = .int .i64 x ∧ b = .int .i64 y ∧ -1000000000000000000 ≤ x ∧ x ≤ 1000000000000000000 ∧ -1000000000000000000 ≤ y ∧ y ≤ 1000000000000000000 ∧ Int.gcd x y = Int.gcd m n ∧ Below w.heap.size w wr) (fun _ b _ => (intOf b).natAbs)
  case atStart => exact ⟨m, n, rfl, rfl, hm.1, hm.2, hn.1, hn.2, rfl, Below.refl _ _⟩
  case round =>
    obtain ⟨x, y, rfl, rfl, hx1, hx2, hy1, hy2, hg, hB⟩ := hrel
    have HG := hid hg
    clear hg
    have hst := gcd_step x y
    have HS := hid hst
    clear hst
    by_cases hy : y = 0
    · subst hy
      go_wp2
      · go_ret
        exact ⟨ret_int (gcd_end' HG.out (by omega)), by (repeat' (first | with_reducible exact Below.refl _ _ | with_reducible assumption | with_reducible refine gr_alloc ?_ _ | with_reducible refine gr_drew ?_ | with_reducible refine gr_drewN ?_ _ | with_reducible refine gr_trans ?_ (by assumption) | with_reducible refine gr_set ?_ ?_ _ | (simp; done) | omega | (simp; omega)))⟩
      · go_ret
        exact ⟨ret_int (gcd_end HG.out (by omega)), by (repeat' (first | with_reducible exact Below.refl _ _ | with_reducible assumption | with_reducible refine gr_alloc ?_ _ | with_reducible refine gr_drew ?_ | with_reducible refine gr_drewN ?_ _ | with_reducible refine gr_trans ?_ (by assumption) | with_reducible refine gr_set ?_ ?_ _ | (simp; done) | omega | (simp; omega)))⟩
    · have hab := tmod_abs x y hy
      obtain ⟨ht1, ht2⟩ := tmod_bd x y hy hy1 hy2
      have HAB := hid hab
      clear hab
      go_wp2
      go_quiet (fail)
      go_wp2
      go_roundw
      case rel => exact ⟨_, _, rfl, rfl, by omega, by omega, by omega, by omega, HS.out.trans HG.out, by (repeat' (first | with_reducible exact Below.refl _ _ | with_reducible assumption | with_reducible refine gr_alloc ?_ _ | with_reducible refine gr_drew ?_ | with_reducible refine gr_drewN ?_ _ | with_reducible refine gr_trans ?_ (by assumption) | with_reducible refine gr_set ?_ ?_ _ | (simp; done) | omega | (simp; omega)))⟩
      case measure => simpa [intOf] using HAB.out

end Go.Proofs.Ytambbhldhhlfgaa
