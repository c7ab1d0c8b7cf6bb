/- Several texts in one: XC1g, XC1h. -/
import Derived.Test.YtdogkkmdccieiaaDoorC1b
import Derived.Test.YtdogkkmdccieiaaDoorZ4
import Derived.Test.YtdogkkmdccieiaaDoorZ2

/- Chapter 1: greatest common divisors. -/
namespace Go.Proofs.YtdogkkmdccieiaaDoor
open Go.RowKit

theorem gcd_step (x y : Int) : Int.gcd y (x.tmod y) = Int.gcd x y := by
  show Nat.gcd _ _ = Nat.gcd _ _
  rw [Int.natAbs_tmod, Nat.gcd_comm, ← Nat.gcd_rec, Nat.gcd_comm]
theorem tmod_abs (x y : Int) (hy : y ≠ 0) : (x.tmod y).natAbs < y.natAbs := by
  rw [Int.natAbs_tmod]; exact Nat.mod_lt _ (by omega)
theorem tmod_bd (x y : Int) (hy : y ≠ 0) (h1 : -1000000000000000000 ≤ y) (h2 : y ≤ 1000000000000000000) : -1000000000000000000 ≤ x.tmod y ∧ x.tmod y ≤ 1000000000000000000 := by
  have := tmod_abs x y hy
  generalize x.tmod y = t at *
  omega
theorem gcd_end {x m n : Int} (h : Int.gcd x 0 = Int.gcd m n) (hx : -x ≤ x) : x = (Int.gcd m n : Int) := by
  rw [← h, Int.gcd_zero_right]; omega
theorem gcd_end' {x m n : Int} (h : Int.gcd x 0 = Int.gcd m n) (hx : x < -x) : -x = (Int.gcd m n : Int) := by
  rw [← h, Int.gcd_zero_right]; omega

set_option maxHeartbeats 400000 in
theorem sGcd_any (m n : Int) (w : World) (hm : -1000000000000000000 ≤ m ∧ m ≤ 1000000000000000000) (hn : -1000000000000000000 ≤ n ∧ n ≤ 1000000000000000000) :
    Calls Tryd.prog 109 #[.int .i64 m, .int .i64 n] w fun e w' => e = .returned (.int .i64 ((Int.gcd m n : Int))) ∧ w = w' := by
  go_enter Tryd.func109, Tryd.ntmps109
  go_wp2
  go_loop [0, 1] (fun a b => ∃ x y : Int, a = .int .i64 x ∧ b = .int .i64 y ∧ -1000000000000000000 ≤ x ∧ x ≤ 1000000000000000000 ∧ -1000000000000000000 ≤ y ∧ y ≤ 1000000000000000000 ∧ Int.gcd x y = Int.gcd m n) (fun _ b => (intOf b).natAbs)
  case atStart => exact ⟨m, n, rfl, rfl, hm.1, hm.2, hn.1, hn.2, rfl⟩
  case round =>
    obtain ⟨x, y, rfl, rfl, hx1, hx2, hy1, hy2, hg⟩ := hrel
    have HG := hid hg
    clear hg
    have hst := gcd_step x y
    have HS := hid hst
    clear hst
    by_cases hy : y = 0
    · subst hy
      go_wp2
      · go_ret
        exact ⟨ret_int (gcd_end' HG.out (by omega)), rfl⟩
      · go_ret
        exact ⟨ret_int (gcd_end HG.out (by omega)), rfl⟩
    · have hab := tmod_abs x y hy
      obtain ⟨ht1, ht2⟩ := tmod_bd x y hy hy1 hy2
      have HAB := hid hab
      clear hab
      go_wp2
      go_round
      case rel => exact ⟨_, _, rfl, rfl, by omega, by omega, by omega, by omega, HS.out.trans HG.out⟩
      case measure => simpa [intOf] using HAB.out

set_option maxHeartbeats 400000 in
theorem iGcd_any (m n : Int) (w : World) (hm : -1000000000000000000 ≤ m ∧ m ≤ 1000000000000000000) (hn : -1000000000000000000 ≤ n ∧ n ≤ 1000000000000000000) :
    Calls Tryd.prog 106 #[.int .i64 m, .int .i64 n] w fun e w' => e = .returned (.int .i64 ((Int.gcd m n : Int))) ∧ Below w.heap.size w w' := by
  go_enter Tryd.func106, Tryd.ntmps106
  go_wp2
  go_loopw [0, 1] (fun a b wr => ∃ x y : Int, a = .int .i64 x ∧ b = .int .i64 y ∧ -1000000000000000000 ≤ x ∧ x ≤ 1000000000000000000 ∧ -1000000000000000000 ≤ y ∧ y ≤ 1000000000000000000 ∧ Int.gcd x y = Int.gcd m n ∧ Below w.heap.size w wr) (fun _ b _ => (intOf b).natAbs)
  case atStart => exact ⟨m, n, rfl, rfl, hm.1, hm.2, hn.1, hn.2, rfl, Below.refl _ _⟩
  case round =>
    obtain ⟨x, y, rfl, rfl, hx1, hx2, hy1, hy2, hg, hB⟩ := hrel
    have HG := hid hg
    clear hg
    have hst := gcd_step x y
    have HS := hid hst
    clear hst
    by_cases hy : y = 0
    · subst hy
      go_wp2
      · go_ret
        exact ⟨ret_int (gcd_end' HG.out (by omega)), by (repeat' (first | with_reducible exact Below.refl _ _ | with_reducible assumption | with_reducible refine gr_alloc ?_ _ | with_reducible refine gr_drew ?_ | with_reducible refine gr_drewN ?_ _ | with_reducible refine gr_trans ?_ (by assumption) | with_reducible refine gr_set ?_ ?_ _ | (simp; done) | omega | (simp; omega)))⟩
      · go_ret
        exact ⟨ret_int (gcd_end HG.out (by omega)), by (repeat' (first | with_reducible exact Below.refl _ _ | with_reducible assumption | with_reducible refine gr_alloc ?_ _ | with_reducible refine gr_drew ?_ | with_reducible refine gr_drewN ?_ _ | with_reducible refine gr_trans ?_ (by assumption) | with_reducible refine gr_set ?_ ?_ _ | (simp; done) | omega | (simp; omega)))⟩
    · have hab := tmod_abs x y hy
      obtain ⟨ht1, ht2⟩ := tmod_bd x y hy hy1 hy2
      have HAB := hid hab
      clear hab
      go_wp2
      go_quiet (fail)
      go_wp2
      go_roundw
      case rel => exact ⟨_, _, rfl, rfl, by omega, by omega, by omega, by omega, HS.out.trans HG.out, by (repeat' (first | with_reducible exact Below.refl _ _ | with_reducible assumption | with_reducible refine gr_alloc ?_ _ | with_reducible refine gr_drew ?_ | with_reducible refine gr_drewN ?_ _ | with_reducible refine gr_trans ?_ (by assumption) | with_reducible refine gr_set ?_ ?_ _ | (simp; done) | omega | (simp; omega)))⟩
      case measure => simpa [intOf] using HAB.out

end Go.Proofs.YtdogkkmdccieiaaDoor

/- Chapter 1: contents. -/
namespace Go.Proofs.YtdogkkmdccieiaaDoor
open Go.RowKit

set_option maxHeartbeats 400000 in
theorem sCnt_any (a b c d : Int) (w : World) (ha : -1000 ≤ a ∧ a ≤ 1000) (hb : -1000 ≤ b ∧ b ≤ 1000) (hc : -1000 ≤ c ∧ c ≤ 1000) (hd : -1000 ≤ d ∧ d ≤ 1000) :
    Calls Tryd.prog 85 #[.agg #[.int .i64 a, .int .i64 b, .int .i64 c, .int .i64 d]] w fun e w' => e = .returned (.int .i64 (cnt a b c d)) ∧ Below w.heap.size w w' := by
  have g1 := gcd_le ha hb
  have g2 := gcd_le hc hd
  go_enter Tryd.func85, Tryd.ntmps85
  go_wp2
  go_quiet ((go_at_call 109; exact quiet_s (sGcd_any _ _ _ (by omega) (by omega))))
  go_wp2
  go_ret
  exact ⟨rfl, by (repeat' (first | with_reducible exact Below.refl _ _ | with_reducible assumption | with_reducible refine gr_alloc ?_ _ | with_reducible refine gr_drew ?_ | with_reducible refine gr_drewN ?_ _ | with_reducible refine gr_trans ?_ (by assumption) | with_reducible refine gr_set ?_ ?_ _ | (simp; done) | omega | (simp; omega)))⟩

set_option maxHeartbeats 400000 in
theorem sContent_any (a b c d : Int) (w : World) :
    Calls Tryd.prog 34 #[.agg #[.int .i64 a, .int .i64 b, .int .i64 c, .int .i64 d]] w fun e w' => e = .returned (.tuple #[.int .i64 (ifF a b c d (cnt a b c d)), .int .i64 (cif a b c d)]) ∧ Below w.heap.size w w' := by
  go_enter Tryd.func34, Tryd.ntmps34
  go_wp2_with fail
  refine (l01Is_any a b c d _).mono ?_
  rintro e w1 ⟨rfl, hb1⟩
  obtain ⟨_, c0, c1, c2, c3, _⟩ := (Arr.new w a b c d 25).next hb1
  by_cases hm : isF a b c d = true
  · obtain ⟨ha, hb, hc, hd⟩ := isF_t hm
    go_wp2_with (go_at_call 85; refine (sCnt_any a b c d _ ha hb hc hd).mono ?_; rintro e w2 ⟨rfl, hb2⟩)
    go_ret2
    exact ⟨ret_tup2 (by simp [ifF, hm]) (by simp [cif, hm]), by (repeat' (first | with_reducible exact Below.refl _ _ | with_reducible assumption | with_reducible refine gr_alloc ?_ _ | with_reducible refine gr_drew ?_ | with_reducible refine gr_drewN ?_ _ | with_reducible refine gr_trans ?_ (by assumption) | with_reducible refine gr_set ?_ ?_ _ | (simp; done) | omega | (simp; omega)))⟩
  · have hm' : isF a b c d = false := by simpa using hm
    clear hm
    go_wp2
    go_ret2
    exact ⟨ret_tup2 (by simp [ifF, hm']) (by simp [cif, hm']), by (repeat' (first | with_reducible exact Below.refl _ _ | with_reducible assumption | with_reducible refine gr_alloc ?_ _ | with_reducible refine gr_drew ?_ | with_reducible refine gr_drewN ?_ _ | with_reducible refine gr_trans ?_ (by assumption) | with_reducible refine gr_set ?_ ?_ _ | (simp; done) | omega | (simp; omega)))⟩

set_option maxHeartbeats 1000000 in
theorem iGcd4_any (k : Nat) (a b c d : Int) (w : World) (hA : Arr w k a b c d) (ha : -1000 ≤ a ∧ a ≤ 1000) (hb : -1000 ≤ b ∧ b ≤ 1000) (hc : -1000 ≤ c ∧ c ≤ 1000) (hd : -1000 ≤ d ∧ d ≤ 1000) :
    Calls Tryd.prog 81 #[.slice (some ⟨k, 0, none⟩) 4 4] w fun e w' => e = .returned (.int .i64 (cnt a b c d)) ∧ Below w.heap.size w w' := by
  have g2 := gcd_le (m := a.natAbs) (n := b) (B := 1000) (by omega) hb
  have g3 := gcd_le (m := Int.gcd a.natAbs b) (n := c) (B := 1000) (by omega) hc
  obtain ⟨_, a0, a1, a2, a3, _⟩ := id hA
  go_enter Tryd.func81, Tryd.ntmps81
  go_wp2_with fail
  refine wp_loop_rounds 5 ?_
  rw [rounds_succ]; go_wp2_with fail
  refine (iGcd_any _ _ _ (by omega) (by omega)).mono ?_
  rintro e w2 ⟨rfl, hb2⟩
  have A2 := hA.next hb2
  clear a0 a1 a2 a3
  obtain ⟨_, a0, a1, a2, a3, _⟩ := id A2
  go_wp2_with fail
  rw [rounds_succ]; go_wp2_with fail
  refine (iGcd_any _ _ _ (by omega) (by omega)).mono ?_
  rintro e w3 ⟨rfl, hb3⟩
  have A3 := A2.next hb3
  clear a0 a1 a2 a3
  obtain ⟨_, a0, a1, a2, a3, _⟩ := id A3
  go_wp2_with fail
  rw [rounds_succ]; go_wp2_with fail
  refine (iGcd_any _ _ _ (by omega) (by omega)).mono ?_
  rintro e w4 ⟨rfl, hb4⟩
  have A4 := A3.next hb4
  clear a0 a1 a2 a3
  obtain ⟨_, a0, a1, a2, a3, _⟩ := id A4
  go_wp2_with fail
  rw [rounds_succ]; go_wp2_with fail
  refine (iGcd_any _ _ _ (by omega) (by omega)).mono ?_
  rintro e w5 ⟨rfl, hb5⟩
  go_wp2_with fail
  rw [rounds_succ]; go_wp2_with fail
  go_ret
  exact ⟨ret_int (by rw [← cnt_fold]), by (repeat' (first | with_reducible exact Below.refl _ _ | with_reducible assumption | with_reducible refine gr_alloc ?_ _ | with_reducible refine gr_drew ?_ | with_reducible refine gr_drewN ?_ _ | with_reducible refine gr_trans ?_ (by assumption) | with_reducible refine gr_set ?_ ?_ _ | (simp; done) | omega | (simp; omega)))⟩

set_option maxHeartbeats 1000000 in
theorem iContent_any (a b c d : Int) (w : World) :
    Calls Tryd.prog 30 #[.agg #[.int .i64 a, .int .i64 b, .int .i64 c, .int .i64 d]] w fun e w' => e = .returned (.tuple #[.int .i64 (ifF a b c d (cnt a b c d)), .int .i64 (cif a b c d)]) ∧ Below w.heap.size w w' := by
  go_enter Tryd.func30, Tryd.ntmps30
  go_wp2_with fail
  refine (iIsForm_any a b c d _).mono ?_
  rintro e w1 ⟨rfl, hb1⟩
  have A1 := (Arr.new w a b c d 25).next hb1
  by_cases hm : isF a b c d = true
  · obtain ⟨ha, hb, hc, hd⟩ := isF_t hm
    go_wp2_with fail
    refine (iGcd4_any _ a b c d _ A1 ha hb hc hd).mono ?_
    rintro e w2 ⟨rfl, hb2⟩
    go_wp2_with fail
    go_ret2
    exact ⟨ret_tup2 (by simp [ifF, hm]) (by simp [cif, hm]), by (repeat' (first | with_reducible exact Below.refl _ _ | with_reducible assumption | with_reducible refine gr_alloc ?_ _ | with_reducible refine gr_drew ?_ | with_reducible refine gr_drewN ?_ _ | with_reducible refine gr_trans ?_ (by assumption) | with_reducible refine gr_set ?_ ?_ _ | (simp; done) | omega | (simp; omega)))⟩
  · have hm' : isF a b c d = false := by simpa using hm
    clear hm
    go_wp2
    go_ret2
    exact ⟨ret_tup2 (by simp [ifF, hm']) (by simp [cif, hm']), by (repeat' (first | with_reducible exact Below.refl _ _ | with_reducible assumption | with_reducible refine gr_alloc ?_ _ | with_reducible refine gr_drew ?_ | with_reducible refine gr_drewN ?_ _ | with_reducible refine gr_trans ?_ (by assumption) | with_reducible refine gr_set ?_ ?_ _ | (simp; done) | omega | (simp; omega)))⟩

/-- The greatest common divisor of three numbers. -/
def cnt3 (a b c : Int) : Int := Int.gcd (Int.gcd a b) c

set_option maxHeartbeats 1000000 in
theorem iGcd3_any (k : Nat) (a b c : Int) (w : World) (hA : Arr3 w k a b c) (ha : -100000000 ≤ a ∧ a ≤ 100000000) (hb : -100000000 ≤ b ∧ b ≤ 100000000) (hc : -100000000 ≤ c ∧ c ≤ 100000000) :
    Calls Tryd.prog 81 #[.slice (some ⟨k, 0, none⟩) 3 3] w fun e w' => e = .returned (.int .i64 (cnt3 a b c)) ∧ Below w.heap.size w w' := by
  have g2 := gcd_le (m := a.natAbs) (n := b) (B := 100000000) (by omega) hb
  obtain ⟨_, a0, a1, a2, _⟩ := id hA
  go_enter Tryd.func81, Tryd.ntmps81
  go_wp2_with fail
  refine wp_loop_rounds 4 ?_
  rw [rounds_succ]; go_wp2_with fail
  refine (iGcd_any _ _ _ (by omega) (by omega)).mono ?_
  rintro e w2 ⟨rfl, hb2⟩
  have A2 := hA.next hb2
  clear a0 a1 a2
  obtain ⟨_, a0, a1, a2, _⟩ := id A2
  go_wp2_with fail
  rw [rounds_succ]; go_wp2_with fail
  refine (iGcd_any _ _ _ (by omega) (by omega)).mono ?_
  rintro e w3 ⟨rfl, hb3⟩
  have A3 := A2.next hb3
  clear a0 a1 a2
  obtain ⟨_, a0, a1, a2, _⟩ := id A3
  go_wp2_with fail
  rw [rounds_succ]; go_wp2_with fail
  refine (iGcd_any _ _ _ (by omega) (by omega)).mono ?_
  rintro e w4 ⟨rfl, hb4⟩
  go_wp2_with fail
  rw [rounds_succ]; go_wp2_with fail
  go_ret
  exact ⟨ret_int (by simp [cnt3, Int.gcd]), by (repeat' (first | with_reducible exact Below.refl _ _ | with_reducible assumption | with_reducible refine gr_alloc ?_ _ | with_reducible refine gr_drew ?_ | with_reducible refine gr_drewN ?_ _ | with_reducible refine gr_trans ?_ (by assumption) | with_reducible refine gr_set ?_ ?_ _ | (simp; done) | omega | (simp; omega)))⟩

end Go.Proofs.YtdogkkmdccieiaaDoor
