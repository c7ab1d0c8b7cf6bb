/- Several texts in one: XC1d, XC1g, XC1h, XZb. -/
import Derived.Test.YtehbkmohfipmgaaBtZ5
import Derived.Test.YtehbkmohfipmgaaBtZ3
import Derived.Laws.EntriesVeiled

/- Chapter 1: slopes, discriminants, determinants. -/
namespace Go.Proofs.Ytehbkmohfipmgaa
open Go.RowKit









set_option maxHeartbeats 400000 in
theorem iDisc0_any (a b c d : Int) (w : World) :
    Calls Try.prog 68 #[.agg #[.int .i64 a, .int .i64 b, .int .i64 c, .int .i64 d]] w fun e w' => e = .returned (.int .i64 (dsc a b c d)) ∧ Below w.heap.size w w' := by
  go_enter Try.func68, Try.ntmps68
  go_wp2
  go_quiet (fail)
  go_wp2
  go_ret
  exact ⟨rfl, by (repeat' (first | with_reducible exact Below.refl _ _ | with_reducible assumption | with_reducible refine gr_alloc ?_ _ | with_reducible refine gr_drew ?_ | with_reducible refine gr_drewN ?_ _ | with_reducible refine gr_trans ?_ (by assumption) | with_reducible refine gr_set ?_ ?_ _ | (simp; done) | omega | (simp; omega)))⟩

set_option maxHeartbeats 400000 in
theorem iDisc_any (a b c d : Int) (w : World) :
    Calls Try.prog 33 #[.agg #[.int .i64 a, .int .i64 b, .int .i64 c, .int .i64 d]] w fun e w' => e = .returned (.tuple #[.int .i64 (dsc0 a b c d), .int .i64 (cif a b c d)]) ∧ Below w.heap.size w w' := by
  go_enter Try.func33, Try.ntmps33
  go_wp2_with fail
  refine (iIsForm_any a b c d _).mono ?_
  rintro e w1 ⟨rfl, hb1⟩
  obtain ⟨_, c0, c1, c2, c3, _⟩ := (Arr.new w a b c d 42).next hb1
  go_wp2_with (go_at_call 68; refine (iDisc0_any a b c d _).mono ?_; rintro e w2 ⟨rfl, hb2⟩)
  all_goals (go_ret2; exact ⟨ret_tup2 (by go_light; simp_all [dsc0]) (by go_light; simp_all [cif]), by (repeat' (first | with_reducible exact Below.refl _ _ | with_reducible assumption | with_reducible refine gr_alloc ?_ _ | with_reducible refine gr_drew ?_ | with_reducible refine gr_drewN ?_ _ | with_reducible refine gr_trans ?_ (by assumption) | with_reducible refine gr_set ?_ ?_ _ | (simp; done) | omega | (simp; omega)))⟩)








end Go.Proofs.Ytehbkmohfipmgaa

/- Chapter 1: greatest common divisors. -/
namespace Go.Proofs.Ytehbkmohfipmgaa
open Go.RowKit

theorem gcd_step (x y : Int) : Int.gcd y (x.tmod y) = Int.gcd x y := by
  show Nat.gcd _ _ = Nat.gcd _ _
  rw [Int.natAbs_tmod, Nat.gcd_comm, ← Nat.gcd_rec, Nat.gcd_comm]
theorem tmod_abs (x y : Int) (hy : y ≠ 0) : (x.tmod y).natAbs < y.natAbs := by
  rw [Int.natAbs_tmod]; exact Nat.mod_lt _ (by omega)
theorem tmod_bd (x y : Int) (hy : y ≠ 0) (h1 : -1000000000000000000 ≤ y) (h2 : y ≤ 1000000000000000000) : -1000000000000000000 ≤ x.tmod y ∧ x.tmod y ≤ 1000000000000000000 := by
  have := tmod_abs x y hy
  generalize x.tmod y = t at *
  omega
theorem gcd_end {x m n : Int} (h : Int.gcd x 0 = Int.gcd m n) (hx : -x ≤ x) : x = (Int.gcd m n : Int) := by
  rw [← h, Int.gcd_zero_right]; omega
theorem gcd_end' {x m n : Int} (h : Int.gcd x 0 = Int.gcd m n) (hx : x < -x) : -x = (Int.gcd m n : Int) := by
  rw [← h, Int.gcd_zero_right]; omega

set_option maxHeartbeats 400000 in
theorem sGcd_any (m n : Int) (w : World) (hm : -1000000000000000000 ≤ m ∧ m ≤ 1000000000000000000) (hn : -1000000000000000000 ≤ n ∧ n ≤ 1000000000000000000) :
    Calls Try.prog 79 #[.int .i64 m, .int .i64 n] w fun e w' => e = .returned (.int .i64 ((Int.gcd m n : Int))) ∧ w = w' := by
  go_enter Try.func79, Try.ntmps79
  go_wp2
  go_loop [0, 1] (fun a b => ∃ x y : Int, a = .int .i64 x ∧ b = .int .i64 y ∧ -1000000000000000000 ≤ x ∧ x ≤ 1000000000000000000 ∧ -1000000000000000000 ≤ y ∧ y ≤ 1000000000000000000 ∧ Int.gcd x y = Int.gcd m n) (fun _ b => (intOf b).natAbs)
  case atStart => exact ⟨m, n, rfl, rfl, hm.1, hm.2, hn.1, hn.2, rfl⟩
  case round =>
    obtain ⟨x, y, rfl, rfl, hx1, hx2, hy1, hy2, hg⟩ := hrel
    have HG := hid hg
    clear hg
    have hst := gcd_step x y
    have HS := hid hst
    clear hst
    by_cases hy : y = 0
    · subst hy
      go_wp2
      · go_ret
        exact ⟨ret_int (gcd_end' HG.out (by omega)), rfl⟩
      · go_ret
        exact ⟨ret_int (gcd_end HG.out (by omega)), rfl⟩
    · have hab := tmod_abs x y hy
      obtain ⟨ht1, ht2⟩ := tmod_bd x y hy hy1 hy2
      have HAB := hid hab
      clear hab
      go_wp2
      go_round
      case rel => exact ⟨_, _, rfl, rfl, by omega, by omega, by omega, by omega, HS.out.trans HG.out⟩
      case measure => simpa [intOf] using HAB.out

set_option maxHeartbeats 400000 in
theorem iGcd_any (m n : Int) (w : World) (hm : -1000000000000000000 ≤ m ∧ m ≤ 1000000000000000000) (hn : -1000000000000000000 ≤ n ∧ n ≤ 1000000000000000000) :
    Calls Try.prog 88 #[.int .i64 m, .int .i64 n] w fun e w' => e = .returned (.int .i64 ((Int.gcd m n : Int))) ∧ Below w.heap.size w w' := by
  go_enter Try.func88, Try.ntmps88
  go_wp2
  go_loopw [0, 1] (fun a b wr => ∃ x y : Int, a = .int .i64 x ∧ b = .int .i64 y ∧ -1000000000000000000 ≤ x ∧ x ≤ 1000000000000000000 ∧ -1000000000000000000 ≤ y ∧ y ≤ 1000000000000000000 ∧ Int.gcd x y = Int.gcd m n ∧ Below w.heap.size w wr) (fun _ b _ => (intOf b).natAbs)
  case atStart => exact ⟨m, n, rfl, rfl, hm.1, hm.2, hn.1, hn.2, rfl, Below.refl _ _⟩
  case round =>
    obtain ⟨x, y, rfl, rfl, hx1, hx2, hy1, hy2, hg, hB⟩ := hrel
    have HG := hid hg
    clear hg
    have hst := gcd_step x y
    have HS := hid hst
    clear hst
    by_cases hy : y = 0
    · subst hy
      go_wp2
      · go_ret
        exact ⟨ret_int (gcd_end' HG.out (by omega)), by (repeat' (first | with_reducible exact Below.refl _ _ | with_reducible assumption | with_reducible refine gr_alloc ?_ _ | with_reducible refine gr_drew ?_ | with_reducible refine gr_drewN ?_ _ | with_reducible refine gr_trans ?_ (by assumption) | with_reducible refine gr_set ?_ ?_ _ | (simp; done) | omega | (simp; omega)))⟩
      · go_ret
        exact ⟨ret_int (gcd_end HG.out (by omega)), by (repeat' (first | with_reducible exact Below.refl _ _ | with_reducible assumption | with_reducible refine gr_alloc ?_ _ | with_reducible refine gr_drew ?_ | with_reducible refine gr_drewN ?_ _ | with_reducible refine gr_trans ?_ (by assumption) | with_reducible refine gr_set ?_ ?_ _ | (simp; done) | omega | (simp; omega)))⟩
    · have hab := tmod_abs x y hy
      obtain ⟨ht1, ht2⟩ := tmod_bd x y hy hy1 hy2
      have HAB := hid hab
      clear hab
      go_wp2
      go_quiet (fail)
      go_wp2
      go_roundw
      case rel => exact ⟨_, _, rfl, rfl, by omega, by omega, by omega, by omega, HS.out.trans HG.out, by (repeat' (first | with_reducible exact Below.refl _ _ | with_reducible assumption | with_reducible refine gr_alloc ?_ _ | with_reducible refine gr_drew ?_ | with_reducible refine gr_drewN ?_ _ | with_reducible refine gr_trans ?_ (by assumption) | with_reducible refine gr_set ?_ ?_ _ | (simp; done) | omega | (simp; omega)))⟩
      case measure => simpa [intOf] using HAB.out

end Go.Proofs.Ytehbkmohfipmgaa

/- Chapter 1: contents. -/
namespace Go.Proofs.Ytehbkmohfipmgaa
open Go.RowKit





set_option maxHeartbeats 1000000 in
theorem iGcd4_any (k : Nat) (a b c d : Int) (w : World) (hA : Arr w k a b c d) (ha : -1000 ≤ a ∧ a ≤ 1000) (hb : -1000 ≤ b ∧ b ≤ 1000) (hc : -1000 ≤ c ∧ c ≤ 1000) (hd : -1000 ≤ d ∧ d ≤ 1000) :
    Calls Try.prog 81 #[.slice (some ⟨k, 0, none⟩) 4 4] w fun e w' => e = .returned (.int .i64 (cnt a b c d)) ∧ Below w.heap.size w w' := by
  have g2 := gcd_le (m := a.natAbs) (n := b) (B := 1000) (by omega) hb
  have g3 := gcd_le (m := Int.gcd a.natAbs b) (n := c) (B := 1000) (by omega) hc
  obtain ⟨_, a0, a1, a2, a3, _⟩ := id hA
  go_enter Try.func81, Try.ntmps81
  go_wp2_with fail
  refine wp_loop_rounds 5 ?_
  rw [rounds_succ]; go_wp2_with fail
  refine (iGcd_any _ _ _ (by omega) (by omega)).mono ?_
  rintro e w2 ⟨rfl, hb2⟩
  have A2 := hA.next hb2
  clear a0 a1 a2 a3
  obtain ⟨_, a0, a1, a2, a3, _⟩ := id A2
  go_wp2_with fail
  rw [rounds_succ]; go_wp2_with fail
  refine (iGcd_any _ _ _ (by omega) (by omega)).mono ?_
  rintro e w3 ⟨rfl, hb3⟩
  have A3 := A2.next hb3
  clear a0 a1 a2 a3
  obtain ⟨_, a0, a1, a2, a3, _⟩ := id A3
  go_wp2_with fail
  rw [rounds_succ]; go_wp2_with fail
  refine (iGcd_any _ _ _ (by omega) (by omega)).mono ?_
  rintro e w4 ⟨rfl, hb4⟩
  have A4 := A3.next hb4
  clear a0 a1 a2 a3
  obtain ⟨_, a0, a1, a2, a3, _⟩ := id A4
  go_wp2_with fail
  rw [rounds_succ]; go_wp2_with fail
  refine (iGcd_any _ _ _ (by omega) (by omega)).mono ?_
  rintro e w5 ⟨rfl, hb5⟩
  go_wp2_with fail
  rw [rounds_succ]; go_wp2_with fail
  go_ret
  exact ⟨ret_int (by rw [← cnt_fold]), by (repeat' (first | with_reducible exact Below.refl _ _ | with_reducible assumption | with_reducible refine gr_alloc ?_ _ | with_reducible refine gr_drew ?_ | with_reducible refine gr_drewN ?_ _ | with_reducible refine gr_trans ?_ (by assumption) | with_reducible refine gr_set ?_ ?_ _ | (simp; done) | omega | (simp; omega)))⟩



/-- The greatest common divisor of three numbers. -/
def cnt3 (a b c : Int) : Int := Int.gcd (Int.gcd a b) c

set_option maxHeartbeats 1000000 in
theorem iGcd3_any (k : Nat) (a b c : Int) (w : World) (hA : Arr3 w k a b c) (ha : -100000000 ≤ a ∧ a ≤ 100000000) (hb : -100000000 ≤ b ∧ b ≤ 100000000) (hc : -100000000 ≤ c ∧ c ≤ 100000000) :
    Calls Try.prog 81 #[.slice (some ⟨k, 0, none⟩) 3 3] w fun e w' => e = .returned (.int .i64 (cnt3 a b c)) ∧ Below w.heap.size w w' := by
  have g2 := gcd_le (m := a.natAbs) (n := b) (B := 100000000) (by omega) hb
  obtain ⟨_, a0, a1, a2, _⟩ := id hA
  go_enter Try.func81, Try.ntmps81
  go_wp2_with fail
  refine wp_loop_rounds 4 ?_
  rw [rounds_succ]; go_wp2_with fail
  refine (iGcd_any _ _ _ (by omega) (by omega)).mono ?_
  rintro e w2 ⟨rfl, hb2⟩
  have A2 := hA.next hb2
  clear a0 a1 a2
  obtain ⟨_, a0, a1, a2, _⟩ := id A2
  go_wp2_with fail
  rw [rounds_succ]; go_wp2_with fail
  refine (iGcd_any _ _ _ (by omega) (by omega)).mono ?_
  rintro e w3 ⟨rfl, hb3⟩
  have A3 := A2.next hb3
  clear a0 a1 a2
  obtain ⟨_, a0, a1, a2, _⟩ := id A3
  go_wp2_with fail
  rw [rounds_succ]; go_wp2_with fail
  refine (iGcd_any _ _ _ (by omega) (by omega)).mono ?_
  rintro e w4 ⟨rfl, hb4⟩
  go_wp2_with fail
  rw [rounds_succ]; go_wp2_with fail
  go_ret
  exact ⟨ret_int (by simp [cnt3, Int.gcd]), by (repeat' (first | with_reducible exact Below.refl _ _ | with_reducible assumption | with_reducible refine gr_alloc ?_ _ | with_reducible refine gr_drew ?_ | with_reducible refine gr_drewN ?_ _ | with_reducible refine gr_trans ?_ (by assumption) | with_reducible refine gr_set ?_ ?_ _ | (simp; done) | omega | (simp; omega)))⟩

end Go.Proofs.Ytehbkmohfipmgaa

/- Chapter 10: definite quadratic forms. -/
namespace Go.Proofs.Ytehbkmohfipmgaa
open Go.RowKit

/-- Is d a discriminant of definite forms? -/
def dcl (d : Int) : Bool := rng (-2000) (-1) d && decide (d % 4 < 2)

set_option maxHeartbeats 400000 in
theorem hasRest_any (n : Int) (w : World) : Calls Try.prog 80 #[.int .i64 n] w fun e w' => e = .returned (.bool (decide (n % 4 < 2))) ∧ w = w' := by
  go_enter Try.func80, Try.ntmps80
  go_wp2_with fail
  refine (restBy_any n 4 _ (by omega) (by omega)).mono ?_
  rintro e w1 ⟨rfl, rfl⟩
  go_wp2
  go_ret
  exact ⟨rfl, rfl⟩

set_option maxHeartbeats 400000 in
theorem hasClasses_any (d : Int) (w : World) : Calls Try.prog 49 #[.int .i64 d] w fun e w' => e = .returned (.bool (dcl d)) ∧ w = w' := by
  go_enter Try.func49, Try.ntmps49
  go_wp2_with (go_at_call 80; refine (hasRest_any _ _).mono ?_; rintro e w1 ⟨rfl, rfl⟩)
  all_goals (go_ret; exact ⟨ret_bool (by go_light; (try simp_all [dcl, rng]); (try omega)), rfl⟩)

theorem dcl_eq {d : Int} {r : Bool} (h : r = true ↔ (-2000 ≤ d ∧ d ≤ -1) ∧ (d % 4 = 0 ∨ d % 4 = 1)) : r = dcl d := by
  rw [Bool.eq_iff_iff, h]
  simp only [dcl, rng, Bool.and_eq_true, decide_eq_true_eq]
  omega

theorem dcl_t {d : Int} (h : dcl d = true) : (-2000 ≤ d ∧ d ≤ -1) ∧ d % 4 < 2 := by
  simp only [dcl, Bool.and_eq_true, decide_eq_true_eq] at h
  exact ⟨rng_t h.1, h.2⟩

set_option maxHeartbeats 400000 in
theorem l10Discriminant_any (d : Int) (w : World) : Calls Try.prog 54 #[.int .i64 d] w fun e w' => e = .returned (.bool (dcl d)) ∧ w = w' := by
  obtain ⟨t1, t2⟩ := tmod_in d 4 (by omega)
  have HE := hid (rest_eq d 4 (by omega))
  have HE' := hid (rest_eq' d 4 (by omega))
  have h0 : 0 ≤ d.tmod 4 + 4 := by omega
  go_enter Try.func54, Try.ntmps54
  go_wp2_with (go_at_call 67; refine (l01In_any _ _ _ _).mono ?_; rintro e w1 ⟨rfl, rfl⟩)
  all_goals (go_ret; exact ⟨ret_bool (by apply dcl_eq; (try rw [← HE.out]); go_light; (try simp_all [rng]); (try omega)), rfl⟩)

set_option maxHeartbeats 400000 in
theorem sQd_any (a b c : Int) (w : World) : Calls Try.prog 73 #[.agg #[.int .i64 a, .int .i64 b, .int .i64 c]] w fun e w' => e = .returned (.int .i64 (dq a b c)) ∧ Below w.heap.size w w' := by
  go_enter Try.func73, Try.ntmps73
  go_wp2
  go_ret
  exact ⟨rfl, by (repeat' (first | with_reducible exact Below.refl _ _ | with_reducible assumption | with_reducible refine gr_alloc ?_ _ | with_reducible refine gr_drew ?_ | with_reducible refine gr_drewN ?_ _ | with_reducible refine gr_trans ?_ (by assumption) | with_reducible refine gr_set ?_ ?_ _ | (simp; done) | omega | (simp; omega)))⟩

/-- Three numbers of at most 10^6. -/
def isM (a b c : Int) : Bool := rng (-1000000) 1000000 a && rng (-1000000) 1000000 b && rng (-1000000) 1000000 c
theorem isM_t {a b c : Int} (h : isM a b c = true) : (-1000000 ≤ a ∧ a ≤ 1000000) ∧ (-1000000 ≤ b ∧ b ≤ 1000000) ∧ (-1000000 ≤ c ∧ c ≤ 1000000) := by
  simp only [isM, Bool.and_eq_true] at h
  exact ⟨rng_t h.1.1, rng_t h.1.2, rng_t h.2⟩
theorem isM_mk {a b c : Int} (ha : -1000000 ≤ a ∧ a ≤ 1000000) (hb : -1000000 ≤ b ∧ b ≤ 1000000) (hc : -1000000 ≤ c ∧ c ≤ 1000000) : isM a b c = true := by
  simp [isM, rng_mk ha.1 ha.2, rng_mk hb.1 hb.2, rng_mk hc.1 hc.2]
theorem isM_eq {a b c : Int} {r : Bool} (h : r = true ↔ (-1000000 ≤ a ∧ a ≤ 1000000) ∧ (-1000000 ≤ b ∧ b ≤ 1000000) ∧ (-1000000 ≤ c ∧ c ≤ 1000000)) : r = isM a b c := by
  rw [Bool.eq_iff_iff, h]
  exact ⟨fun ⟨p, q, r⟩ => isM_mk p q r, isM_t⟩

set_option maxHeartbeats 400000 in
theorem allWithinM_any (k : Nat) (a b c : Int) (w : World) (hA : Arr3 w k a b c) :
    Calls Try.prog 58 #[.slice (some ⟨k, 0, none⟩) 3 3, .int .i64 1000000] w fun e w' => e = .returned (.bool (isM a b c)) ∧ w = w' := by
  obtain ⟨lt, c0, c1, c2, _⟩ := hA
  go_enter Try.func58, Try.ntmps58
  go_wp2
  go_rounds 4
  all_goals (go_ret; exact ⟨ret_bool (by apply isM_eq; go_light; simp at *; try omega), rfl⟩)

set_option maxHeartbeats 400000 in
theorem isSmall_any (a b c : Int) (w : World) : Calls Try.prog 76 #[.agg #[.int .i64 a, .int .i64 b, .int .i64 c]] w fun e w' => e = .returned (.bool (isM a b c)) ∧ Below w.heap.size w w' := by
  go_enter Try.func76, Try.ntmps76
  go_wp2_with fail
  refine (allWithinM_any _ a b c _ (Arr3.new _ _ _ _ _)).mono ?_
  rintro e w1 ⟨rfl, rfl⟩
  go_wp2
  go_ret
  exact ⟨rfl, by (repeat' (first | with_reducible exact Below.refl _ _ | with_reducible assumption | with_reducible refine gr_alloc ?_ _ | with_reducible refine gr_drew ?_ | with_reducible refine gr_drewN ?_ _ | with_reducible refine gr_trans ?_ (by assumption) | with_reducible refine gr_set ?_ ?_ _ | (simp; done) | omega | (simp; omega)))⟩

set_option maxHeartbeats 400000 in
theorem isClassed_any (a b c : Int) (w : World) : Calls Try.prog 77 #[.agg #[.int .i64 a, .int .i64 b, .int .i64 c]] w fun e w' => e = .returned (.bool (dcl (dq a b c))) ∧ Below w.heap.size w w' := by
  go_enter Try.func77, Try.ntmps77
  go_wp2_with fail
  refine (iQd_any a b c _).mono ?_
  rintro e w1 ⟨rfl, hb1⟩
  go_wp2_with fail
  refine (hasClasses_any _ _).mono ?_
  rintro e w2 ⟨rfl, rfl⟩
  go_wp2
  go_ret
  exact ⟨rfl, by (repeat' (first | with_reducible exact Below.refl _ _ | with_reducible assumption | with_reducible refine gr_alloc ?_ _ | with_reducible refine gr_drew ?_ | with_reducible refine gr_drewN ?_ _ | with_reducible refine gr_trans ?_ (by assumption) | with_reducible refine gr_set ?_ ?_ _ | (simp; done) | omega | (simp; omega)))⟩

set_option maxHeartbeats 400000 in
theorem startsPositive_any (a b c : Int) (w : World) : Calls Try.prog 78 #[.agg #[.int .i64 a, .int .i64 b, .int .i64 c]] w fun e w' => e = .returned (.bool (decide (0 < a))) ∧ Below w.heap.size w w' := by
  go_enter Try.func78, Try.ntmps78
  go_wp2
  go_ret
  exact ⟨rfl, by (repeat' (first | with_reducible exact Below.refl _ _ | with_reducible assumption | with_reducible refine gr_alloc ?_ _ | with_reducible refine gr_drew ?_ | with_reducible refine gr_drewN ?_ _ | with_reducible refine gr_trans ?_ (by assumption) | with_reducible refine gr_set ?_ ?_ _ | (simp; done) | omega | (simp; omega)))⟩

set_option maxHeartbeats 400000 in
theorem isPrimitive_any (a b c : Int) (w : World) (ha : -100000000 ≤ a ∧ a ≤ 100000000) (hb : -100000000 ≤ b ∧ b ≤ 100000000) (hc : -100000000 ≤ c ∧ c ≤ 100000000) : Calls Try.prog 53 #[.agg #[.int .i64 a, .int .i64 b, .int .i64 c]] w fun e w' => e = .returned (.bool (cnt3 a b c == 1)) ∧ Below w.heap.size w w' := by
  go_enter Try.func53, Try.ntmps53
  go_wp2_with fail
  refine (iGcd3_any _ a b c _ (Arr3.new _ _ _ _ _) ha hb hc).mono ?_
  rintro e w1 ⟨rfl, hb1⟩
  go_wp2
  go_ret
  exact ⟨rfl, by (repeat' (first | with_reducible exact Below.refl _ _ | with_reducible assumption | with_reducible refine gr_alloc ?_ _ | with_reducible refine gr_drew ?_ | with_reducible refine gr_drewN ?_ _ | with_reducible refine gr_trans ?_ (by assumption) | with_reducible refine gr_set ?_ ?_ _ | (simp; done) | omega | (simp; omega)))⟩

/-- Is the quadratic form definite? -/
def df10 (a b c : Int) : Bool := isM a b c && (dcl (dq a b c) && (decide (0 < a) && (cnt3 a b c == 1)))

end Go.Proofs.Ytehbkmohfipmgaa
