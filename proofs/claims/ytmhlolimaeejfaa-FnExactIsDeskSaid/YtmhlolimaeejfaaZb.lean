/- Chapter 10: definite quadratic forms. -/
import Derived.Test.YtmhlolimaeejfaaMul
import Derived.Test.YtmhlolimaeejfaaQ
import Derived.Test.YtmhlolimaeejfaaC1h
import Derived.Laws.EntriesVeiled
namespace Go.Proofs.Ytmhlolimaeejfaa
open Go.RowKit

/-- Is d a discriminant of definite forms? -/
def dcl (d : Int) : Bool := rng (-2000) (-1) d && decide (d % 4 < 2)

set_option maxHeartbeats 400000 in
theorem hasRest_any (n : Int) (w : World) : Calls Try.prog 103 #[.int .i64 n] w fun e w' => e = .returned (.bool (decide (n % 4 < 2))) ∧ w = w' := by
  go_enter Try.func103, Try.ntmps103
  go_wp2_with fail
  refine (restBy_any n 4 _ (by omega) (by omega)).mono ?_
  rintro e w1 ⟨rfl, rfl⟩
  go_wp2
  go_ret
  exact ⟨rfl, rfl⟩

set_option maxHeartbeats 400000 in
theorem hasClasses_any (d : Int) (w : World) : Calls Try.prog 127 #[.int .i64 d] w fun e w' => e = .returned (.bool (dcl d)) ∧ w = w' := by
  go_enter Try.func127, Try.ntmps127
  go_wp2_with (go_at_call 103; refine (hasRest_any _ _).mono ?_; rintro e w1 ⟨rfl, rfl⟩)
  all_goals (go_ret; exact ⟨ret_bool (by go_light; (try simp_all [dcl, rng]); (try omega)), rfl⟩)

theorem dcl_eq {d : Int} {r : Bool} (h : r = true ↔ (-2000 ≤ d ∧ d ≤ -1) ∧ (d % 4 = 0 ∨ d % 4 = 1)) : r = dcl d := by
  rw [Bool.eq_iff_iff, h]
  simp only [dcl, rng, Bool.and_eq_true, decide_eq_true_eq]
  omega

theorem dcl_t {d : Int} (h : dcl d = true) : (-2000 ≤ d ∧ d ≤ -1) ∧ d % 4 < 2 := by
  simp only [dcl, Bool.and_eq_true, decide_eq_true_eq] at h
  exact ⟨rng_t h.1, h.2⟩



set_option maxHeartbeats 400000 in
theorem sQd_any (a b c : Int) (w : World) : Calls Try.prog 71 #[.agg #[.int .i64 a, .int .i64 b, .int .i64 c]] w fun e w' => e = .returned (.int .i64 (dq a b c)) ∧ Below w.heap.size w w' := by
  go_enter Try.func71, Try.ntmps71
  go_wp2
  go_ret
  exact ⟨rfl, by (repeat' (first | with_reducible exact Below.refl _ _ | with_reducible assumption | with_reducible refine gr_alloc ?_ _ | with_reducible refine gr_drew ?_ | with_reducible refine gr_drewN ?_ _ | with_reducible refine gr_trans ?_ (by assumption) | with_reducible refine gr_set ?_ ?_ _ | (simp; done) | omega | (simp; omega)))⟩

/-- Three numbers of at most 10^6. -/
def isM (a b c : Int) : Bool := rng (-1000000) 1000000 a && rng (-1000000) 1000000 b && rng (-1000000) 1000000 c
theorem isM_t {a b c : Int} (h : isM a b c = true) : (-1000000 ≤ a ∧ a ≤ 1000000) ∧ (-1000000 ≤ b ∧ b ≤ 1000000) ∧ (-1000000 ≤ c ∧ c ≤ 1000000) := by
  simp only [isM, Bool.and_eq_true] at h
  exact ⟨rng_t h.1.1, rng_t h.1.2, rng_t h.2⟩
theorem isM_mk {a b c : Int} (ha : -1000000 ≤ a ∧ a ≤ 1000000) (hb : -1000000 ≤ b ∧ b ≤ 1000000) (hc : -1000000 ≤ c ∧ c ≤ 1000000) : isM a b c = true := by
  simp [isM, rng_mk ha.1 ha.2, rng_mk hb.1 hb.2, rng_mk hc.1 hc.2]
theorem isM_eq {a b c : Int} {r : Bool} (h : r = true ↔ (-1000000 ≤ a ∧ a ≤ 1000000) ∧ (-1000000 ≤ b ∧ b ≤ 1000000) ∧ (-1000000 ≤ c ∧ c ≤ 1000000)) : r = isM a b c := by
  rw [Bool.eq_iff_iff, h]
  exact ⟨fun ⟨p, q, r⟩ => isM_mk p q r, isM_t⟩

set_option maxHeartbeats 400000 in
theorem allWithinM_any (k : Nat) (a b c : Int) (w : World) (hA : Arr3 w k a b c) :
    Calls Try.prog 73 #[.slice (some ⟨k, 0, none⟩) 3 3, .int .i64 1000000] w fun e w' => e = .returned (.bool (isM a b c)) ∧ w = w' := by
  obtain ⟨lt, c0, c1, c2, _⟩ := hA
  go_enter Try.func73, Try.ntmps73
  go_wp2
  go_rounds 4
  all_goals (go_ret; exact ⟨ret_bool (by apply isM_eq; go_light; simp at *; try omega), rfl⟩)

set_option maxHeartbeats 400000 in
theorem isSmall_any (a b c : Int) (w : World) : Calls Try.prog 109 #[.agg #[.int .i64 a, .int .i64 b, .int .i64 c]] w fun e w' => e = .returned (.bool (isM a b c)) ∧ Below w.heap.size w w' := by
  go_enter Try.func109, Try.ntmps109
  go_wp2_with fail
  refine (allWithinM_any _ a b c _ (Arr3.new _ _ _ _ _)).mono ?_
  rintro e w1 ⟨rfl, rfl⟩
  go_wp2
  go_ret
  exact ⟨rfl, by (repeat' (first | with_reducible exact Below.refl _ _ | with_reducible assumption | with_reducible refine gr_alloc ?_ _ | with_reducible refine gr_drew ?_ | with_reducible refine gr_drewN ?_ _ | with_reducible refine gr_trans ?_ (by assumption) | with_reducible refine gr_set ?_ ?_ _ | (simp; done) | omega | (simp; omega)))⟩

set_option maxHeartbeats 400000 in
theorem isClassed_any (a b c : Int) (w : World) : Calls Try.prog 110 #[.agg #[.int .i64 a, .int .i64 b, .int .i64 c]] w fun e w' => e = .returned (.bool (dcl (dq a b c))) ∧ Below w.heap.size w w' := by
  go_enter Try.func110, Try.ntmps110
  go_wp2_with fail
  refine (iQd_any a b c _).mono ?_
  rintro e w1 ⟨rfl, hb1⟩
  go_wp2_with fail
  refine (hasClasses_any _ _).mono ?_
  rintro e w2 ⟨rfl, rfl⟩
  go_wp2
  go_ret
  exact ⟨rfl, by (repeat' (first | with_reducible exact Below.refl _ _ | with_reducible assumption | with_reducible refine gr_alloc ?_ _ | with_reducible refine gr_drew ?_ | with_reducible refine gr_drewN ?_ _ | with_reducible refine gr_trans ?_ (by assumption) | with_reducible refine gr_set ?_ ?_ _ | (simp; done) | omega | (simp; omega)))⟩

set_option maxHeartbeats 400000 in
theorem startsPositive_any (a b c : Int) (w : World) : Calls Try.prog 111 #[.agg #[.int .i64 a, .int .i64 b, .int .i64 c]] w fun e w' => e = .returned (.bool (decide (0 < a))) ∧ Below w.heap.size w w' := by
  go_enter Try.func111, Try.ntmps111
  go_wp2
  go_ret
  exact ⟨rfl, by (repeat' (first | with_reducible exact Below.refl _ _ | with_reducible assumption | with_reducible refine gr_alloc ?_ _ | with_reducible refine gr_drew ?_ | with_reducible refine gr_drewN ?_ _ | with_reducible refine gr_trans ?_ (by assumption) | with_reducible refine gr_set ?_ ?_ _ | (simp; done) | omega | (simp; omega)))⟩

set_option maxHeartbeats 400000 in
theorem isPrimitive_any (a b c : Int) (w : World) (ha : -100000000 ≤ a ∧ a ≤ 100000000) (hb : -100000000 ≤ b ∧ b ≤ 100000000) (hc : -100000000 ≤ c ∧ c ≤ 100000000) : Calls Try.prog 112 #[.agg #[.int .i64 a, .int .i64 b, .int .i64 c]] w fun e w' => e = .returned (.bool (cnt3 a b c == 1)) ∧ Below w.heap.size w w' := by
  go_enter Try.func112, Try.ntmps112
  go_wp2_with fail
  refine (iGcd3_any _ a b c _ (Arr3.new _ _ _ _ _) ha hb hc).mono ?_
  rintro e w1 ⟨rfl, hb1⟩
  go_wp2
  go_ret
  exact ⟨rfl, by (repeat' (first | with_reducible exact Below.refl _ _ | with_reducible assumption | with_reducible refine gr_alloc ?_ _ | with_reducible refine gr_drew ?_ | with_reducible refine gr_drewN ?_ _ | with_reducible refine gr_trans ?_ (by assumption) | with_reducible refine gr_set ?_ ?_ _ | (simp; done) | omega | (simp; omega)))⟩

/-- Is the quadratic form definite? -/
def df10 (a b c : Int) : Bool := isM a b c && (dcl (dq a b c) && (decide (0 < a) && (cnt3 a b c == 1)))

end Go.Proofs.Ytmhlolimaeejfaa
