/- Quadratic forms: what is one; copies and comparisons of the laws. -/
import Derived.Test.YtambbhldhhlfgaaC1
import Derived.Test.YtambbhldhhlfgaaArr3
namespace Go.Proofs.Ytambbhldhhlfgaa
open Go.RowKit

/-- Three numbers of at most 10^12, of at most 10^9. -/
def isQ (a b c : Int) : Bool := rng (-1000000000000) 1000000000000 a && rng (-1000000000000) 1000000000000 b && rng (-1000000000000) 1000000000000 c
theorem isQ_t {a b c : Int} (h : isQ a b c = true) : (-1000000000000 ≤ a ∧ a ≤ 1000000000000) ∧ (-1000000000000 ≤ b ∧ b ≤ 1000000000000) ∧ (-1000000000000 ≤ c ∧ c ≤ 1000000000000) := by
  simp only [isQ, Bool.and_eq_true] at h
  exact ⟨rng_t h.1.1, rng_t h.1.2, rng_t h.2⟩
theorem isQ_mk {a b c : Int} (ha : -1000000000000 ≤ a ∧ a ≤ 1000000000000) (hb : -1000000000000 ≤ b ∧ b ≤ 1000000000000) (hc : -1000000000000 ≤ c ∧ c ≤ 1000000000000) : isQ a b c = true := by
  simp [isQ, rng_mk ha.1 ha.2, rng_mk hb.1 hb.2, rng_mk hc.1 hc.2]
theorem isQ_eq {a b c : Int} {r : Bool} (h : r = true ↔ (-1000000000000 ≤ a ∧ a ≤ 1000000000000) ∧ (-1000000000000 ≤ b ∧ b ≤ 1000000000000) ∧ (-1000000000000 ≤ c ∧ c ≤ 1000000000000)) : r = isQ a b c := by
  rw [Bool.eq_iff_iff, h]
  exact ⟨fun ⟨p, q, r⟩ => isQ_mk p q r, isQ_t⟩
def isN (a b c : Int) : Bool := rng (-1000000000) 1000000000 a && rng (-1000000000) 1000000000 b && rng (-1000000000) 1000000000 c
theorem isN_t {a b c : Int} (h : isN a b c = true) : (-1000000000 ≤ a ∧ a ≤ 1000000000) ∧ (-1000000000 ≤ b ∧ b ≤ 1000000000) ∧ (-1000000000 ≤ c ∧ c ≤ 1000000000) := by
  simp only [isN, Bool.and_eq_true] at h
  exact ⟨rng_t h.1.1, rng_t h.1.2, rng_t h.2⟩
theorem isN_mk {a b c : Int} (ha : -1000000000 ≤ a ∧ a ≤ 1000000000) (hb : -1000000000 ≤ b ∧ b ≤ 1000000000) (hc : -1000000000 ≤ c ∧ c ≤ 1000000000) : isN a b c = true := by
  simp [isN, rng_mk ha.1 ha.2, rng_mk hb.1 hb.2, rng_mk hc.1 hc.2]
theorem isN_eq {a b c : Int} {r : Bool} (h : r = true ↔ (-1000000000 ≤ a ∧ a ≤ 1000000000) ∧ (-1000000000 ≤ b ∧ b ≤ 1000000000) ∧ (-1000000000 ≤ c ∧ c ≤ 1000000000)) : r = isN a b c := by
  rw [Bool.eq_iff_iff, h]
  exact ⟨fun ⟨p, q, r⟩ => isN_mk p q r, isN_t⟩
/-- The code of a quadratic form whose discriminant is asked. -/
def qcd (a b c : Int) : Int := if isQ a b c then (if isN a b c then 0 else 3) else 1
def qif (a b c : Int) : Int := if isQ a b c then 0 else 1
/-- Q Q - 4 P R; P x x + Q x y + R y y; the middle number of a changed quadratic form. -/
def dq (a b c : Int) : Int := mi (mu b b) (mu (mu 4 a) c)
def qv (a b c x y : Int) : Int := pl (pl (mu (mu a x) x) (mu (mu b x) y)) (mu (mu c y) y)
def qm (a b c p q r s : Int) : Int := pl (pl (mu (mu (mu 2 a) p) q) (mu b (pl (mu p s) (mu q r)))) (mu (mu (mu 2 c) r) s)
/-- The code of a quadratic form and a place. -/
def qpc (a b c x y : Int) : Int := if isQ a b c then (if rng (-100) 100 x && rng (-100) 100 y then 0 else 2) else 1
def nr (x y : Int) : Bool := rng (-100) 100 x && rng (-100) 100 y
/-- The code of a changed quadratic form. -/
def cqc (a b c p q r s : Int) : Int := if isQ a b c && isF p q r s then (if isQ (qv a b c p r) (qm a b c p q r s) (qv a b c q s) then 0 else 3) else 1





set_option maxHeartbeats 400000 in
theorem sIsQ0_any (a b c : Int) (w : World) :
    Calls Try.prog 88 #[.agg #[.int .i64 a, .int .i64 b, .int .i64 c]] w fun e w' => e = .returned (.bool (isQ a b c)) ∧ Below w.heap.size w w' := by
  go_enter Try.func88, Try.ntmps88
  go_wp2
  go_rounds 4
  all_goals (go_ret; exact ⟨ret_bool (by apply isQ_eq; go_light; simp at *; try omega), by go_grown⟩)

set_option maxHeartbeats 400000 in
theorem allWithinQ_any (k : Nat) (a b c : Int) (w : World) (hA : Arr3 w k a b c) :
    Calls Try.prog 60 #[.slice (some ⟨k, 0, none⟩) 3 3, .int .i64 1000000000000] w fun e w' => e = .returned (.bool (isQ a b c)) ∧ w = w' := by
  obtain ⟨lt, c0, c1, c2, _⟩ := hA
  go_enter Try.func60, Try.ntmps60
  go_wp2
  go_rounds 4
  all_goals (go_ret; exact ⟨ret_bool (by apply isQ_eq; go_light; simp at *; try omega), rfl⟩)

set_option maxHeartbeats 400000 in
theorem allWithinN_any (k : Nat) (a b c : Int) (w : World) (hA : Arr3 w k a b c) :
    Calls Try.prog 60 #[.slice (some ⟨k, 0, none⟩) 3 3, .int .i64 1000000000] w fun e w' => e = .returned (.bool (isN a b c)) ∧ w = w' := by
  obtain ⟨lt, c0, c1, c2, _⟩ := hA
  go_enter Try.func60, Try.ntmps60
  go_wp2
  go_rounds 4
  all_goals (go_ret; exact ⟨ret_bool (by apply isN_eq; go_light; simp at *; try omega), rfl⟩)

set_option maxHeartbeats 400000 in
theorem iIsQ_any (a b c : Int) (w : World) :
    Calls Try.prog 32 #[.agg #[.int .i64 a, .int .i64 b, .int .i64 c]] w fun e w' => e = .returned (.bool (isQ a b c)) ∧ Below w.heap.size w w' := by
  go_enter Try.func32, Try.ntmps32
  go_wp2_with fail
  refine (allWithinQ_any _ a b c _ (Arr3.new _ _ _ _ _)).mono ?_
  rintro e w1 ⟨rfl, rfl⟩
  go_wp2
  go_ret
  exact ⟨rfl, by (repeat' (first | with_reducible exact Below.refl _ _ | with_reducible assumption | with_reducible refine gr_alloc ?_ _ | with_reducible refine gr_drew ?_ | with_reducible refine gr_drewN ?_ _ | with_reducible refine gr_trans ?_ (by assumption) | with_reducible refine gr_set ?_ ?_ _ | (simp; done) | omega | (simp; omega)))⟩

set_option maxHeartbeats 400000 in
theorem sIsQ_any (a b c : Int) (w : World) :
    Calls Try.prog 36 #[.agg #[.int .i64 a, .int .i64 b, .int .i64 c]] w fun e w' => e = .returned (.bool (isQ a b c)) ∧ Below w.heap.size w w' := by
  go_enter Try.func36, Try.ntmps36
  go_wp2_with fail
  refine (sIsQ0_any a b c _).mono ?_
  rintro e w1 ⟨rfl, hb1⟩
  go_wp2
  go_ret
  exact ⟨rfl, by (repeat' (first | with_reducible exact Below.refl _ _ | with_reducible assumption | with_reducible refine gr_alloc ?_ _ | with_reducible refine gr_drew ?_ | with_reducible refine gr_drewN ?_ _ | with_reducible refine gr_trans ?_ (by assumption) | with_reducible refine gr_set ?_ ?_ _ | (simp; done) | omega | (simp; omega)))⟩

set_option maxHeartbeats 400000 in
theorem sNear_any (x y : Int) (w : World) :
    Calls Try.prog 93 #[.int .i64 x, .int .i64 y] w fun e w' => e = .returned (.bool (nr x y)) ∧ w = w' := by
  go_enter Try.func93, Try.ntmps93
  go_wp2_with (go_at_call 66; refine (l01In_any _ _ _ _).mono ?_; rintro e w1 ⟨rfl, rfl⟩)
  all_goals (go_ret; exact ⟨ret_bool (by go_light; simp_all [nr]), rfl⟩)

set_option maxHeartbeats 400000 in
theorem sAt0_any (a b c x y : Int) (w : World) :
    Calls Try.prog 94 #[.agg #[.int .i64 a, .int .i64 b, .int .i64 c], .int .i64 x, .int .i64 y] w fun e w' => e = .returned (.int .i64 (qv a b c x y)) ∧ Below w.heap.size w w' := by
  go_enter Try.func94, Try.ntmps94
  go_wp2
  go_ret
  exact ⟨rfl, by (repeat' (first | with_reducible exact Below.refl _ _ | with_reducible assumption | with_reducible refine gr_alloc ?_ _ | with_reducible refine gr_drew ?_ | with_reducible refine gr_drewN ?_ _ | with_reducible refine gr_trans ?_ (by assumption) | with_reducible refine gr_set ?_ ?_ _ | (simp; done) | omega | (simp; omega)))⟩

set_option maxHeartbeats 400000 in
theorem iQv_any (a b c x y : Int) (w : World) :
    Calls Try.prog 91 #[.agg #[.int .i64 a, .int .i64 b, .int .i64 c], .int .i64 x, .int .i64 y] w fun e w' => e = .returned (.int .i64 (qv a b c x y)) ∧ Below w.heap.size w w' := by
  go_enter Try.func91, Try.ntmps91
  go_wp2
  go_ret
  exact ⟨rfl, by (repeat' (first | with_reducible exact Below.refl _ _ | with_reducible assumption | with_reducible refine gr_alloc ?_ _ | with_reducible refine gr_drew ?_ | with_reducible refine gr_drewN ?_ _ | with_reducible refine gr_trans ?_ (by assumption) | with_reducible refine gr_set ?_ ?_ _ | (simp; done) | omega | (simp; omega)))⟩

set_option maxHeartbeats 400000 in
theorem iQuadAt_any (a b c x y : Int) (w : World) :
    Calls Try.prog 37 #[.agg #[.int .i64 a, .int .i64 b, .int .i64 c], .int .i64 x, .int .i64 y] w fun e w' => e = .returned (.tuple #[.int .i64 (if0 (qpc a b c x y) (qv a b c x y)), .int .i64 (qpc a b c x y)]) ∧ Below w.heap.size w w' := by
  go_enter Try.func37, Try.ntmps37
  go_wp2_with fail
  refine (iIsQ_any a b c _).mono ?_
  rintro e w1 ⟨rfl, hb1⟩
  obtain ⟨_, c0, c1, c2, _⟩ := (Arr3.new w a b c 49).next hb1
  go_wp2_with (first | (go_at_call 64; refine (isWithin_any _ _ _ (by omega) (by omega)).mono ?_; rintro e w2 ⟨rfl, rfl⟩) | (go_at_call 91; refine (iQv_any a b c x y _).mono ?_; rintro e w3 ⟨rfl, hb3⟩))
  all_goals (go_ret2; exact ⟨ret_tup2 (by go_light; simp_all [qpc, if0]) (by go_light; simp_all [qpc]), by (repeat' (first | with_reducible exact Below.refl _ _ | with_reducible assumption | with_reducible refine gr_alloc ?_ _ | with_reducible refine gr_drew ?_ | with_reducible refine gr_drewN ?_ _ | with_reducible refine gr_trans ?_ (by assumption) | with_reducible refine gr_set ?_ ?_ _ | (simp; done) | omega | (simp; omega)))⟩)

set_option maxHeartbeats 400000 in
theorem sQuadAt_any (a b c x y : Int) (w : World) :
    Calls Try.prog 39 #[.agg #[.int .i64 a, .int .i64 b, .int .i64 c], .int .i64 x, .int .i64 y] w fun e w' => e = .returned (.tuple #[.int .i64 (if0 (qpc a b c x y) (qv a b c x y)), .int .i64 (qpc a b c x y)]) ∧ Below w.heap.size w w' := by
  go_enter Try.func39, Try.ntmps39
  go_wp2_with fail
  refine (sIsQ0_any a b c _).mono ?_
  rintro e w1 ⟨rfl, hb1⟩
  obtain ⟨_, c0, c1, c2, _⟩ := (Arr3.new w a b c 49).next hb1
  by_cases hm : isQ a b c = true
  · go_wp2_with fail
    refine (sNear_any x y _).mono ?_
    rintro e w2 ⟨rfl, rfl⟩
    by_cases hn : nr x y = true
    · go_wp2_with fail
      refine (sAt0_any a b c x y _).mono ?_
      rintro e w3 ⟨rfl, hb3⟩
      go_wp2
      go_ret2
      have k0 : qpc a b c x y = 0 := by unfold nr at hn; simp [qpc, hm, hn]
      exact ⟨ret_tup2 (by simp [if0, k0]) (by simp [k0]), by (repeat' (first | with_reducible exact Below.refl _ _ | with_reducible assumption | with_reducible refine gr_alloc ?_ _ | with_reducible refine gr_drew ?_ | with_reducible refine gr_drewN ?_ _ | with_reducible refine gr_trans ?_ (by assumption) | with_reducible refine gr_set ?_ ?_ _ | (simp; done) | omega | (simp; omega)))⟩
    · have hn' : nr x y = false := by simpa using hn
      clear hn
      go_wp2
      go_ret2
      have k0 : qpc a b c x y = 2 := by unfold nr at hn'; simp [qpc, hm, hn']
      exact ⟨ret_tup2 (by simp [if0, k0]) (by simp [k0]), by (repeat' (first | with_reducible exact Below.refl _ _ | with_reducible assumption | with_reducible refine gr_alloc ?_ _ | with_reducible refine gr_drew ?_ | with_reducible refine gr_drewN ?_ _ | with_reducible refine gr_trans ?_ (by assumption) | with_reducible refine gr_set ?_ ?_ _ | (simp; done) | omega | (simp; omega)))⟩
  · have hm' : isQ a b c = false := by simpa using hm
    clear hm
    go_wp2
    go_ret2
    have k0 : qpc a b c x y = 1 := by simp [qpc, hm']
    exact ⟨ret_tup2 (by simp [if0, k0]) (by simp [k0]), by (repeat' (first | with_reducible exact Below.refl _ _ | with_reducible assumption | with_reducible refine gr_alloc ?_ _ | with_reducible refine gr_drew ?_ | with_reducible refine gr_drewN ?_ _ | with_reducible refine gr_trans ?_ (by assumption) | with_reducible refine gr_set ?_ ?_ _ | (simp; done) | omega | (simp; omega)))⟩

set_option maxHeartbeats 400000 in
theorem sDq0_any (a b c : Int) (w : World) :
    Calls Try.prog 96 #[.agg #[.int .i64 a, .int .i64 b, .int .i64 c]] w fun e w' => e = .returned (.int .i64 (dq a b c)) ∧ Below w.heap.size w w' := by
  go_enter Try.func96, Try.ntmps96
  go_wp2
  go_ret
  exact ⟨rfl, by (repeat' (first | with_reducible exact Below.refl _ _ | with_reducible assumption | with_reducible refine gr_alloc ?_ _ | with_reducible refine gr_drew ?_ | with_reducible refine gr_drewN ?_ _ | with_reducible refine gr_trans ?_ (by assumption) | with_reducible refine gr_set ?_ ?_ _ | (simp; done) | omega | (simp; omega)))⟩

set_option maxHeartbeats 1000000 in
theorem sSmall_any (a b c : Int) (w : World) :
    Calls Try.prog 95 #[.agg #[.int .i64 a, .int .i64 b, .int .i64 c]] w fun e w' => e = .returned (.int .i64 (qcd a b c)) ∧ Below w.heap.size w w' := by
  go_enter Try.func95, Try.ntmps95
  go_wp2_with fail
  refine (sIsQ0_any a b c _).mono ?_
  rintro e w1 ⟨rfl, hb1⟩
  obtain ⟨_, c0, c1, c2, _⟩ := (Arr3.new w a b c 49).next hb1
  by_cases hq : isQ a b c = true
  · go_wp2
    go_rounds 4
    all_goals (go_ret; refine ⟨ret_int ?_, by (repeat' (first | with_reducible exact Below.refl _ _ | with_reducible assumption | with_reducible refine gr_alloc ?_ _ | with_reducible refine gr_drew ?_ | with_reducible refine gr_drewN ?_ _ | with_reducible refine gr_trans ?_ (by assumption) | with_reducible refine gr_set ?_ ?_ _ | (simp; done) | omega | (simp; omega)))⟩; go_light; simp only [qcd, hq, if_true]; first | (rw [if_pos (isN_mk (by simp at *; omega) (by simp at *; omega) (by simp at *; omega))]) | (rw [if_neg (fun h => by have := isN_t h; simp at *; omega)]))
  · have hq' : isQ a b c = false := by simpa using hq
    clear hq
    go_wp2
    go_ret
    exact ⟨ret_int (by simp [qcd, hq']), by (repeat' (first | with_reducible exact Below.refl _ _ | with_reducible assumption | with_reducible refine gr_alloc ?_ _ | with_reducible refine gr_drew ?_ | with_reducible refine gr_drewN ?_ _ | with_reducible refine gr_trans ?_ (by assumption) | with_reducible refine gr_set ?_ ?_ _ | (simp; done) | omega | (simp; omega)))⟩

set_option maxHeartbeats 400000 in
theorem iQd_any (a b c : Int) (w : World) : Calls Try.prog 81 #[.agg #[.int .i64 a, .int .i64 b, .int .i64 c]] w fun e w' => e = .returned (.int .i64 (dq a b c)) ∧ Below w.heap.size w w' := by
  go_enter Try.func81, Try.ntmps81
  go_wp2
  go_ret
  exact ⟨rfl, by (repeat' (first | with_reducible exact Below.refl _ _ | with_reducible assumption | with_reducible refine gr_alloc ?_ _ | with_reducible refine gr_drew ?_ | with_reducible refine gr_drewN ?_ _ | with_reducible refine gr_trans ?_ (by assumption) | with_reducible refine gr_set ?_ ?_ _ | (simp; done) | omega | (simp; omega)))⟩

set_option maxHeartbeats 400000 in
theorem iQDisc_any (a b c : Int) (w : World) :
    Calls Try.prog 28 #[.agg #[.int .i64 a, .int .i64 b, .int .i64 c]] w fun e w' => e = .returned (.tuple #[.int .i64 (if0 (qcd a b c) (dq a b c)), .int .i64 (qcd a b c)]) ∧ Below w.heap.size w w' := by
  go_enter Try.func28, Try.ntmps28
  go_wp2_with fail
  refine (iIsQ_any a b c _).mono ?_
  rintro e w1 ⟨rfl, hb1⟩
  have A1 := (Arr3.new w a b c 49).next hb1
  obtain ⟨_, c0, c1, c2, _⟩ := id A1
  go_wp2_with (first | (go_at_call 60; refine (allWithinN_any _ a b c _ A1).mono ?_; rintro e w2 ⟨rfl, rfl⟩) | (go_at_call 81; refine (iQd_any a b c _).mono ?_; rintro e w3 ⟨rfl, hb3⟩))
  all_goals (go_ret2; exact ⟨ret_tup2 (by go_light; simp_all [qcd, if0]) (by go_light; simp_all [qcd]), by (repeat' (first | with_reducible exact Below.refl _ _ | with_reducible assumption | with_reducible refine gr_alloc ?_ _ | with_reducible refine gr_drew ?_ | with_reducible refine gr_drewN ?_ _ | with_reducible refine gr_trans ?_ (by assumption) | with_reducible refine gr_set ?_ ?_ _ | (simp; done) | omega | (simp; omega)))⟩)

set_option maxHeartbeats 400000 in
theorem sQDisc_any (a b c : Int) (w : World) :
    Calls Try.prog 41 #[.agg #[.int .i64 a, .int .i64 b, .int .i64 c]] w fun e w' => e = .returned (.tuple #[.int .i64 (if0 (qcd a b c) (dq a b c)), .int .i64 (qcd a b c)]) ∧ Below w.heap.size w w' := by
  go_enter Try.func41, Try.ntmps41
  go_wp2_with fail
  refine (sSmall_any a b c _).mono ?_
  rintro e w1 ⟨rfl, hb1⟩
  obtain ⟨_, c0, c1, c2, _⟩ := (Arr3.new w a b c 49).next hb1
  go_wp2_with (go_at_call 96; refine (sDq0_any a b c _).mono ?_; rintro e w2 ⟨rfl, hb2⟩)
  all_goals (go_ret2; exact ⟨ret_tup2 (by go_light; simp_all [if0]) (by go_light; simp_all), by (repeat' (first | with_reducible exact Below.refl _ _ | with_reducible assumption | with_reducible refine gr_alloc ?_ _ | with_reducible refine gr_drew ?_ | with_reducible refine gr_drewN ?_ _ | with_reducible refine gr_trans ?_ (by assumption) | with_reducible refine gr_set ?_ ?_ _ | (simp; done) | omega | (simp; omega)))⟩)

theorem ret_bi2 {a b : Bool} {c d : Int} (h : a = b) (h' : c = d) : Ending.returned (.tuple #[.bool a, .int .i64 c]) = .returned (.tuple #[.bool b, .int .i64 d]) := by rw [h, h']
/-- Is a quadratic form definite? -/
def dfn (a b c : Int) : Bool := decide (if0 (qcd a b c) (dq a b c) < 0)

set_option maxHeartbeats 400000 in
theorem iDefinite_any (a b c : Int) (w : World) :
    Calls Try.prog 31 #[.agg #[.int .i64 a, .int .i64 b, .int .i64 c]] w fun e w' => e = .returned (.tuple #[.bool (dfn a b c), .int .i64 (qcd a b c)]) ∧ Below w.heap.size w w' := by
  have hc := fun W => iQDisc_any a b c W
  have hx : dfn a b c = decide (if0 (qcd a b c) (dq a b c) < 0) := rfl
  rw [hx]
  generalize if0 (qcd a b c) (dq a b c) = x at hc ⊢
  have HC := hid hc
  clear hc hx
  go_enter Try.func31, Try.ntmps31
  go_wp2_with fail
  refine (HC.out _).mono ?_
  rintro e w1 ⟨rfl, hb1⟩
  go_wp2
  go_ret2
  exact ⟨rfl, by (repeat' (first | with_reducible exact Below.refl _ _ | with_reducible assumption | with_reducible refine gr_alloc ?_ _ | with_reducible refine gr_drew ?_ | with_reducible refine gr_drewN ?_ _ | with_reducible refine gr_trans ?_ (by assumption) | with_reducible refine gr_set ?_ ?_ _ | (simp; done) | omega | (simp; omega)))⟩

set_option maxHeartbeats 400000 in
theorem sDefinite_any (a b c : Int) (w : World) :
    Calls Try.prog 43 #[.agg #[.int .i64 a, .int .i64 b, .int .i64 c]] w fun e w' => e = .returned (.tuple #[.bool (dfn a b c), .int .i64 (qcd a b c)]) ∧ Below w.heap.size w w' := by
  go_enter Try.func43, Try.ntmps43
  go_wp2_with fail
  refine (sSmall_any a b c _).mono ?_
  rintro e w1 ⟨rfl, hb1⟩
  obtain ⟨_, c0, c1, c2, _⟩ := (Arr3.new w a b c 49).next hb1
  go_wp2_with (go_at_call 96; refine (sDq0_any a b c _).mono ?_; rintro e w2 ⟨rfl, hb2⟩)
  all_goals (go_ret2; exact ⟨ret_bi2 (by go_light; simp_all [dfn, if0]) (by go_light; simp_all), by (repeat' (first | with_reducible exact Below.refl _ _ | with_reducible assumption | with_reducible refine gr_alloc ?_ _ | with_reducible refine gr_drew ?_ | with_reducible refine gr_drewN ?_ _ | with_reducible refine gr_trans ?_ (by assumption) | with_reducible refine gr_set ?_ ?_ _ | (simp; done) | omega | (simp; omega)))⟩)

end Go.Proofs.Ytambbhldhhlfgaa
