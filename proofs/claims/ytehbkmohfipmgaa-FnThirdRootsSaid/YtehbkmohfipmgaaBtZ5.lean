/- Several texts in one: XMul, XQ, XC1b, XC1c. -/
import Derived.Test.YtehbkmohfipmgaaBtZ1
import Derived.Test.YtehbkmohfipmgaaBtZ2
import Derived.Test.YtehbkmohfipmgaaBtZ3

/- Multiples. -/
namespace Go.Proofs.Ytehbkmohfipmgaa
open Go.RowKit

/-- Is n a multiple of m? (0 has the multiple 0 alone.) -/
def mul0 (n m : Int) : Bool := if m = 0 then decide (n = 0) else decide (n.tmod m = 0)
theorem mul0_p {n m : Int} (h : 2 ≤ m) : mul0 n m = decide (n.tmod m = 0) := by unfold mul0; rw [if_neg (by omega)]
theorem beq_dec (a b : Int) : (a == b) = decide (a = b) := by rw [Bool.eq_iff_iff]; simp
theorem tmod_6 (n m : Int) (h1 : 1 ≤ m) (h : m ≤ 1000000000000000) : -1000000000000000 ≤ n.tmod m ∧ n.tmod m ≤ 1000000000000000 := by
  have := Int.natAbs_tmod n m
  have hb : n.natAbs % m.natAbs < m.natAbs := Nat.mod_lt _ (by omega)
  omega

set_option maxHeartbeats 400000 in
theorem isMultiple_any (n m : Int) (w : World) (h0 : 0 ≤ m) (h97 : m ≤ 1000000000000000) : Calls Try.prog 65 #[.int .i64 n, .int .i64 m] w fun e w' => e = .returned (.bool (mul0 n m)) ∧ w = w' := by
  by_cases hm : m = 0
  · have hm' : (m == 0) = true := by simpa using hm
    have H := hid hm
    clear hm
    go_enter Try.func65, Try.ntmps65
    go_wp2
    go_ret
    exact ⟨ret_bool (by simp [mul0, H.out, beq_dec]), rfl⟩
  · obtain ⟨hb1, hb2⟩ := tmod_6 n m (by omega) h97
    have hm1 : 1 ≤ m := by omega
    have hm' : (m == 0) = false := by simpa using hm
    have H := hid hm
    clear hm
    go_enter Try.func65, Try.ntmps65
    go_wp2
    go_ret
    exact ⟨ret_bool (by simp [mul0, H.out, beq_dec]), rfl⟩

theorem tmod_in (n m : Int) (h : 1 ≤ m) : -m < n.tmod m ∧ n.tmod m < m := by
  have := Int.natAbs_tmod n m
  have hb : n.natAbs % m.natAbs < m.natAbs := Nat.mod_lt _ (by omega)
  omega
theorem rest_eq (n m : Int) (h : 1 ≤ m) : (n.tmod m + m) % m = n % m := by
  rw [Int.add_emod_right, Int.tmod_eq_emod]
  split
  · simp
  · have e : n % m - ↑m.natAbs = n % m - m := by omega
    rw [e, Int.sub_emod_right, Int.emod_emod]
theorem rest_eq' (n m : Int) (h : 1 ≤ m) : (n.tmod m + m).tmod m = n % m := by
  rw [Int.tmod_eq_emod_of_nonneg (by have := tmod_in n m h; omega)]
  exact rest_eq n m h
theorem mul0_e {n m : Int} (h : 1 ≤ m) : mul0 n m = decide (n % m = 0) := by
  unfold mul0; rw [if_neg (by omega), Bool.eq_iff_iff]
  simp only [decide_eq_true_eq]
  exact ⟨fun e => Int.emod_eq_zero_of_dvd (Int.dvd_of_tmod_eq_zero e), fun e => Int.tmod_eq_zero_of_dvd (Int.dvd_of_emod_eq_zero e)⟩

set_option maxHeartbeats 400000 in
theorem restBy_any (n m : Int) (w : World) (h1 : 1 ≤ m) (h2 : m ≤ 1000000000000000) : Calls Try.prog 82 #[.int .i64 n, .int .i64 m] w fun e w' => e = .returned (.int .i64 (n % m)) ∧ w = w' := by
  obtain ⟨t1, t2⟩ := tmod_in n m h1
  have HE := hid (rest_eq n m h1)
  have HE' := hid (rest_eq' n m h1)
  have h0 : 0 ≤ n.tmod m + m := by omega
  go_enter Try.func82, Try.ntmps82
  go_wp2
  go_ret
  exact ⟨ret_int (by first | exact HE.out | exact HE'.out), rfl⟩

end Go.Proofs.Ytehbkmohfipmgaa

/- Quadratic forms: what is one; copies and comparisons of the laws. -/
namespace Go.Proofs.Ytehbkmohfipmgaa
open Go.RowKit

/-- Three numbers of at most 10^12, of at most 10^9. -/
def isQ (a b c : Int) : Bool := rng (-1000000000000) 1000000000000 a && rng (-1000000000000) 1000000000000 b && rng (-1000000000000) 1000000000000 c
theorem isQ_t {a b c : Int} (h : isQ a b c = true) : (-1000000000000 ≤ a ∧ a ≤ 1000000000000) ∧ (-1000000000000 ≤ b ∧ b ≤ 1000000000000) ∧ (-1000000000000 ≤ c ∧ c ≤ 1000000000000) := by
  simp only [isQ, Bool.and_eq_true] at h
  exact ⟨rng_t h.1.1, rng_t h.1.2, rng_t h.2⟩
theorem isQ_mk {a b c : Int} (ha : -1000000000000 ≤ a ∧ a ≤ 1000000000000) (hb : -1000000000000 ≤ b ∧ b ≤ 1000000000000) (hc : -1000000000000 ≤ c ∧ c ≤ 1000000000000) : isQ a b c = true := by
  simp [isQ, rng_mk ha.1 ha.2, rng_mk hb.1 hb.2, rng_mk hc.1 hc.2]
theorem isQ_eq {a b c : Int} {r : Bool} (h : r = true ↔ (-1000000000000 ≤ a ∧ a ≤ 1000000000000) ∧ (-1000000000000 ≤ b ∧ b ≤ 1000000000000) ∧ (-1000000000000 ≤ c ∧ c ≤ 1000000000000)) : r = isQ a b c := by
  rw [Bool.eq_iff_iff, h]
  exact ⟨fun ⟨p, q, r⟩ => isQ_mk p q r, isQ_t⟩
def isN (a b c : Int) : Bool := rng (-1000000000) 1000000000 a && rng (-1000000000) 1000000000 b && rng (-1000000000) 1000000000 c
theorem isN_t {a b c : Int} (h : isN a b c = true) : (-1000000000 ≤ a ∧ a ≤ 1000000000) ∧ (-1000000000 ≤ b ∧ b ≤ 1000000000) ∧ (-1000000000 ≤ c ∧ c ≤ 1000000000) := by
  simp only [isN, Bool.and_eq_true] at h
  exact ⟨rng_t h.1.1, rng_t h.1.2, rng_t h.2⟩
theorem isN_mk {a b c : Int} (ha : -1000000000 ≤ a ∧ a ≤ 1000000000) (hb : -1000000000 ≤ b ∧ b ≤ 1000000000) (hc : -1000000000 ≤ c ∧ c ≤ 1000000000) : isN a b c = true := by
  simp [isN, rng_mk ha.1 ha.2, rng_mk hb.1 hb.2, rng_mk hc.1 hc.2]
theorem isN_eq {a b c : Int} {r : Bool} (h : r = true ↔ (-1000000000 ≤ a ∧ a ≤ 1000000000) ∧ (-1000000000 ≤ b ∧ b ≤ 1000000000) ∧ (-1000000000 ≤ c ∧ c ≤ 1000000000)) : r = isN a b c := by
  rw [Bool.eq_iff_iff, h]
  exact ⟨fun ⟨p, q, r⟩ => isN_mk p q r, isN_t⟩
/-- The code of a quadratic form whose discriminant is asked. -/
def qcd (a b c : Int) : Int := if isQ a b c then (if isN a b c then 0 else 3) else 1
def qif (a b c : Int) : Int := if isQ a b c then 0 else 1
/-- Q Q - 4 P R; P x x + Q x y + R y y; the middle number of a changed quadratic form. -/
def dq (a b c : Int) : Int := mi (mu b b) (mu (mu 4 a) c)
def qv (a b c x y : Int) : Int := pl (pl (mu (mu a x) x) (mu (mu b x) y)) (mu (mu c y) y)
def qm (a b c p q r s : Int) : Int := pl (pl (mu (mu (mu 2 a) p) q) (mu b (pl (mu p s) (mu q r)))) (mu (mu (mu 2 c) r) s)
/-- The code of a quadratic form and a place. -/
def qpc (a b c x y : Int) : Int := if isQ a b c then (if rng (-100) 100 x && rng (-100) 100 y then 0 else 2) else 1
def nr (x y : Int) : Bool := rng (-100) 100 x && rng (-100) 100 y
/-- The code of a changed quadratic form. -/
def cqc (a b c p q r s : Int) : Int := if isQ a b c && isF p q r s then (if isQ (qv a b c p r) (qm a b c p q r s) (qv a b c q s) then 0 else 3) else 1





set_option maxHeartbeats 400000 in
theorem sIsQ0_any (a b c : Int) (w : World) :
    Calls Try.prog 47 #[.agg #[.int .i64 a, .int .i64 b, .int .i64 c]] w fun e w' => e = .returned (.bool (isQ a b c)) ∧ Below w.heap.size w w' := by
  go_enter Try.func47, Try.ntmps47
  go_wp2
  go_rounds 4
  all_goals (go_ret; exact ⟨ret_bool (by apply isQ_eq; go_light; simp at *; try omega), by go_grown⟩)

set_option maxHeartbeats 400000 in
theorem allWithinQ_any (k : Nat) (a b c : Int) (w : World) (hA : Arr3 w k a b c) :
    Calls Try.prog 58 #[.slice (some ⟨k, 0, none⟩) 3 3, .int .i64 1000000000000] w fun e w' => e = .returned (.bool (isQ a b c)) ∧ w = w' := by
  obtain ⟨lt, c0, c1, c2, _⟩ := hA
  go_enter Try.func58, Try.ntmps58
  go_wp2
  go_rounds 4
  all_goals (go_ret; exact ⟨ret_bool (by apply isQ_eq; go_light; simp at *; try omega), rfl⟩)

set_option maxHeartbeats 400000 in
theorem allWithinN_any (k : Nat) (a b c : Int) (w : World) (hA : Arr3 w k a b c) :
    Calls Try.prog 58 #[.slice (some ⟨k, 0, none⟩) 3 3, .int .i64 1000000000] w fun e w' => e = .returned (.bool (isN a b c)) ∧ w = w' := by
  obtain ⟨lt, c0, c1, c2, _⟩ := hA
  go_enter Try.func58, Try.ntmps58
  go_wp2
  go_rounds 4
  all_goals (go_ret; exact ⟨ret_bool (by apply isN_eq; go_light; simp at *; try omega), rfl⟩)

set_option maxHeartbeats 400000 in
theorem iIsQ_any (a b c : Int) (w : World) :
    Calls Try.prog 45 #[.agg #[.int .i64 a, .int .i64 b, .int .i64 c]] w fun e w' => e = .returned (.bool (isQ a b c)) ∧ Below w.heap.size w w' := by
  go_enter Try.func45, Try.ntmps45
  go_wp2_with fail
  refine (allWithinQ_any _ a b c _ (Arr3.new _ _ _ _ _)).mono ?_
  rintro e w1 ⟨rfl, rfl⟩
  go_wp2
  go_ret
  exact ⟨rfl, by (repeat' (first | with_reducible exact Below.refl _ _ | with_reducible assumption | with_reducible refine gr_alloc ?_ _ | with_reducible refine gr_drew ?_ | with_reducible refine gr_drewN ?_ _ | with_reducible refine gr_trans ?_ (by assumption) | with_reducible refine gr_set ?_ ?_ _ | (simp; done) | omega | (simp; omega)))⟩







set_option maxHeartbeats 400000 in
theorem iQv_any (a b c x y : Int) (w : World) :
    Calls Try.prog 91 #[.agg #[.int .i64 a, .int .i64 b, .int .i64 c], .int .i64 x, .int .i64 y] w fun e w' => e = .returned (.int .i64 (qv a b c x y)) ∧ Below w.heap.size w w' := by
  go_enter Try.func91, Try.ntmps91
  go_wp2
  go_ret
  exact ⟨rfl, by (repeat' (first | with_reducible exact Below.refl _ _ | with_reducible assumption | with_reducible refine gr_alloc ?_ _ | with_reducible refine gr_drew ?_ | with_reducible refine gr_drewN ?_ _ | with_reducible refine gr_trans ?_ (by assumption) | with_reducible refine gr_set ?_ ?_ _ | (simp; done) | omega | (simp; omega)))⟩





set_option maxHeartbeats 400000 in
theorem sDq0_any (a b c : Int) (w : World) :
    Calls Try.prog 73 #[.agg #[.int .i64 a, .int .i64 b, .int .i64 c]] w fun e w' => e = .returned (.int .i64 (dq a b c)) ∧ Below w.heap.size w w' := by
  go_enter Try.func73, Try.ntmps73
  go_wp2
  go_ret
  exact ⟨rfl, by (repeat' (first | with_reducible exact Below.refl _ _ | with_reducible assumption | with_reducible refine gr_alloc ?_ _ | with_reducible refine gr_drew ?_ | with_reducible refine gr_drewN ?_ _ | with_reducible refine gr_trans ?_ (by assumption) | with_reducible refine gr_set ?_ ?_ _ | (simp; done) | omega | (simp; omega)))⟩



set_option maxHeartbeats 400000 in
theorem iQd_any (a b c : Int) (w : World) : Calls Try.prog 51 #[.agg #[.int .i64 a, .int .i64 b, .int .i64 c]] w fun e w' => e = .returned (.int .i64 (dq a b c)) ∧ Below w.heap.size w w' := by
  go_enter Try.func51, Try.ntmps51
  go_wp2
  go_ret
  exact ⟨rfl, by (repeat' (first | with_reducible exact Below.refl _ _ | with_reducible assumption | with_reducible refine gr_alloc ?_ _ | with_reducible refine gr_drew ?_ | with_reducible refine gr_drewN ?_ _ | with_reducible refine gr_trans ?_ (by assumption) | with_reducible refine gr_set ?_ ?_ _ | (simp; done) | omega | (simp; omega)))⟩

set_option maxHeartbeats 400000 in
theorem iQDisc_any (a b c : Int) (w : World) :
    Calls Try.prog 20 #[.agg #[.int .i64 a, .int .i64 b, .int .i64 c]] w fun e w' => e = .returned (.tuple #[.int .i64 (if0 (qcd a b c) (dq a b c)), .int .i64 (qcd a b c)]) ∧ Below w.heap.size w w' := by
  go_enter Try.func20, Try.ntmps20
  go_wp2_with fail
  refine (iIsQ_any a b c _).mono ?_
  rintro e w1 ⟨rfl, hb1⟩
  have A1 := (Arr3.new w a b c 25).next hb1
  obtain ⟨_, c0, c1, c2, _⟩ := id A1
  go_wp2_with (first | (go_at_call 58; refine (allWithinN_any _ a b c _ A1).mono ?_; rintro e w2 ⟨rfl, rfl⟩) | (go_at_call 51; refine (iQd_any a b c _).mono ?_; rintro e w3 ⟨rfl, hb3⟩))
  all_goals (go_ret2; exact ⟨ret_tup2 (by go_light; simp_all [qcd, if0]) (by go_light; simp_all [qcd]), by (repeat' (first | with_reducible exact Below.refl _ _ | with_reducible assumption | with_reducible refine gr_alloc ?_ _ | with_reducible refine gr_drew ?_ | with_reducible refine gr_drewN ?_ _ | with_reducible refine gr_trans ?_ (by assumption) | with_reducible refine gr_set ?_ ?_ _ | (simp; done) | omega | (simp; omega)))⟩)



theorem ret_bi2 {a b : Bool} {c d : Int} (h : a = b) (h' : c = d) : Ending.returned (.tuple #[.bool a, .int .i64 c]) = .returned (.tuple #[.bool b, .int .i64 d]) := by rw [h, h']
/-- Is a quadratic form definite? -/
def dfn (a b c : Int) : Bool := decide (if0 (qcd a b c) (dq a b c) < 0)





end Go.Proofs.Ytehbkmohfipmgaa

/- Chapter 1: the contracts of the functions that only look or reckon. -/
namespace Go.Proofs.Ytehbkmohfipmgaa
open Go.RowKit

set_option maxHeartbeats 400000 in
theorem iIsForm_any (a b c d : Int) (w : World) :
    Calls Try.prog 64 #[.agg #[.int .i64 a, .int .i64 b, .int .i64 c, .int .i64 d]] w fun e w' => e = .returned (.bool (isF a b c d)) ∧ Below w.heap.size w w' := by
  go_enter Try.func64, Try.ntmps64
  go_wp2_with fail
  refine (allWithin_any _ a b c d _ (Arr.new _ _ _ _ _ _)).mono ?_
  rintro e w1 ⟨rfl, rfl⟩
  go_wp2
  go_ret
  exact ⟨rfl, by go_grown⟩





end Go.Proofs.Ytehbkmohfipmgaa

/- Chapter 1: values, slopes, discriminants, determinants, products, reversed forms. -/
namespace Go.Proofs.Ytehbkmohfipmgaa
open Go.RowKit


















end Go.Proofs.Ytehbkmohfipmgaa
