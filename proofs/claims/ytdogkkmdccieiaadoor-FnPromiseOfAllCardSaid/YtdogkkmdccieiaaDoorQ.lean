/- Quadratic forms: what is one; copies and comparisons of the laws. -/
import Derived.Test.YtdogkkmdccieiaaDoorC1
import Derived.Test.YtdogkkmdccieiaaDoorZ2
namespace Go.Proofs.YtdogkkmdccieiaaDoor
open Go.RowKit

/-- Three numbers of at most 10^12, of at most 10^9. -/
def isQ (a b c : Int) : Bool := rng (-1000000000000) 1000000000000 a && rng (-1000000000000) 1000000000000 b && rng (-1000000000000) 1000000000000 c
theorem isQ_t {a b c : Int} (h : isQ a b c = true) : (-1000000000000 ≤ a ∧ a ≤ 1000000000000) ∧ (-1000000000000 ≤ b ∧ b ≤ 1000000000000) ∧ (-1000000000000 ≤ c ∧ c ≤ 1000000000000) := by
  simp only [isQ, Bool.and_eq_true] at h
  exact ⟨rng_t h.1.1, rng_t h.1.2, rng_t h.2⟩
theorem isQ_mk {a b c : Int} (ha : -1000000000000 ≤ a ∧ a ≤ 1000000000000) (hb : -1000000000000 ≤ b ∧ b ≤ 1000000000000) (hc : -1000000000000 ≤ c ∧ c ≤ 1000000000000) : isQ a b c = true := by
  simp [isQ, rng_mk ha.1 ha.2, rng_mk hb.1 hb.2, rng_mk hc.1 hc.2]
theorem isQ_eq {a b c : Int} {r : Bool} (h : r = true ↔ (-1000000000000 ≤ a ∧ a ≤ 1000000000000) ∧ (-1000000000000 ≤ b ∧ b ≤ 1000000000000) ∧ (-1000000000000 ≤ c ∧ c ≤ 1000000000000)) : r = isQ a b c := by
  rw [Bool.eq_iff_iff, h]
  exact ⟨fun ⟨p, q, r⟩ => isQ_mk p q r, isQ_t⟩
def isN (a b c : Int) : Bool := rng (-1000000000) 1000000000 a && rng (-1000000000) 1000000000 b && rng (-1000000000) 1000000000 c
theorem isN_t {a b c : Int} (h : isN a b c = true) : (-1000000000 ≤ a ∧ a ≤ 1000000000) ∧ (-1000000000 ≤ b ∧ b ≤ 1000000000) ∧ (-1000000000 ≤ c ∧ c ≤ 1000000000) := by
  simp only [isN, Bool.and_eq_true] at h
  exact ⟨rng_t h.1.1, rng_t h.1.2, rng_t h.2⟩
theorem isN_mk {a b c : Int} (ha : -1000000000 ≤ a ∧ a ≤ 1000000000) (hb : -1000000000 ≤ b ∧ b ≤ 1000000000) (hc : -1000000000 ≤ c ∧ c ≤ 1000000000) : isN a b c = true := by
  simp [isN, rng_mk ha.1 ha.2, rng_mk hb.1 hb.2, rng_mk hc.1 hc.2]
theorem isN_eq {a b c : Int} {r : Bool} (h : r = true ↔ (-1000000000 ≤ a ∧ a ≤ 1000000000) ∧ (-1000000000 ≤ b ∧ b ≤ 1000000000) ∧ (-1000000000 ≤ c ∧ c ≤ 1000000000)) : r = isN a b c := by
  rw [Bool.eq_iff_iff, h]
  exact ⟨fun ⟨p, q, r⟩ => isN_mk p q r, isN_t⟩
/-- The code of a quadratic form whose discriminant is asked. -/
def qcd (a b c : Int) : Int := if isQ a b c then (if isN a b c then 0 else 3) else 1
def qif (a b c : Int) : Int := if isQ a b c then 0 else 1
/-- Q Q - 4 P R; P x x + Q x y + R y y; the middle number of a changed quadratic form. -/
def dq (a b c : Int) : Int := mi (mu b b) (mu (mu 4 a) c)
def qv (a b c x y : Int) : Int := pl (pl (mu (mu a x) x) (mu (mu b x) y)) (mu (mu c y) y)
def qm (a b c p q r s : Int) : Int := pl (pl (mu (mu (mu 2 a) p) q) (mu b (pl (mu p s) (mu q r)))) (mu (mu (mu 2 c) r) s)
/-- The code of a quadratic form and a place. -/
def qpc (a b c x y : Int) : Int := if isQ a b c then (if rng (-100) 100 x && rng (-100) 100 y then 0 else 2) else 1
def nr (x y : Int) : Bool := rng (-100) 100 x && rng (-100) 100 y
/-- The code of a changed quadratic form. -/
def cqc (a b c p q r s : Int) : Int := if isQ a b c && isF p q r s then (if isQ (qv a b c p r) (qm a b c p q r s) (qv a b c q s) then 0 else 3) else 1







set_option maxHeartbeats 400000 in
theorem allWithinQ_any (k : Nat) (a b c : Int) (w : World) (hA : Arr3 w k a b c) :
    Calls Tryd.prog 90 #[.slice (some ⟨k, 0, none⟩) 3 3, .int .i64 1000000000000] w fun e w' => e = .returned (.bool (isQ a b c)) ∧ w = w' := by
  obtain ⟨lt, c0, c1, c2, _⟩ := hA
  go_enter Tryd.func90, Tryd.ntmps90
  go_wp2
  go_rounds 4
  all_goals (go_ret; exact ⟨ret_bool (by apply isQ_eq; go_light; simp at *; try omega), rfl⟩)

set_option maxHeartbeats 400000 in
theorem allWithinN_any (k : Nat) (a b c : Int) (w : World) (hA : Arr3 w k a b c) :
    Calls Tryd.prog 90 #[.slice (some ⟨k, 0, none⟩) 3 3, .int .i64 1000000000] w fun e w' => e = .returned (.bool (isN a b c)) ∧ w = w' := by
  obtain ⟨lt, c0, c1, c2, _⟩ := hA
  go_enter Tryd.func90, Tryd.ntmps90
  go_wp2
  go_rounds 4
  all_goals (go_ret; exact ⟨ret_bool (by apply isN_eq; go_light; simp at *; try omega), rfl⟩)

set_option maxHeartbeats 400000 in
theorem iIsQ_any (a b c : Int) (w : World) :
    Calls Tryd.prog 83 #[.agg #[.int .i64 a, .int .i64 b, .int .i64 c]] w fun e w' => e = .returned (.bool (isQ a b c)) ∧ Below w.heap.size w w' := by
  go_enter Tryd.func83, Tryd.ntmps83
  go_wp2_with fail
  refine (allWithinQ_any _ a b c _ (Arr3.new _ _ _ _ _)).mono ?_
  rintro e w1 ⟨rfl, rfl⟩
  go_wp2
  go_ret
  exact ⟨rfl, by (repeat' (first | with_reducible exact Below.refl _ _ | with_reducible assumption | with_reducible refine gr_alloc ?_ _ | with_reducible refine gr_drew ?_ | with_reducible refine gr_drewN ?_ _ | with_reducible refine gr_trans ?_ (by assumption) | with_reducible refine gr_set ?_ ?_ _ | (simp; done) | omega | (simp; omega)))⟩







set_option maxHeartbeats 400000 in
theorem iQv_any (a b c x y : Int) (w : World) :
    Calls Tryd.prog 108 #[.agg #[.int .i64 a, .int .i64 b, .int .i64 c], .int .i64 x, .int .i64 y] w fun e w' => e = .returned (.int .i64 (qv a b c x y)) ∧ Below w.heap.size w w' := by
  go_enter Tryd.func108, Tryd.ntmps108
  go_wp2
  go_ret
  exact ⟨rfl, by (repeat' (first | with_reducible exact Below.refl _ _ | with_reducible assumption | with_reducible refine gr_alloc ?_ _ | with_reducible refine gr_drew ?_ | with_reducible refine gr_drewN ?_ _ | with_reducible refine gr_trans ?_ (by assumption) | with_reducible refine gr_set ?_ ?_ _ | (simp; done) | omega | (simp; omega)))⟩















theorem ret_bi2 {a b : Bool} {c d : Int} (h : a = b) (h' : c = d) : Ending.returned (.tuple #[.bool a, .int .i64 c]) = .returned (.tuple #[.bool b, .int .i64 d]) := by rw [h, h']
/-- Is a quadratic form definite? -/
def dfn (a b c : Int) : Bool := decide (if0 (qcd a b c) (dq a b c) < 0)





end Go.Proofs.YtdogkkmdccieiaaDoor
