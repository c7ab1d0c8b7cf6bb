/- Several texts in one: XMul, XPd, XDo. -/
import Derived.Test.YtdogkkmdccieiaaDoorZ1
import Derived.Test.YtdogkkmdccieiaaDoorZ14
import Derived.Test.YtdogkkmdccieiaaDoorZ11
import Derived.Test.YtdogkkmdccieiaaDoorZ4
import Derived.Tactics
import Derived.Tactics2
import Derived.Defers
import Derived.Recover
import Derived.Laws.Pointers

/- Multiples. -/
namespace Go.Proofs.YtdogkkmdccieiaaDoor
open Go.RowKit

/-- Is n a multiple of m? (0 has the multiple 0 alone.) -/
def mul0 (n m : Int) : Bool := if m = 0 then decide (n = 0) else decide (n.tmod m = 0)
theorem mul0_p {n m : Int} (h : 2 ≤ m) : mul0 n m = decide (n.tmod m = 0) := by unfold mul0; rw [if_neg (by omega)]
theorem beq_dec (a b : Int) : (a == b) = decide (a = b) := by rw [Bool.eq_iff_iff]; simp
theorem tmod_6 (n m : Int) (h1 : 1 ≤ m) (h : m ≤ 1000000000000000) : -1000000000000000 ≤ n.tmod m ∧ n.tmod m ≤ 1000000000000000 := by
  have := Int.natAbs_tmod n m
  have hb : n.natAbs % m.natAbs < m.natAbs := Nat.mod_lt _ (by omega)
  omega

set_option maxHeartbeats 400000 in
theorem isMultiple_any (n m : Int) (w : World) (h0 : 0 ≤ m) (h97 : m ≤ 1000000000000000) : Calls Tryd.prog 121 #[.int .i64 n, .int .i64 m] w fun e w' => e = .returned (.bool (mul0 n m)) ∧ w = w' := by
  by_cases hm : m = 0
  · have hm' : (m == 0) = true := by simpa using hm
    have H := hid hm
    clear hm
    go_enter Tryd.func121, Tryd.ntmps121
    go_wp2
    go_ret
    exact ⟨ret_bool (by simp [mul0, H.out, beq_dec]), rfl⟩
  · obtain ⟨hb1, hb2⟩ := tmod_6 n m (by omega) h97
    have hm1 : 1 ≤ m := by omega
    have hm' : (m == 0) = false := by simpa using hm
    have H := hid hm
    clear hm
    go_enter Tryd.func121, Tryd.ntmps121
    go_wp2
    go_ret
    exact ⟨ret_bool (by simp [mul0, H.out, beq_dec]), rfl⟩

theorem tmod_in (n m : Int) (h : 1 ≤ m) : -m < n.tmod m ∧ n.tmod m < m := by
  have := Int.natAbs_tmod n m
  have hb : n.natAbs % m.natAbs < m.natAbs := Nat.mod_lt _ (by omega)
  omega
theorem rest_eq (n m : Int) (h : 1 ≤ m) : (n.tmod m + m) % m = n % m := by
  rw [Int.add_emod_right, Int.tmod_eq_emod]
  split
  · simp
  · have e : n % m - ↑m.natAbs = n % m - m := by omega
    rw [e, Int.sub_emod_right, Int.emod_emod]
theorem rest_eq' (n m : Int) (h : 1 ≤ m) : (n.tmod m + m).tmod m = n % m := by
  rw [Int.tmod_eq_emod_of_nonneg (by have := tmod_in n m h; omega)]
  exact rest_eq n m h
theorem mul0_e {n m : Int} (h : 1 ≤ m) : mul0 n m = decide (n % m = 0) := by
  unfold mul0; rw [if_neg (by omega), Bool.eq_iff_iff]
  simp only [decide_eq_true_eq]
  exact ⟨fun e => Int.emod_eq_zero_of_dvd (Int.dvd_of_tmod_eq_zero e), fun e => Int.tmod_eq_zero_of_dvd (Int.dvd_of_emod_eq_zero e)⟩



end Go.Proofs.YtdogkkmdccieiaaDoor

/- Chapter 5: a form and a prime; multiples; ramified primes. -/
namespace Go.Proofs.YtdogkkmdccieiaaDoor
open Go.RowKit

theorem tmod_97 (n m : Int) (h1 : 1 ≤ m) (h : m ≤ 97) : -97 ≤ n.tmod m ∧ n.tmod m ≤ 97 := by
  have := Int.natAbs_tmod n m
  have hb : n.natAbs % m.natAbs < m.natAbs := Nat.mod_lt _ (by omega)
  omega

theorem tmod_499 (n m : Int) (h1 : 1 ≤ m) (h : m ≤ 499) : -499 ≤ n.tmod m ∧ n.tmod m ≤ 499 := by
  have := Int.natAbs_tmod n m
  have hb : n.natAbs % m.natAbs < m.natAbs := Nat.mod_lt _ (by omega)
  omega

set_option maxHeartbeats 400000 in
theorem iCheckFP_any (a b c d p : Int) (w : World) : Calls Tryd.prog 87 #[.agg #[.int .i64 a, .int .i64 b, .int .i64 c, .int .i64 d], .int .i64 p] w fun e w' => e = .returned (.int .i64 (fpc a b c d p)) ∧ Below w.heap.size w w' := by
  go_enter Tryd.func87, Tryd.ntmps87
  go_wp2_with fail
  refine (iIsForm_any a b c d _).mono ?_
  rintro e w1 ⟨rfl, hb1⟩
  cases hF : isF a b c d with
  | false =>
    go_wp2_with fail
    go_ret
    exact ⟨ret_int (by simp [fpc, hF]), by (repeat' (first | with_reducible exact Below.refl _ _ | with_reducible assumption | with_reducible refine gr_alloc ?_ _ | with_reducible refine gr_drew ?_ | with_reducible refine gr_drewN ?_ _ | with_reducible refine gr_trans ?_ (by assumption) | with_reducible refine gr_set ?_ ?_ _ | (simp; done) | omega | (simp; omega)))⟩
  | true =>
    cases hp : prm p with
    | false =>
      go_wp2_with (go_at_call 110; refine (isPrime_any _ _).mono ?_; rintro e w' ⟨rfl, rfl⟩)
      go_ret
      exact ⟨ret_int (by simp [fpc, hF, hp]), by (repeat' (first | with_reducible exact Below.refl _ _ | with_reducible assumption | with_reducible refine gr_alloc ?_ _ | with_reducible refine gr_drew ?_ | with_reducible refine gr_drewN ?_ _ | with_reducible refine gr_trans ?_ (by assumption) | with_reducible refine gr_set ?_ ?_ _ | (simp; done) | omega | (simp; omega)))⟩
    | true =>
      go_wp2_with (go_at_call 110; refine (isPrime_any _ _).mono ?_; rintro e w' ⟨rfl, rfl⟩)
      go_ret
      exact ⟨ret_int (by simp [fpc, hF, hp]), by (repeat' (first | with_reducible exact Below.refl _ _ | with_reducible assumption | with_reducible refine gr_alloc ?_ _ | with_reducible refine gr_drew ?_ | with_reducible refine gr_drewN ?_ _ | with_reducible refine gr_trans ?_ (by assumption) | with_reducible refine gr_set ?_ ?_ _ | (simp; done) | omega | (simp; omega)))⟩



/-- Is p ramified? -/
def rmf (a b c d p : Int) : Bool := decide (fpc a b c d p = 0) && decide ((dsc a b c d).tmod p = 0)
theorem rmf_0 {a b c d p : Int} (h : isF a b c d = true) (hp : prm p = true) : rmf a b c d p = decide ((dsc a b c d).tmod p = 0) := by simp [rmf, fpc, h, hp]
theorem rmf_n {a b c d p : Int} (h : fpc a b c d p ≠ 0) : rmf a b c d p = false := by simp [rmf, h]






end Go.Proofs.YtdogkkmdccieiaaDoor

/- The door: functions that panic with an error. -/
namespace Go.Proofs.YtdogkkmdccieiaaDoor
open Go.RowKit

theorem ta_nil (w : World) : (Instr.typeAssert .nilIface 20 69 true).run Tryd.prog w = .ok (.tuple #[.nilIface, .bool false]) w := by kernel_rfl
theorem ta_err (pv : Value) (w : World) : (Instr.typeAssert (.iface 154 pv) 20 69 true).run Tryd.prog w = .ok (.tuple #[.iface 154 pv, .bool true]) w := by kernel_rfl

set_option maxRecDepth 100000 in
set_option maxHeartbeats 1000000 in
theorem catchR_idle (p : Addr) (w : World) :
    CallsD Tryd.prog 120 #[.pointer (some p)] .returning w fun e u' w' => e = .returned (.tuple #[]) ∧ u' = .returning ∧ w' = w := by
  have ha := ta_nil
  refine callsD_of_wpS Tryd.func120 rfl fun c₀ cs hu => ?_
  apply wpS_seq
  apply wpS_region
  simp [wpOpsS, go_sem, recoverD, hu, Tryd.ntmps120, Exit.thenS, ha]
  apply wpS_seq
  apply wpS_region
  simp [wpOpsS, go_sem, Exit.thenS]
  refine wpS_cond (t := false) (by simp [Act.eval]) ?_
  simp only [Bool.false_eq_true, if_false]
  refine wpS_of_wp (wp_skip ?_)
  cases c₀
  simp_all [bodyPostS, results, Tryd.results120]

set_option maxRecDepth 100000 in
set_option maxHeartbeats 1000000 in
theorem catchR_panic (p : Addr) (x pv : Value) (older : List PanicEntry) (w : World) (hc : w.cell? p = some x) (hz : w.frozen? p = false) :
    CallsD Tryd.prog 120 #[.pointer (some p)] (.panicking ({ v := .iface 154 pv, recovered := false } :: older)) w fun e u' w' =>
      e = .returned (.tuple #[]) ∧ u' = .panicking ({ v := .iface 154 pv, recovered := true } :: older) ∧ w' = w.setCell p (.iface 154 pv) := by
  have ha := ta_err pv
  refine callsD_of_wpS Tryd.func120 rfl fun c₀ cs hu => ?_
  apply wpS_seq
  apply wpS_region
  simp [wpOpsS, go_sem, recoverD, hu, Tryd.ntmps120, Exit.thenS, ha]
  apply wpS_seq
  apply wpS_region
  simp [wpOpsS, go_sem, Exit.thenS]
  refine wpS_cond (t := true) (by simp [Act.eval]) ?_
  simp only [if_true]
  apply wpS_region
  simp [wpOpsS, go_sem, hc, hz, bodyPostS, results, Tryd.results120]





set_option maxRecDepth 100000 in
set_option maxHeartbeats 1000000 in
theorem catchE_idle (p : Addr) (w : World) :
    CallsD Tryd.prog 93 #[.pointer (some p)] .returning w fun e u' w' => e = .returned (.tuple #[]) ∧ u' = .returning ∧ w' = w := by
  have ha := ta_nil
  refine callsD_of_wpS Tryd.func93 rfl fun c₀ cs hu => ?_
  apply wpS_seq
  apply wpS_region
  simp [wpOpsS, go_sem, recoverD, hu, Tryd.ntmps93, Exit.thenS, ha]
  apply wpS_seq
  apply wpS_region
  simp [wpOpsS, go_sem, Exit.thenS]
  refine wpS_cond (t := false) (by simp [Act.eval]) ?_
  simp only [Bool.false_eq_true, if_false]
  refine wpS_of_wp (wp_skip ?_)
  cases c₀
  simp_all [bodyPostS, results, Tryd.results93]

set_option maxRecDepth 100000 in
set_option maxHeartbeats 1000000 in
theorem catchE_panic (p : Addr) (x pv : Value) (older : List PanicEntry) (w : World) (hc : w.cell? p = some x) (hz : w.frozen? p = false) :
    CallsD Tryd.prog 93 #[.pointer (some p)] (.panicking ({ v := .iface 154 pv, recovered := false } :: older)) w fun e u' w' =>
      e = .returned (.tuple #[]) ∧ u' = .panicking ({ v := .iface 154 pv, recovered := true } :: older) ∧ w' = w.setCell p (.iface 154 pv) := by
  have ha := ta_err pv
  refine callsD_of_wpS Tryd.func93 rfl fun c₀ cs hu => ?_
  apply wpS_seq
  apply wpS_region
  simp [wpOpsS, go_sem, recoverD, hu, Tryd.ntmps93, Exit.thenS, ha]
  apply wpS_seq
  apply wpS_region
  simp [wpOpsS, go_sem, Exit.thenS]
  refine wpS_cond (t := true) (by simp [Act.eval]) ?_
  simp only [if_true]
  apply wpS_region
  simp [wpOpsS, go_sem, hc, hz, bodyPostS, results, Tryd.results93]


end Go.Proofs.YtdogkkmdccieiaaDoor
