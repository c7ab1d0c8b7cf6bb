/- Chapter 10: quadratic forms compared. -/
import Derived.Test.YtehbkmohfipmgaaBtZ1
import Derived.Laws.StructEq
namespace Go.Proofs.Ytehbkmohfipmgaa
open Go.RowKit

def qeq (a b c x y z : Int) : Bool := (a == x) && ((b == y) && (c == z))
theorem eqq_part (i : Nat) (xs : Array Value) (v : Value) (w : World) (h : xs[i]? = some v) : (part 2 xs (i * 1)).run Try.prog w = .ok v w := by
  simp [part, sizeOf, h, go_sem]
set_option maxRecDepth 100000 in
set_option maxHeartbeats 1000000 in
theorem eqq_in (dd : Nat) (a b c x y z : Int) (w : World) : (Op.equalIn (dd + 2) 25 (.agg #[.int .i64 a, .int .i64 b, .int .i64 c]) (.agg #[.int .i64 x, .int .i64 y, .int .i64 z])).run Try.prog w = .ok (qeq a b c x y z) w := by
  have hi : Try.prog.underlying 2 = some (.int .i64) := by kernel_rfl
  have hz : ∀ w, (sizeOf 2).run Try.prog w = .ok 1 w := fun w => by simp [sizeOf, go_sem]; rfl
  rw [Op.equalIn]
  have q0 := fun (u v : Int) (w : World) => run_equalIn_int (P := Try.prog) w dd 2 .i64 .i64 u v hi
  have hr : (List.range' 0 3 1) = [0, 1, 2] := rfl
  cases ha : (a == x) <;> cases hb : (b == y) <;> cases hc : (c == z) <;> simp [qeq, Sem.run_bind, run_underlying Try.underlying25, Result.andThen_ok, hz, Std.Legacy.Range.forIn_eq_forIn_range', Std.Legacy.Range.size, Nat.sub_zero, Nat.div_one, hr, List.forIn_cons, List.forIn_nil, Sem.run_ite, Sem.run_pure, eqq_part 0 #[.int .i64 a, .int .i64 b, .int .i64 c] (.int .i64 a) _ rfl, eqq_part 1 #[.int .i64 a, .int .i64 b, .int .i64 c] (.int .i64 b) _ rfl, eqq_part 2 #[.int .i64 a, .int .i64 b, .int .i64 c] (.int .i64 c) _ rfl, eqq_part 0 #[.int .i64 x, .int .i64 y, .int .i64 z] (.int .i64 x) _ rfl, eqq_part 1 #[.int .i64 x, .int .i64 y, .int .i64 z] (.int .i64 y) _ rfl, eqq_part 2 #[.int .i64 x, .int .i64 y, .int .i64 z] (.int .i64 z) _ rfl, q0, ha, hb, hc]
theorem eqq_run (a b c x y z : Int) (w : World) : (binOp .eql 25 (.agg #[.int .i64 a, .int .i64 b, .int .i64 c]) (.agg #[.int .i64 x, .int .i64 y, .int .i64 z])).run Try.prog w = .ok (.bool (qeq a b c x y z)) w := by
  rw [run_eql_struct]
  show ((Op.equalIn (9998 + 2) _ _ _).run _ _).andThen _ = _
  rw [eqq_in]
  rfl
theorem neq_run (a b c x y z : Int) (w : World) : (binOp .neq 25 (.agg #[.int .i64 a, .int .i64 b, .int .i64 c]) (.agg #[.int .i64 x, .int .i64 y, .int .i64 z])).run Try.prog w = .ok (.bool (!(qeq a b c x y z))) w := by
  rw [run_neq_struct]
  show ((Op.equalIn (9998 + 2) _ _ _).run _ _).andThen _ = _
  rw [eqq_in]
  rfl

end Go.Proofs.Ytehbkmohfipmgaa
