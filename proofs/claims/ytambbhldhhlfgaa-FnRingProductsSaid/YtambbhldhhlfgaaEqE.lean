/- '==' between two elements. -/
import Derived.Test.YtambbhldhhlfgaaZ1
namespace Go.Proofs.Ytambbhldhhlfgaa
open Go.RowKit

def eq3 (a b c p q r : Int) : Bool := a == p && b == q && c == r
theorem eqElem_run (a b c p q r : Int) (w : World) : (Op.equalIn 10000 27 (.agg #[.int .i64 a, .int .i64 b, .int .i64 c]) (.agg #[.int .i64 p, .int .i64 q, .int .i64 r])).run Try.prog w = .ok (eq3 a b c p q r) w := by
  have u := Try.underlying2
  have ia := Try.isAgg2
  have z := Try.sizeOf2
  rw [show (10000 : Nat) = 9999 + 1 from rfl, Op.equalIn]
  simp only [Sem.run_bind, run_underlying Try.underlying27, Result.andThen_ok]
  simp only [Std.Legacy.Range.forIn_eq_forIn_range', Std.Legacy.Range.size, Nat.sub_zero, Nat.add_sub_cancel, Nat.div_one, List.range'_succ, List.range'_zero, List.forIn_cons, List.forIn_nil]
  go_simp
  unfold eq3
  by_cases h1 : a = p <;> by_cases h2 : b = q <;> by_cases h3 : c = r <;> simp [h1, h2, h3]

end Go.Proofs.Ytambbhldhhlfgaa
