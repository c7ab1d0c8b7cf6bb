/- Chapter 5: RationalRoots, the model's. -/
import Derived.Test.YtmhlolimaeejfaaDoorGu
import Derived.Laws.StructEq
namespace Go.Proofs.YtmhlolimaeejfaaDoor
open Go.RowKit

theorem eq_part (i : Nat) (xs : Array Value) (v : Value) (w : World) (h : xs[i]? = some v) : (part 2 xs (i * 1)).run Tryd.prog w = .ok v w := by
  simp [part, sizeOf, h, go_sem]
set_option maxRecDepth 100000 in
set_option maxHeartbeats 1000000 in
theorem eq_in (dd : Nat) (a b c d : Int) (w : World) : (Op.equalIn (dd + 2) 26 (.agg #[.int .i64 a, .int .i64 b, .int .i64 c, .int .i64 d]) (.agg #[.int .i64 0, .int .i64 0, .int .i64 0, .int .i64 0])).run Tryd.prog w = .ok ((a == 0) && ((b == 0) && ((c == 0) && (d == 0)))) w := by
  have hi : Tryd.prog.underlying 2 = some (.int .i64) := by kernel_rfl
  have hz : ∀ w, (sizeOf 2).run Tryd.prog w = .ok 1 w := fun w => by simp [sizeOf, go_sem]; rfl
  rw [Op.equalIn]
  have q0 := fun (u : Int) (w : World) => run_equalIn_int (P := Tryd.prog) w dd 2 .i64 .i64 u 0 hi
  have hr : (List.range' 0 4 1) = [0, 1, 2, 3] := rfl
  cases ha : (a == 0) <;> cases hb : (b == 0) <;> cases hc : (c == 0) <;> cases hd : (d == 0) <;> simp [Sem.run_bind, run_underlying Tryd.underlying26, Result.andThen_ok, hz, Std.Legacy.Range.forIn_eq_forIn_range', Std.Legacy.Range.size, Nat.sub_zero, Nat.div_one, hr, List.forIn_cons, List.forIn_nil, Sem.run_ite, Sem.run_pure, eq_part 0 #[.int .i64 a, .int .i64 b, .int .i64 c, .int .i64 d] (.int .i64 a) _ rfl, eq_part 1 #[.int .i64 a, .int .i64 b, .int .i64 c, .int .i64 d] (.int .i64 b) _ rfl, eq_part 2 #[.int .i64 a, .int .i64 b, .int .i64 c, .int .i64 d] (.int .i64 c) _ rfl, eq_part 3 #[.int .i64 a, .int .i64 b, .int .i64 c, .int .i64 d] (.int .i64 d) _ rfl, eq_part 0 #[.int .i64 0, .int .i64 0, .int .i64 0, .int .i64 0] (.int .i64 0) _ rfl, eq_part 1 #[.int .i64 0, .int .i64 0, .int .i64 0, .int .i64 0] (.int .i64 0) _ rfl, eq_part 2 #[.int .i64 0, .int .i64 0, .int .i64 0, .int .i64 0] (.int .i64 0) _ rfl, eq_part 3 #[.int .i64 0, .int .i64 0, .int .i64 0, .int .i64 0] (.int .i64 0) _ rfl, q0, ha, hb, hc, hd]
theorem eq_zero (a b c d : Int) (w : World) : (binOp .eql 26 (.agg #[.int .i64 a, .int .i64 b, .int .i64 c, .int .i64 d]) (.agg #[.int .i64 0, .int .i64 0, .int .i64 0, .int .i64 0])).run Tryd.prog w = .ok (.bool ((a == 0) && ((b == 0) && ((c == 0) && (d == 0))))) w := by
  rw [run_eql_struct]
  show ((Op.equalIn (9998 + 2) _ _ _).run _ _).andThen _ = _
  rw [eq_in]
  rfl
theorem cnt_zero (a b c d : Int) : mul0 (cnt a b c d) 0 = ((a == 0) && ((b == 0) && ((c == 0) && (d == 0)))) := by
  by_cases ha : a = 0 <;> by_cases hb : b = 0 <;> by_cases hc : c = 0 <;> by_cases hd : d = 0 <;> simp [mul0, cnt, ha, hb, hc, hd, Int.gcd_eq_zero_iff]

theorem rrt_le (a b c d : Int) : (if rrc a b c d = 0 then (rrt a b c d).map rw2 else []).length ≤ 10000000 := by
  split
  · rename_i h
    cases hF : isF a b c d with
    | true =>
      obtain ⟨ha, hb, hc, hd⟩ := isF_t hF
      have := rrt_len ha hb hc hd
      rw [List.length_map]; omega
    | false => rw [rrc_n hF] at h; exact absurd h (by decide)
  · exact Nat.zero_le _




end Go.Proofs.YtmhlolimaeejfaaDoor
