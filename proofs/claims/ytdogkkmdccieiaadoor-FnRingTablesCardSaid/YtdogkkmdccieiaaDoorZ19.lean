/- Several texts in one: XEqE, XE16. -/
import Derived.Test.YtdogkkmdccieiaaDoorZ1
import Derived.Test.YtdogkkmdccieiaaDoorZ4
import Derived.Test.YtdogkkmdccieiaaDoorZ5
import Derived.Deep.RegionHeld3
import Derived.Deep.DeepCutAuto

/- '==' between two elements. -/
namespace Go.Proofs.YtdogkkmdccieiaaDoor
open Go.RowKit

def eq3 (a b c p q r : Int) : Bool := a == p && b == q && c == r
theorem eqElem_run (a b c p q r : Int) (w : World) : (Op.equalIn 10000 27 (.agg #[.int .i64 a, .int .i64 b, .int .i64 c]) (.agg #[.int .i64 p, .int .i64 q, .int .i64 r])).run Tryd.prog w = .ok (eq3 a b c p q r) w := by
  have u := Tryd.underlying2
  have ia := Tryd.isAgg2
  have z := Tryd.sizeOf2
  rw [show (10000 : Nat) = 9999 + 1 from rfl, Op.equalIn]
  simp only [Sem.run_bind, run_underlying Tryd.underlying27, Result.andThen_ok]
  simp only [Std.Legacy.Range.forIn_eq_forIn_range', Std.Legacy.Range.size, Nat.sub_zero, Nat.add_sub_cancel, Nat.div_one, List.range'_succ, List.range'_zero, List.forIn_cons, List.forIn_nil]
  go_simp
  unfold eq3
  by_cases h1 : a = p <;> by_cases h2 : b = q <;> by_cases h3 : c = r <;> simp [h1, h2, h3]

end Go.Proofs.YtdogkkmdccieiaaDoor

/- Chapter 4: right tables. -/
namespace Go.Proofs.YtdogkkmdccieiaaDoor
open Go.RowKit

/-- (k k) l = k (k l); (k l) l = k (l l). -/
def rg1 (p0 p1 p2 p3 p4 p5 p6 p7 p8 : Int) : Bool := eq3 (m0 p0 p3 p6 p0 p1 p2 0 0 1) (m1 p1 p4 p7 p0 p1 p2 0 0 1) (m2 p2 p5 p8 p0 p1 p2 0 0 1) (m0 p0 p3 p6 0 1 0 p3 p4 p5) (m1 p1 p4 p7 0 1 0 p3 p4 p5) (m2 p2 p5 p8 0 1 0 p3 p4 p5)
def rg2 (p0 p1 p2 p3 p4 p5 p6 p7 p8 : Int) : Bool := eq3 (m0 p0 p3 p6 p3 p4 p5 0 0 1) (m1 p1 p4 p7 p3 p4 p5 0 0 1) (m2 p2 p5 p8 p3 p4 p5 0 0 1) (m0 p0 p3 p6 0 1 0 p6 p7 p8) (m1 p1 p4 p7 0 1 0 p6 p7 p8) (m2 p2 p5 p8 0 1 0 p6 p7 p8)
theorem cells933 {W : World} {i j l : Nat} {p0 p1 p2 p3 p4 p5 p6 p7 p8 a b c d e f : Int} (K : Arr9 W i p0 p1 p2 p3 p4 p5 p6 p7 p8) (L : Arr3 W j a b c) (N : Arr3 W l d e f) :
    W.cell? ⟨i, 0, none⟩ = some (.int .i64 p0) ∧ W.cell? ⟨i, 1, none⟩ = some (.int .i64 p1) ∧ W.cell? ⟨i, 2, none⟩ = some (.int .i64 p2) ∧ W.cell? ⟨i, 3, none⟩ = some (.int .i64 p3) ∧ W.cell? ⟨i, 4, none⟩ = some (.int .i64 p4) ∧ W.cell? ⟨i, 5, none⟩ = some (.int .i64 p5) ∧ W.cell? ⟨i, 6, none⟩ = some (.int .i64 p6) ∧ W.cell? ⟨i, 7, none⟩ = some (.int .i64 p7) ∧ W.cell? ⟨i, 8, none⟩ = some (.int .i64 p8) ∧ W.cell? ⟨j, 0, none⟩ = some (.int .i64 a) ∧ W.cell? ⟨j, 1, none⟩ = some (.int .i64 b) ∧ W.cell? ⟨j, 2, none⟩ = some (.int .i64 c) ∧ W.cell? ⟨l, 0, none⟩ = some (.int .i64 d) ∧ W.cell? ⟨l, 1, none⟩ = some (.int .i64 e) ∧ W.cell? ⟨l, 2, none⟩ = some (.int .i64 f) :=
  ⟨K.c0, K.c1, K.c2, K.c3, K.c4, K.c5, K.c6, K.c7, K.c8, L.c0, L.c1, L.c2, N.c0, N.c1, N.c2⟩


end Go.Proofs.YtdogkkmdccieiaaDoor
