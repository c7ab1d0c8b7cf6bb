/- Chapter 4: right tables, both sides. -/
import Derived.Test.YtdogkkmdccieiaaDoorZ20
import Derived.Test.YtdogkkmdccieiaaDoorZ21
namespace Go.Proofs.YtdogkkmdccieiaaDoor
open Go.RowKit

theorem sRight_any (k cap : Nat) (p0 p1 p2 p3 p4 p5 p6 p7 p8 : Int) (w : World) (hP : Arr9 w k p0 p1 p2 p3 p4 p5 p6 p7 p8) :
    Calls Tryd.prog 70 #[.slice (some ⟨k, 0, none⟩) 3 cap] w fun e w' => e = .returned (.bool (rg1 p0 p1 p2 p3 p4 p5 p6 p7 p8 && rg2 p0 p1 p2 p3 p4 p5 p6 p7 p8)) ∧ Below w.heap.size w w' := by
  cases h : rg1 p0 p1 p2 p3 p4 p5 p6 p7 p8 with
  | false => have := sRight_f k cap p0 p1 p2 p3 p4 p5 p6 p7 p8 w hP h; rwa [h] at this
  | true => have := sRight_t k cap p0 p1 p2 p3 p4 p5 p6 p7 p8 w hP h; rwa [h] at this

theorem iRight_any (p0 p1 p2 p3 p4 p5 p6 p7 p8 : Int) (w : World) :
    Calls Tryd.prog 73 #[.agg #[.int .i64 p0, .int .i64 p1, .int .i64 p2, .int .i64 p3, .int .i64 p4, .int .i64 p5, .int .i64 p6, .int .i64 p7, .int .i64 p8]] w fun e w' => e = .returned (.bool (rg1 p0 p1 p2 p3 p4 p5 p6 p7 p8 && rg2 p0 p1 p2 p3 p4 p5 p6 p7 p8)) ∧ Below w.heap.size w w' := by
  cases h : rg1 p0 p1 p2 p3 p4 p5 p6 p7 p8 with
  | false => have := iRight_f p0 p1 p2 p3 p4 p5 p6 p7 p8 w h; rwa [h] at this
  | true => have := iRight_t p0 p1 p2 p3 p4 p5 p6 p7 p8 w h; rwa [h] at this

end Go.Proofs.YtdogkkmdccieiaaDoor
