/- Several texts in one: XDraw9, XDraw10. -/
import Derived.Test.YtigbaelbeaobpaaZ5
import Derived.Test.YtigbaelbeaobpaaH
import Derived.Test.YtigbaelbeaobpaaZ6
import Derived.Deep.RegionHeld3

/- Draws of chapter 3: quadratic forms. -/
namespace Go.Proofs.Ytigbaelbeaobpaa
open Go.ChangeShapes Go.WideShapes Go.ChangeAt Go.RowKit

theorem Arr3.gk {k j : Nat} {u v : World} {a b c : Int} (hA : Arr3 u j a b c) (h : Gk k u v) (hk : j ≠ k) : Arr3 v j a b c :=
  ⟨Nat.lt_of_lt_of_le hA.lt h.size, (h.cell (p := ⟨j, 0, none⟩) hA.lt hk).trans hA.c0, (h.cell (p := ⟨j, 1, none⟩) hA.lt hk).trans hA.c1, (h.cell (p := ⟨j, 2, none⟩) hA.lt hk).trans hA.c2,
    (h.frozen (p := ⟨j, 0, none⟩) hA.lt hk).trans hA.f0, (h.frozen (p := ⟨j, 1, none⟩) hA.lt hk).trans hA.f1, (h.frozen (p := ⟨j, 2, none⟩) hA.lt hk).trans hA.f2⟩
theorem Src.up3 {w : World} {k : Nat} {a : Option Addr} {len cap : Nat} {zs : List Int} (h : Src w k a len cap zs) {j : Nat} (hj : k < j) (x y z : Value) : Src (((w.setCell ⟨j, 0, none⟩ x).setCell ⟨j, 1, none⟩ y).setCell ⟨j, 2, none⟩ z) k a len cap zs :=
  ((h.up (p := ⟨j, 0, none⟩) hj x).up (p := ⟨j, 1, none⟩) hj y).up (p := ⟨j, 2, none⟩) hj z
theorem Gk.up3 {k : Nat} {u v : World} (h : Gk k u v) {j : Nat} (hj : u.heap.size ≤ j) (x y z : Value) : Gk k u (((v.setCell ⟨j, 0, none⟩ x).setCell ⟨j, 1, none⟩ y).setCell ⟨j, 2, none⟩ z) :=
  ((h.up (p := ⟨j, 0, none⟩) hj x).up (p := ⟨j, 1, none⟩) hj y).up (p := ⟨j, 2, none⟩) hj z
/-- A quadratic form, whatever it is. -/
def QudPost (k : Nat) (a : Option Addr) (len cap : Nat) (zs : List Int) (w : World) (e : Ending) (w' : World) : Prop :=
  ∃ p q r : Int, e = .returned (.agg #[.int .i64 p, .int .i64 q, .int .i64 r]) ∧ Src w' k a len cap zs ∧ Gk k w w'




end Go.Proofs.Ytigbaelbeaobpaa

/- Draws of chapter 3: those that the laws use. -/
namespace Go.Proofs.Ytigbaelbeaobpaa
open Go.ChangeShapes Go.WideShapes Go.ChangeAt Go.RowKit

def QudOut (w : World) (e : Ending) (w' : World) : Prop := ∃ p q r : Int, e = .returned (.agg #[.int .i64 p, .int .i64 q, .int .i64 r]) ∧ Below w.heap.size w w'
def QMOut (w : World) (e : Ending) (w' : World) : Prop := ∃ p q r a b c d : Int, e = .returned (.tuple #[.agg #[.int .i64 p, .int .i64 q, .int .i64 r], .agg #[.int .i64 a, .int .i64 b, .int .i64 c, .int .i64 d]]) ∧ Below w.heap.size w w'
def QIIOut (w : World) (e : Ending) (w' : World) : Prop := ∃ p q r x y : Int, e = .returned (.tuple #[.agg #[.int .i64 p, .int .i64 q, .int .i64 r], .int .i64 x, .int .i64 y]) ∧ Below w.heap.size w w'
theorem res_AQ {P : Program} {fn : Func} {p p' : Tmp} {ty e ty' e' : TypeId} {tmps : Array Value} {w : World} {b b' : Nat} {x0 x1 x2 y0 y1 y2 y3 : Int} (h : fn.results = #[.cell p ty, .cell p' ty']) (hu : P.underlying ty = some (.array 3 e)) (hi : (P.info? ty).map (·.size) = some 3)
    (hu' : P.underlying ty' = some (.array 4 e')) (hi' : (P.info? ty').map (·.size) = some 4) (hp : tmps.getD p undef = .pointer (some ⟨b, 0, none⟩)) (hp' : tmps.getD p' undef = .pointer (some ⟨b', 0, none⟩)) (hA : Arr3 w b x0 x1 x2) (hB : Arr w b' y0 y1 y2 y3) :
    (results fn tmps).run P w = .ok (.tuple #[.agg #[.int .i64 x0, .int .i64 x1, .int .i64 x2], .agg #[.int .i64 y0, .int .i64 y1, .int .i64 y2, .int .i64 y3]]) w := by
  have hq : tmps[p]?.getD undef = .pointer (some ⟨b, 0, none⟩) := by simpa using hp
  have hq' : tmps[p']?.getD undef = .pointer (some ⟨b', 0, none⟩) := by simpa using hp'
  simp [results, h, hq, hq', asAddr, loadVar3 w b ty e _ _ _ hu hi hA.c0 hA.c1 hA.c2, loadVar4 w b' ty' e' _ _ _ _ hu' hi' hB.c0 hB.c1 hB.c2 hB.c3]
theorem res_QII {P : Program} {fn : Func} {p u v : Tmp} {ty e : TypeId} {tmps : Array Value} {w : World} {b : Nat} {x0 x1 x2 : Int} (h : fn.results = #[.cell p ty, .tmp u, .tmp v]) (hu : P.underlying ty = some (.array 3 e)) (hi : (P.info? ty).map (·.size) = some 3)
    (hp : tmps.getD p undef = .pointer (some ⟨b, 0, none⟩)) (hA : Arr3 w b x0 x1 x2) :
    (results fn tmps).run P w = .ok (.tuple #[.agg #[.int .i64 x0, .int .i64 x1, .int .i64 x2], tmps.getD u undef, tmps.getD v undef]) w := by
  have hq : tmps[p]?.getD undef = .pointer (some ⟨b, 0, none⟩) := by simpa using hp
  simp [results, h, hq, asAddr, loadVar3 w b ty e _ _ _ hu hi hA.c0 hA.c1 hA.c2]









theorem below_set6 {B : Nat} {w w' : World} (h : Below B w w') {p : Addr} (hp : B ≤ p.block) (u : Value) : Below B w (w'.setCell p u) := h.setCell hp u





end Go.Proofs.Ytigbaelbeaobpaa
