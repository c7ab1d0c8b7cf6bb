/- Draws: those of chapter 1 that the laws use. -/
import Derived.Test.YtambbhldhhlfgaaDraw7
import Derived.Deep.RegionHeld3
namespace Go.Proofs.Ytambbhldhhlfgaa
open Go.ChangeShapes Go.WideShapes Go.ChangeAt Go.RowKit

def FrmOut (w : World) (e : Ending) (w' : World) : Prop := ∃ p q r s : Int, e = .returned (.agg #[.int .i64 p, .int .i64 q, .int .i64 r, .int .i64 s]) ∧ Below w.heap.size w w'
def TwoOut (w : World) (e : Ending) (w' : World) : Prop := ∃ p q r s p' q' r' s' : Int, e = .returned (.tuple #[.agg #[.int .i64 p, .int .i64 q, .int .i64 r, .int .i64 s], .agg #[.int .i64 p', .int .i64 q', .int .i64 r', .int .i64 s']]) ∧ Below w.heap.size w w'
theorem res_AA {P : Program} {fn : Func} {p p' : Tmp} {ty e ty' e' : TypeId} {tmps : Array Value} {w : World} {b b' : Nat} {x0 x1 x2 x3 y0 y1 y2 y3 : Int} (h : fn.results = #[.cell p ty, .cell p' ty']) (hu : P.underlying ty = some (.array 4 e)) (hi : (P.info? ty).map (·.size) = some 4)
    (hu' : P.underlying ty' = some (.array 4 e')) (hi' : (P.info? ty').map (·.size) = some 4) (hp : tmps.getD p undef = .pointer (some ⟨b, 0, none⟩)) (hp' : tmps.getD p' undef = .pointer (some ⟨b', 0, none⟩)) (hA : Arr w b x0 x1 x2 x3) (hB : Arr w b' y0 y1 y2 y3) :
    (results fn tmps).run P w = .ok (.tuple #[.agg #[.int .i64 x0, .int .i64 x1, .int .i64 x2, .int .i64 x3], .agg #[.int .i64 y0, .int .i64 y1, .int .i64 y2, .int .i64 y3]]) w := by
  have hq : tmps[p]?.getD undef = .pointer (some ⟨b, 0, none⟩) := by simpa using hp
  have hq' : tmps[p']?.getD undef = .pointer (some ⟨b', 0, none⟩) := by simpa using hp'
  simp [results, h, hq, hq', asAddr, loadVar4 w b ty e _ _ _ _ hu hi hA.c0 hA.c1 hA.c2 hA.c3, loadVar4 w b' ty' e' _ _ _ _ hu' hi' hB.c0 hB.c1 hB.c2 hB.c3]
theorem Arr.oth4 {w : World} {j i : Nat} {a b c d : Int} (h : Arr w j a b c d) (hne : j ≠ i) {x y z u : Value} : Arr ((((w.setCell ⟨i, 0, none⟩ x).setCell ⟨i, 1, none⟩ y).setCell ⟨i, 2, none⟩ z).setCell ⟨i, 3, none⟩ u) j a b c d :=
  (((h.oth (p := ⟨i, 0, none⟩) hne _).oth (p := ⟨i, 1, none⟩) hne _).oth (p := ⟨i, 2, none⟩) hne _).oth (p := ⟨i, 3, none⟩) hne _
theorem row8_next {w w' : World} {a : Option Addr} {len cap : Nat} {zs : List Int} (h : IsRow .u8 w a len cap zs) (hb : Below w.heap.size w w') : IsRow .u8 w' a len cap zs := by
  rcases h with h | ⟨x, h1, h2, h3, h4, h5, h6⟩
  · exact .inl h
  · exact .inr ⟨x, h1, h2, h3, h4, fun i hi => (hb.cell (p := x.add i) (World.block_lt_of_cell? w (x.add i) (h5 i hi))).trans (h5 i hi), h6⟩










end Go.Proofs.Ytambbhldhhlfgaa
