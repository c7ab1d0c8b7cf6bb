/- Chapter 6: plain mathematics of raised and lowered forms. No Go function in sight. -/
import Derived.Test.YtambbhldhhlfgaaDoorZ6
import Derived.Test.YtambbhldhhlfgaaDoorZ3
namespace Go.Proofs.YtambbhldhhlfgaaDoor
open Go.RowKit

/-- A form turned at a point r of p. -/
def tuA (a b c d p r : Int) : Int := if r = p then a else cA a b c d r 1
def tuB (a b c d p r : Int) : Int := if r = p then b else cB a b c d r (-1) 1 0
def tuC (a b c d p r : Int) : Int := if r = p then c else cC a b c d r (-1) 1 0
def tuD (a b c d p r : Int) : Int := if r = p then d else cA a b c d (-1) 0
theorem tu_bd {a b c d p r : Int} (ha : -1000 ≤ a ∧ a ≤ 1000) (hb : -1000 ≤ b ∧ b ≤ 1000) (hc : -1000 ≤ c ∧ c ≤ 1000) (hd : -1000 ≤ d ∧ d ≤ 1000) (h0 : 0 ≤ r) (h97 : r ≤ 97) :
    (-36000000000000 ≤ tuA a b c d p r ∧ tuA a b c d p r ≤ 36000000000000) ∧ (-36000000000000 ≤ tuB a b c d p r ∧ tuB a b c d p r ≤ 36000000000000) ∧ (-36000000000000 ≤ tuC a b c d p r ∧ tuC a b c d p r ≤ 36000000000000) ∧ (-36000000000000 ≤ tuD a b c d p r ∧ tuD a b c d p r ≤ 36000000000000) := by
  obtain ⟨h1, h2⟩ := cB_bd (p := r) (q := -1) (r := 1) (s := 0) ha hb hc hd (by omega) (by omega) (by omega) (by omega)
  have h3 := vx_bd ha hb hc hd (x := r) (y := 1) (B := 1000) (by omega) (by omega)
  have h4 := vx_bd ha hb hc hd (x := -1) (y := 0) (B := 1000) (by omega) (by omega)
  simp only [Int.reduceMul] at h3 h4
  unfold tuA tuB tuC tuD cA
  refine ⟨?_, ?_, ?_, ?_⟩ <;> split <;> omega
/-- Can it be raised at r? -/
def rOk (a b c d p r : Int) : Bool := mul0 (tuA a b c d p r) (p * p) && mul0 (tuB a b c d p r) p
/-- The raised form. -/
def raA (a b c d p r : Int) : Int := (tuA a b c d p r).tdiv (p * p)
def raB (a b c d p r : Int) : Int := (tuB a b c d p r).tdiv p
def raC (a b c d p r : Int) : Int := tuC a b c d p r
def raD (a b c d p r : Int) : Int := p * tuD a b c d p r

/-- A form with a point brought to 0, 1. -/
def tlA (a b c d p r : Int) : Int := if r = p then cA a b c d 0 (-1) else cA a b c d 1 0
def tlB (a b c d p r : Int) : Int := if r = p then cB a b c d 0 1 (-1) 0 else cB a b c d 1 r 0 1
def tlC (a b c d p r : Int) : Int := if r = p then cC a b c d 0 1 (-1) 0 else cC a b c d 1 r 0 1
def tlD (a b c d p r : Int) : Int := if r = p then cA a b c d 1 0 else cA a b c d r 1
theorem tl_bd {a b c d p r : Int} (ha : -1000 ≤ a ∧ a ≤ 1000) (hb : -1000 ≤ b ∧ b ≤ 1000) (hc : -1000 ≤ c ∧ c ≤ 1000) (hd : -1000 ≤ d ∧ d ≤ 1000) (h0 : 0 ≤ r) (h97 : r ≤ 97) :
    (-36000000000000 ≤ tlA a b c d p r ∧ tlA a b c d p r ≤ 36000000000000) ∧ (-36000000000000 ≤ tlB a b c d p r ∧ tlB a b c d p r ≤ 36000000000000) ∧ (-36000000000000 ≤ tlC a b c d p r ∧ tlC a b c d p r ≤ 36000000000000) ∧ (-36000000000000 ≤ tlD a b c d p r ∧ tlD a b c d p r ≤ 36000000000000) := by
  obtain ⟨h1, h2⟩ := cB_bd (p := 1) (q := r) (r := 0) (s := 1) ha hb hc hd (by omega) (by omega) (by omega) (by omega)
  obtain ⟨h5, h6⟩ := cB_bd (p := 0) (q := 1) (r := -1) (s := 0) ha hb hc hd (by omega) (by omega) (by omega) (by omega)
  have h3 := vx_bd ha hb hc hd (x := r) (y := 1) (B := 1000) (by omega) (by omega)
  have h4 := vx_bd ha hb hc hd (x := 1) (y := 0) (B := 1000) (by omega) (by omega)
  have h7 := vx_bd ha hb hc hd (x := 0) (y := -1) (B := 1000) (by omega) (by omega)
  simp only [Int.reduceMul] at h3 h4 h7
  unfold tlA tlB tlC tlD cA
  refine ⟨?_, ?_, ?_, ?_⟩ <;> split <;> omega
/-- Is r a root? -/
def lOk (a b c d p r : Int) : Bool := mul0 (tlD a b c d p r) p
/-- The lowered form. -/
def loA (a b c d p r : Int) : Int := p * p * tlA a b c d p r
def loB (a b c d p r : Int) : Int := p * tlB a b c d p r
def loC (a b c d p r : Int) : Int := tlC a b c d p r
def loD (a b c d p r : Int) : Int := (tlD a b c d p r).tdiv p
theorem tlD_at {a b c d p r : Int} (ha : -1000 ≤ a ∧ a ≤ 1000) (hb : -1000 ≤ b ∧ b ≤ 1000) (hc : -1000 ≤ c ∧ c ≤ 1000) (hd : -1000 ≤ d ∧ d ≤ 1000) (h0 : 0 ≤ r) (h97 : r ≤ 97) :
    (r = p → a = tlD a b c d p r) ∧ (r ≠ p → vl a b c d r 1 = tlD a b c d p r) := by
  refine ⟨fun h => ?_, fun h => ?_⟩
  · unfold tlD; rw [if_pos h]; unfold cA vx; simp
  · unfold tlD; rw [if_neg h, vl_eq ha hb hc hd (by omega) (by omega)]; rfl
theorem pp_bd {p : Int} (h2 : 2 ≤ p) (h97 : p ≤ 97) : 4 ≤ p * p ∧ p * p ≤ 10000 := by
  have h := mulb (x := p) (y := p) (A := 97) (B := 97) (by omega) (by omega)
  have : 2 * 2 ≤ p * p := Int.mul_le_mul h2 h2 (by omega) (by omega)
  omega
theorem px_bd {p x : Int} (h2 : 2 ≤ p) (h97 : p ≤ 97) (hx : -36000000000000 ≤ x ∧ x ≤ 36000000000000) : -4000000000000000 ≤ p * x ∧ p * x ≤ 4000000000000000 := by
  have h := mulb (x := p) (y := x) (A := 97) (B := 36000000000000) (by omega) hx
  omega
theorem ppx_bd {p x : Int} (h2 : 2 ≤ p) (h97 : p ≤ 97) (hx : -36000000000000 ≤ x ∧ x ≤ 36000000000000) : -400000000000000000 ≤ p * p * x ∧ p * p * x ≤ 400000000000000000 := by
  have := pp_bd h2 h97
  have h := mulb (x := p * p) (y := x) (A := 10000) (B := 36000000000000) (by omega) hx
  omega
theorem td_bd {x m : Int} (hx : -36000000000000 ≤ x ∧ x ≤ 36000000000000) : -36000000000000 ≤ x.tdiv m ∧ x.tdiv m ≤ 36000000000000 := by
  have h : (x.tdiv m).natAbs ≤ x.natAbs := by rw [Int.natAbs_tdiv]; exact Nat.div_le_self _ _
  omega
/-- The code of a raised form, of a lowered one. -/
def stc (fp : Int) (p r : Int) (ok fits : Bool) : Int := if fp = 0 then (if 0 ≤ r ∧ r ≤ p then (if ok then (if fits then 0 else 3) else 5) else 2) else fp

end Go.Proofs.YtambbhldhhlfgaaDoor
