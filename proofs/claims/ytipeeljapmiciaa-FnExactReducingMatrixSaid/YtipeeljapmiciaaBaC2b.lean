/- Chapter 2: which forms are reduced: the program whole, and the model. -/
import Derived.Test.YtipeeljapmiciaaBaC2a
namespace Go.Proofs.Ytipeeljapmiciaa
open Go.RowKit

/-- Is a form (of numbers of at most 100, of a discriminant other than 0) reduced? -/
def rdd (a b c d : Int) : Bool := nn3 (mg1 (decide (0 < dsc a b c d)) a b c d) (mg2 (decide (0 < dsc a b c d)) a b c d) (mg3 (decide (0 < dsc a b c d)) a b c d)
def rd0 (a b c d : Int) : Bool := decide (rcd a b c d = 0) && rdd a b c d
theorem ret_bi {a b : Bool} {c d : Int} (h : a = b) (h' : c = d) : Ending.returned (.tuple #[.bool a, .int .i64 c]) = .returned (.tuple #[.bool b, .int .i64 d]) := by rw [h, h']
theorem sg_pos (x : Int) : decide (0 < sg x) = decide (0 < x) := by
  unfold sg; split <;> (try split) <;> simp_all
theorem rcd_0 {a b c d : Int} (h : rcd a b c d = 0) : isF a b c d = true ∧ isR a b c d = true ∧ dsc a b c d ≠ 0 := by
  unfold rcd at h
  split at h <;> (try split at h) <;> (try split at h) <;> simp_all
theorem mg_wr {a b c d : Int} (h : isR a b c d = true) (t : Bool) : wrap64 (mg1 t a b c d) = mg1 t a b c d ∧ wrap64 (mg2 t a b c d) = mg2 t a b c d ∧ wrap64 (mg3 t a b c d) = mg3 t a b c d := by
  obtain ⟨ha, hb, hc, hd⟩ := isR_t h
  have bb := mulb hb hb; have ac := mulb (mulb (show -3 ≤ (3 : Int) ∧ (3 : Int) ≤ 3 by omega) ha) hc; have bc := mulb hb hc
  have ad := mulb (mulb (show -9 ≤ (9 : Int) ∧ (9 : Int) ≤ 9 by omega) ha) hd; have cc := mulb hc hc; have bd := mulb (mulb (show -3 ≤ (3 : Int) ∧ (3 : Int) ≤ 3 by omega) hb) hd
  have ad1 := mulb ha hd; have ac1 := mulb ha hc; have dd := mulb hd hd; have aa := mulb ha ha; have bd1 := mulb hb hd
  have mm := mulb (show -200 ≤ a - b ∧ a - b ≤ 200 by omega) (show -200 ≤ a - b ∧ a - b ≤ 200 by omega)
  have pp := mulb (show -200 ≤ a + b ∧ a + b ≤ 200 by omega) (show -200 ≤ a + b ∧ a + b ≤ 200 by omega)
  simp only [Int.reduceMul] at bb ac bc ad cc bd ad1 ac1 dd aa bd1 mm pp
  refine ⟨wr_in ?_, wr_in ?_, wr_in ?_⟩
  · unfold mg1; split <;> omega
  · unfold mg2; split <;> omega
  · unfold mg3; split <;> omega



end Go.Proofs.Ytipeeljapmiciaa
