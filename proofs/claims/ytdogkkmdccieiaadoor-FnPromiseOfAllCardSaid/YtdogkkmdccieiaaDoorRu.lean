/- Chapter 5: kinds of the model; counts of roots. -/
import Derived.Test.YtdogkkmdccieiaaDoorRt
namespace Go.Proofs.YtdogkkmdccieiaaDoor
open Go.RowKit

def mxK (R : List (Int × Int × Int)) (k : Nat) : Int := mxt (R.take k)
theorem mxK_0 (R : List (Int × Int × Int)) : mxK R 0 = 0 := rfl
theorem mxK_s {R : List (Int × Int × Int)} {k : Nat} (h : k < R.length) : mxK R (k + 1) = max (mxK R k) R[k].2.2 := by
  unfold mxK mxt; rw [List.take_succ_eq_append_getElem h, List.foldl_append]; rfl
theorem mxK_e (R : List (Int × Int × Int)) : mxK R R.length = mxt R := by unfold mxK; rw [List.take_length]
theorem mx_if (M t : Int) : (if M < t then t else M) = max M t := by split <;> omega
theorem kdm_n (R : List (Int × Int × Int)) : kdm R = if mxt R = 3 then 5 else if mxt R = 2 then 4 else if (R.length : Int) = 3 then 1 else if (R.length : Int) = 1 then 2 else 3 := by
  have e3 : (R.length = 3) = ((R.length : Int) = 3) := by apply propext; omega
  have e1 : (R.length = 1) = ((R.length : Int) = 1) := by apply propext; omega
  simp only [kdm, e3, e1]
theorem rw3_get {R : List (Int × Int × Int)} {k : Nat} (h : k < R.length) : ((R.map rw3).getD k []).getD 2 0 = R[k].2.2 := by
  simp [List.getD, h, rw3]





/-- The value of CountRoots. -/
def crv (a b c d p : Int) : Int := if fpc a b c d p = 0 then (if mul0 (cnt a b c d) p then p + 1 else ((rtp a b c d p).length : Int)) else 0






end Go.Proofs.YtdogkkmdccieiaaDoor
