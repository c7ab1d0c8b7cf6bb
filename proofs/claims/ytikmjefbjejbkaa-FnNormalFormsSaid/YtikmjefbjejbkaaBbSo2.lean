/- The library sort at the program's forms: a permutation in order, in the same block. -/
import Derived.Test.YtikmjefbjejbkaaBbSo1
import Derived.Test.YtikmjefbjejbkaaBbBd
import Derived.Test.YtikmjefbjejbkaaBbZ20
import Derived.Test.YtikmjefbjejbkaaBbZ22
namespace Go.Proofs.Ytikmjefbjejbkaa
open Go.RowKit Go.Lib Go.Sort

namespace Rd
theorem swo4 : SWO (ltOf cm4) where
  irrefl x := by simp only [ltOf, decide_eq_false_iff_not, cm4_iff]; exact Ls.irrefl x
  trans x y z h k := by simp only [ltOf, decide_eq_true_eq, cm4_iff] at *; exact h.trans k
  ntrans x y z h k := by simp only [ltOf, decide_eq_false_iff_not, cm4_iff] at *; exact Ls.ntrans h k
end Rd
/-- What lies behind a world in which blocks were laid and draws were made. -/
theorem Bd.grow {w w' : World} (h : Bd w w') : ∃ q os, w' = Sort.grow (w.drewN q) os := by
  refine ⟨w'.drawn - w.drawn, w'.heap.extract w.heap.size w'.heap.size, ?_⟩
  have hh : w'.heap = w.heap ++ w'.heap.extract w.heap.size w'.heap.size := by
    apply Array.ext_getElem?
    intro k
    rw [Array.getElem?_append]
    by_cases hk : k < w.heap.size
    · rw [if_pos hk]; exact h.b.block k hk
    · rw [if_neg hk, Array.getElem?_extract]
      have hs := h.b.size
      by_cases hk2 : k < w'.heap.size
      · rw [if_pos (by omega), show w.heap.size + (k - w.heap.size) = k by omega]
      · rw [if_neg (by omega), Array.getElem?_eq_none (by omega)]
  have hd : w'.drawn = w.drawn + (w'.drawn - w.drawn) := by have := h.d; omega
  unfold Sort.grow World.drewN
  have h1 := h.b.os; have h2 := h.b.tape; have h3 := h.b.output
  generalize w'.heap.extract w.heap.size w'.heap.size = X at hh ⊢
  generalize w'.drawn - w.drawn = y at hd ⊢
  cases w'; cases w
  simp only at h1 h2 h3 hh hd
  subst h1 h2 h3 hh hd
  rfl
theorem cmpLaysF (blk off size : Nat) (w : World) : CmpLays Try.prog 68 #[] hm4 4 Rd.cm4 blk off size w :=
  fun _ _ _ _ x y => (cmpF_bd x.1 x.2.1 x.2.2.1 x.2.2.2 y.1 y.2.1 y.2.2.1 y.2.2.2 _).mono fun _ _ h => ⟨h.1, h.2.grow⟩
theorem cmpLaysM (blk off size : Nat) (w : World) : CmpLays Try.prog 58 #[] hm4 4 Rd.cm4 blk off size w :=
  fun _ _ _ _ x y => (cmpM_bd x.1 x.2.1 x.2.2.1 x.2.2.2 y.1 y.2.1 y.2.2.1 y.2.2.2 _).mono fun _ _ h => ⟨h.1, h.2.grow⟩

end Go.Proofs.Ytikmjefbjejbkaa
