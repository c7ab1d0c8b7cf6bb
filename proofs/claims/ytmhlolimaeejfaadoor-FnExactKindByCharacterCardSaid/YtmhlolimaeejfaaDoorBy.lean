/- Stores into blocks known whole. No Go function in sight. -/
import Derived.Test.YtmhlolimaeejfaaDoorBx
namespace Go.Proofs.YtmhlolimaeejfaaDoor
open Go.RowKit

theorem Bx.put {w : World} {k : Nat} {xs : Array Value} {T : TypeId} (h : Bx w k xs T) (i : Nat) (v : Value) : Bx (w.setCell ⟨k, i, none⟩ v) k (xs.setIfInBounds i v) T := by
  obtain ⟨hlt, hk⟩ := Array.getElem?_eq_some_iff.1 h
  show (w.heap.modify k _)[k]? = _
  rw [Array.getElem?_eq_getElem (by rw [Array.size_modify]; exact hlt), Array.getElem_modify_self, hk]
  simp
theorem Bx.away {w : World} {k j : Nat} {xs : Array Value} {T : TypeId} (h : Bx w k xs T) (hne : k ≠ j) (i : Nat) (v : Value) : Bx (w.setCell ⟨j, i, none⟩ v) k xs T := by
  show (w.heap.modify j _)[k]? = _
  rw [Array.getElem?_modify]
  rw [if_neg (fun e => hne e.symm)]
  exact h


end Go.Proofs.YtmhlolimaeejfaaDoor
