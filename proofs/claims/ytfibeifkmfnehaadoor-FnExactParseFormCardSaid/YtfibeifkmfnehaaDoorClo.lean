/- The program's own closed facts, once for all laws of the seat. -/
import Derived.Test.YtfibeifkmfnehaaDoorOpen
import Derived.JoinedOf
namespace Go.Proofs.YtfibeifkmfnehaaDoor

theorem clo_enter : Tryd.prog.mayEnter = true := by kernel_rfl
theorem clo_lifts : (Rows.fnExactFormTextRow.lifted == Tryd.prog.liftsFinal) = true := by kernel_rfl
theorem clo_make : (Tryd.prog.make == some Rows.fnExactFormTextRow.make) = true := by kernel_rfl
theorem clo_and {a b : Bool} (h : a = true) (h' : b = true) : (a && b) = true := by rw [h, h']; rfl

end Go.Proofs.YtfibeifkmfnehaaDoor
