/- The program's own closed facts, once for all laws of the seat. -/
import Derived.Test.YtehbkmohfipmgaaBtZ1
import Derived.JoinedOf
namespace Go.Proofs.Ytehbkmohfipmgaa

theorem clo_enter : Try.prog.mayEnter = true := by kernel_rfl
theorem clo_lifts : (Rows.fnQuadraticsRow.lifted == Try.prog.liftsFinal) = true := by kernel_rfl
theorem clo_make : (Try.prog.make == some Rows.fnQuadraticsRow.make) = true := by kernel_rfl
theorem clo_and {a b : Bool} (h : a = true) (h' : b = true) : (a && b) = true := by rw [h, h']; rfl

end Go.Proofs.Ytehbkmohfipmgaa
