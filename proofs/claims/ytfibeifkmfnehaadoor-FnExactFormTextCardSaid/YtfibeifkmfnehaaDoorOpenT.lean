/- What the door's condition gives a walk: the library's table of powers of ten is laid. -/
import Derived.Test.YtfibeifkmfnehaaDoorOpen
import Derived.Test.YtfibeifkmfnehaaDoorFt3
import Derived.Test.YtfibeifkmfnehaaDoorTie
import Derived.Test.YtfibeifkmfnehaaDoorCards
import Derived.Stop.LaidErr
import Derived.LaidMore
import Derived.Stop.Joined
import Derived.SevenTiedAt
import Derived.Lib.LaidTab
namespace Go.Proofs.YtfibeifkmfnehaaDoor
open Go.ChangeShapes Go.WideShapes Go.ChangeAt Go.RowKit

theorem tbG : Tryd.prog.globalNamed "internal/strconv.uint64pow10" = some 0 ∧ (Tryd.prog.globals[0]?).map (·.type) = some 83 := ⟨by kernel_rfl, by kernel_rfl⟩
theorem tbEq : (Rows.laid_internal_strconv_uint64pow10 : DataW Unit) = Lib.tabData .u64 Lib.pow10Tab := by kernel_rfl
theorem tb_laid {W : World} (h : laidMetH Tryd.prog Rows.fnExactFormTextRow.laid W) : Tab W := by
  have h' : laidMet Tryd.prog Rows.fnExactFormTextRow.laid W := h
  have h2 : laidMet Tryd.prog (("internal/strconv.uint64pow10", Rows.laid_internal_strconv_uint64pow10) :: []) W := h'.tail.tail
  rw [tbEq] at h2
  obtain ⟨h3, h4⟩ := tbG
  exact Lib.tabIs_of_head h3 h4 Tryd.underlying83 Tryd.underlying66 (by kernel_rfl) (by kernel_rfl) h2
theorem tb_door (os : Os) (args : Array Value) : laidMetH Tryd.prog Rows.fnExactFormTextRow.laid ((World.doorLaid Tryd.prog 400 os).forCall (fun _ _ => 0) ⟨#[], args, []⟩).memory :=
  laidMetH_of_parts3 (fuel := 8) (laidMet_of_run' 8 (by kernel_rfl) (by kernel_rfl)) (by kernel_rfl) (by kernel_rfl)


end Go.Proofs.YtfibeifkmfnehaaDoor
