/- What the door's condition gives a walk: the library's table of powers of ten and the two errors of strconv are laid; its variable MaxLen holds some number. -/
import Derived.Test.YtfibeifkmfnehaaDoorOpen
import Derived.Test.YtfibeifkmfnehaaDoorPi
import Derived.Test.YtfibeifkmfnehaaDoorTie
import Derived.Test.YtfibeifkmfnehaaDoorCards
import Derived.Stop.LaidErr
import Derived.LaidMore
import Derived.Stop.Joined
import Derived.SevenTiedAt
import Derived.Lib.LaidTab
import Derived.Shelf.Vars
import Derived.Handed
import Derived.Lay
import Derived.ChangeMaps5
namespace Go.Proofs.YtfibeifkmfnehaaDoor
open Go.ChangeShapes Go.WideShapes Go.ChangeAt Go.RowKit

theorem tbG : Tryd.prog.globalNamed "internal/strconv.uint64pow10" = some 0 ∧ (Tryd.prog.globals[0]?).map (·.type) = some 83 := ⟨by kernel_rfl, by kernel_rfl⟩
theorem tbEq : (Rows.laid_internal_strconv_uint64pow10 : DataW Unit) = Lib.tabData .u64 Lib.pow10Tab := by kernel_rfl
theorem erG : Tryd.prog.globalNamed "strconv.ErrRange" = some 2 := by kernel_rfl
theorem erT : (Tryd.prog.globals[2]?).map (·.type) = some 39 := by kernel_rfl
theorem eyG : Tryd.prog.globalNamed "strconv.ErrSyntax" = some 1 := by kernel_rfl
theorem eyT : (Tryd.prog.globals[1]?).map (·.type) = some 39 := by kernel_rfl
theorem esStar : "*" ++ "errors.errorString" = "*errors.errorString" := by decide
theorem esRow (u : TypeId) (h : Tryd.prog.typeName? 3 u = some "*errors.errorString") : u = 98 :=
  typeName_ptr_named (nm := "errors.errorString") (by rw [esStar]; kernel_rfl) (by kernel_rfl) (by decide) u (by rw [esStar]; exact h)
theorem esCells : Tryd.prog.cellsOf 100 = 1 := by kernel_rfl
theorem strCells : Tryd.prog.cellsOf 9 = 1 := by kernel_rfl
theorem pf_laid {W : World} (h : laidMetH Tryd.prog Rows.fnExactParseFormRow.laid W) : Tab W ∧ Errs W := by
  have h' : laidMet Tryd.prog Rows.fnExactParseFormRow.laid W := h
  have h2 : laidMet Tryd.prog (("internal/strconv.uint64pow10", Rows.laid_internal_strconv_uint64pow10) :: Rows.fnExactParseFormRow.laid.tail.tail.tail) W := h'.tail.tail
  have h3 : laidMet Tryd.prog (("strconv.ErrRange", Rows.laid_strconv_ErrRange) :: Rows.fnExactParseFormRow.laid.tail.tail.tail.tail.tail) W := h2.tail.tail
  have h4 : laidMet Tryd.prog (("strconv.ErrSyntax", Rows.laid_strconv_ErrSyntax) :: Rows.fnExactParseFormRow.laid.tail.tail.tail.tail.tail.tail) W := h3.tail
  rw [tbEq] at h2
  obtain ⟨g1, g2⟩ := tbG
  obtain ⟨a, s, hv, _⟩ := laid_sentinel h3 erG erT Tryd.underlying39 esRow Tryd.underlying98 Tryd.underlying100 rfl rfl Tryd.underlying9 esCells strCells
  obtain ⟨a', s', hv', _⟩ := laid_sentinel h4 eyG eyT Tryd.underlying39 esRow Tryd.underlying98 Tryd.underlying100 rfl rfl Tryd.underlying9 esCells strCells
  exact ⟨Lib.tabIs_of_head g1 g2 Tryd.underlying83 Tryd.underlying66 (by kernel_rfl) (by kernel_rfl) h2, ⟨_, _, hv'⟩, ⟨_, _, hv⟩⟩
theorem pf_door (os : Os) (args : Array Value) : laidMetH Tryd.prog Rows.fnExactParseFormRow.laid ((World.laidAll Tryd.prog os Rows.fnExactParseFormRow.laid).forCall (fun _ _ => 0) ⟨#[], args, []⟩).memory := by
  rw [MakeChecks.laidMetH_plain _ _ _ (by kernel_rfl)]; exact laidMet_laidAll _ (by kernel_rfl) (by kernel_rfl)
theorem pf_maxLen {W : World} (hsh : W.ShapedOpen Tryd.prog) : ∃ m, W.cell? ⟨3, 0, none⟩ = some (.int .i64 m) :=
  cell_of_shapedOpen_int (P := Tryd.prog) (g := 3) (t := 3) (zero := #[.int .i64 0]) hsh (of_decide_eq_true (by kernel_rfl)) (by kernel_rfl) rfl (by kernel_rfl) (by kernel_rfl) Tryd.underlying3


end Go.Proofs.YtfibeifkmfnehaaDoor
