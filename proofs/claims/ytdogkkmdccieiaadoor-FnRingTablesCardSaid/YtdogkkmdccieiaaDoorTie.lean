/-
  DERIVED. GIVEN WITH THE SEED: THE PROGRAM's TIES (one call each: nine closed facts by the kernel) AND EACH ROW's TIE, after the 31st guide's Derived/Test/Toyas{Tie, Card}.lean. No idea stands in it: it is a product of the set-up. Laid BY PROGRAM, IN A SANDBOX (cutbox-door.mjs). By AI agents, Wed Nov 11 2026. No macro, syntax, notation, axiom, sorry.
-/
import Derived.Test.YtdogkkmdccieiaaDoorRows
import Derived.LaidByTextLater
import Derived.SevenTiedAt
import Derived.LaidSub
import Derived.LaidOnce
namespace Go.Proofs.YtdogkkmdccieiaaDoor
open Go
set_option maxRecDepth 100000
theorem seatTie1 : Tryd.prog.laidByTextLater [("loop.example/g01342/impl.errNoUnit", Rows.laid_loop_example_g01342_impl_errNoUnit), ("loop.example/g01342/impl.errNoFactors", Rows.laid_loop_example_g01342_impl_errNoFactors)] [.sentinel, .sentinel] true :=
  Program.laidByTextLater_by_one 47 8 2 (by kernel_rfl) (by kernel_rfl) (by kernel_rfl) (by kernel_rfl) (by kernel_rfl) (by kernel_rfl) (fun _ _ => by kernel_rfl)
theorem noOwnUnsafe : Tryd.pinned.checked.prog.headLifts.contains "ownunsafe" = false := by kernel_rfl
theorem tie : Tryd.prog.laidByTextLater [("loop.example/g01342/impl.errNoUnit", Rows.laid_loop_example_g01342_impl_errNoUnit)] [.sentinel] true :=
  Program.laidByTextLater.sub seatTie1 ["loop.example/g01342/impl.errNoUnit"] (by kernel_rfl) (by kernel_rfl)
theorem fnRingTables_row_tie : Rows.fnRingTablesRow.laidByTextAt .later Tryd.pinned [.sentinel] true :=
  OpenClaim.laidByTextAt_later rfl rfl tie noOwnUnsafe
theorem tie2 : Tryd.prog.laidByTextLater [("loop.example/g01342/impl.errNoFactors", Rows.laid_loop_example_g01342_impl_errNoFactors)] [.sentinel] true :=
  Program.laidByTextLater.sub seatTie1 ["loop.example/g01342/impl.errNoFactors"] (by kernel_rfl) (by kernel_rfl)
theorem fnPromiseOfAll_row_tie : Rows.fnPromiseOfAllRow.laidByTextAt .later Tryd.pinned [.sentinel] true :=
  OpenClaim.laidByTextAt_later rfl rfl tie2 noOwnUnsafe
theorem fnRingTablesUpto_row_tie : Rows.fnRingTablesUptoRow.laidByTextAt .later Tryd.pinned [.sentinel] true :=
  OpenClaim.laidByTextAt_later rfl rfl tie noOwnUnsafe
theorem fnPromiseOfAllUpto_row_tie : Rows.fnPromiseOfAllUptoRow.laidByTextAt .later Tryd.pinned [.sentinel] true :=
  OpenClaim.laidByTextAt_later rfl rfl tie2 noOwnUnsafe
end Go.Proofs.YtdogkkmdccieiaaDoor
