/-
  DERIVED. GIVEN WITH THE SEED: THE CARDS: each row of YtdogkkmdccieiaaDoorRows.lean that lists a variable, with what it lists TIED to the program's text (the seventh form; the later family's looks); each row that meets fmt, with fmt's text TOLD by the authors' own Lean function (tested against real Go, not proved from fmt's source: count such statements apart). THE CARD IS WHAT COUNTS. Prove the row's statement (the work); the ties are given (YtdogkkmdccieiaaDoorTie.lean); close each card by the builder's one call (the guide's Derived/Test/ToyasCard.lean, 'card_holds'). Laid BY PROGRAM, IN A SANDBOX (cutbox-door.mjs). By AI agents, Wed Nov 11 2026. No macro, syntax, notation, axiom, sorry.
-/
import Derived.Test.YtdogkkmdccieiaaDoorRows
import GoSem.ClaimSeven
namespace Go.Proofs.YtdogkkmdccieiaaDoor
namespace Rows

/-- THE TIED CARD OF 'laws.FnRingTables'. -/
def fnRingTablesCard : Claim7 := { stood := { row := fnRingTablesRow, standIns := [], harness := (true, "6c26d8e01380eb7f49b15f41cbcd25fecafc0afc05e772a876ec755d07859c05"), looks := true }, kinds := [], alts := [], laidByText := true, laidKinds := [.sentinel], laidTests := true, laidLooks := .later }
def FnRingTablesCardSaid : Prop := Claim7.holds Tryd.pinned (.plain (OpenSpec.ofChange fnRingTablesSpec)) fnRingTablesCard

/-- THE TIED CARD OF 'laws.FnPromiseOfAll'. -/
def fnPromiseOfAllCard : Claim7 := { stood := { row := fnPromiseOfAllRow, standIns := [], harness := (true, "6c26d8e01380eb7f49b15f41cbcd25fecafc0afc05e772a876ec755d07859c05"), looks := true }, kinds := [], alts := [], laidByText := true, laidKinds := [.sentinel], laidTests := true, laidLooks := .later }
def FnPromiseOfAllCardSaid : Prop := Claim7.holds Tryd.pinned (.plain (OpenSpec.ofChange fnPromiseOfAllSpec)) fnPromiseOfAllCard

/-- THE SECOND FORM's CARD OF 'laws.FnRingTables'. -/
def fnRingTablesUptoCard : Claim7 := { stood := { row := fnRingTablesUptoRow, standIns := [], harness := (true, "6c26d8e01380eb7f49b15f41cbcd25fecafc0afc05e772a876ec755d07859c05"), looks := true }, kinds := [], alts := [], laidByText := true, laidKinds := [.sentinel], laidTests := true, laidLooks := .later }
def FnRingTablesUptoCardSaid : Prop := Claim7.holds Tryd.pinned (.plain (OpenSpec.upto fnRingTablesSpec)) fnRingTablesUptoCard

/-- THE SECOND FORM's CARD OF 'laws.FnPromiseOfAll'. -/
def fnPromiseOfAllUptoCard : Claim7 := { stood := { row := fnPromiseOfAllUptoRow, standIns := [], harness := (true, "6c26d8e01380eb7f49b15f41cbcd25fecafc0afc05e772a876ec755d07859c05"), looks := true }, kinds := [], alts := [], laidByText := true, laidKinds := [.sentinel], laidTests := true, laidLooks := .later }
def FnPromiseOfAllUptoCardSaid : Prop := Claim7.holds Tryd.pinned (.plain (OpenSpec.upto fnPromiseOfAllSpec)) fnPromiseOfAllUptoCard
end Rows
end Go.Proofs.YtdogkkmdccieiaaDoor
