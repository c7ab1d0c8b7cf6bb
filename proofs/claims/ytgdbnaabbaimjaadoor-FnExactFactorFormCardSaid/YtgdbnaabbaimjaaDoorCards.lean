/-
  DERIVED. GIVEN WITH THE SEED: THE CARDS: each row of YtgdbnaabbaimjaaDoorRows.lean that lists a variable, with what it lists TIED to the program's text (the seventh form; the later family's looks); each row that meets fmt, with fmt's text TOLD by the authors' own Lean function (tested against real Go, not proved from fmt's source: count such statements apart). THE CARD IS WHAT COUNTS. Prove the row's statement (the work); the ties are given (YtgdbnaabbaimjaaDoorTie.lean); close each card by the builder's one call (the guide's Derived/Test/ToyasCard.lean, 'card_holds'). Laid BY PROGRAM, IN A SANDBOX (cutbox-door.mjs). By AI agents, Wed Nov 11 2026. No macro, syntax, notation, axiom, sorry.
-/
import Derived.Test.YtgdbnaabbaimjaaDoorRows
import GoSem.ClaimSeven
namespace Go.Proofs.YtgdbnaabbaimjaaDoor
namespace Rows

/-- THE TIED CARD OF 'laws.FnPromiseOfAll'. -/
def fnPromiseOfAllCard : Claim7 := { stood := { row := fnPromiseOfAllRow, standIns := [], harness := (true, "a371131f1094f516a8f61552ee2e401d1371a7966106b44b4ae051eec625668d"), looks := true }, kinds := [], alts := [], laidByText := true, laidKinds := [.sentinel], laidTests := true, laidLooks := .later }
def FnPromiseOfAllCardSaid : Prop := Claim7.holds Tryd.pinned (.plain (OpenSpec.ofChange fnPromiseOfAllSpec)) fnPromiseOfAllCard

/-- THE TIED CARD OF 'laws.FnFactors'. -/
def fnFactorsCard : Claim7 := { stood := { row := fnFactorsRow, standIns := [], harness := (true, "a371131f1094f516a8f61552ee2e401d1371a7966106b44b4ae051eec625668d"), looks := true }, kinds := [], alts := [], laidByText := true, laidKinds := [.sentinel], laidTests := true, laidLooks := .later }
def FnFactorsCardSaid : Prop := Claim7.holds Tryd.pinned (.plain (OpenSpec.ofChange fnFactorsSpec)) fnFactorsCard

/-- THE TIED CARD OF 'laws.FnExactFactorForm'. -/
def fnExactFactorFormCard : Claim7 := { stood := { row := fnExactFactorFormRow, standIns := [], harness := (true, "a371131f1094f516a8f61552ee2e401d1371a7966106b44b4ae051eec625668d"), looks := true }, kinds := [], alts := [], laidByText := true, laidKinds := [.sentinel], laidTests := true, laidLooks := .later }
def FnExactFactorFormCardSaid : Prop := Claim7.holds Tryd.pinned (.plain (OpenSpec.ofChange fnExactFactorFormSpec)) fnExactFactorFormCard

/-- THE SECOND FORM's CARD OF 'laws.FnPromiseOfAll'. -/
def fnPromiseOfAllUptoCard : Claim7 := { stood := { row := fnPromiseOfAllUptoRow, standIns := [], harness := (true, "a371131f1094f516a8f61552ee2e401d1371a7966106b44b4ae051eec625668d"), looks := true }, kinds := [], alts := [], laidByText := true, laidKinds := [.sentinel], laidTests := true, laidLooks := .later }
def FnPromiseOfAllUptoCardSaid : Prop := Claim7.holds Tryd.pinned (.plain (OpenSpec.upto fnPromiseOfAllSpec)) fnPromiseOfAllUptoCard

/-- THE SECOND FORM's CARD OF 'laws.FnFactors'. -/
def fnFactorsUptoCard : Claim7 := { stood := { row := fnFactorsUptoRow, standIns := [], harness := (true, "a371131f1094f516a8f61552ee2e401d1371a7966106b44b4ae051eec625668d"), looks := true }, kinds := [], alts := [], laidByText := true, laidKinds := [.sentinel], laidTests := true, laidLooks := .later }
def FnFactorsUptoCardSaid : Prop := Claim7.holds Tryd.pinned (.plain (OpenSpec.upto fnFactorsSpec)) fnFactorsUptoCard

/-- THE SECOND FORM's CARD OF 'laws.FnExactFactorForm'. -/
def fnExactFactorFormUptoCard : Claim7 := { stood := { row := fnExactFactorFormUptoRow, standIns := [], harness := (true, "a371131f1094f516a8f61552ee2e401d1371a7966106b44b4ae051eec625668d"), looks := true }, kinds := [], alts := [], laidByText := true, laidKinds := [.sentinel], laidTests := true, laidLooks := .later }
def FnExactFactorFormUptoCardSaid : Prop := Claim7.holds Tryd.pinned (.plain (OpenSpec.upto fnExactFactorFormSpec)) fnExactFactorFormUptoCard
end Rows
end Go.Proofs.YtgdbnaabbaimjaaDoor
