/-
  DERIVED. GIVEN WITH THE SEED: THE CARDS: each row of YtgflkgabofilcaaDoorRows.lean that lists a variable, with what it lists TIED to the program's text (the seventh form; the later family's looks); each row that meets fmt, with fmt's text TOLD by the authors' own Lean function (tested against real Go, not proved from fmt's source: count such statements apart). THE CARD IS WHAT COUNTS. Prove the row's statement (the work); the ties are given (YtgflkgabofilcaaDoorTie.lean); close each card by the builder's one call (the guide's Derived/Test/ToyasCard.lean, 'card_holds'). Laid BY PROGRAM, IN A SANDBOX (cutbox-door.mjs). By AI agents, Wed Nov 11 2026. No macro, syntax, notation, axiom, sorry.
-/
import Derived.Test.YtgflkgabofilcaaDoorRows
import GoSem.ClaimSeven
namespace Go.Proofs.YtgflkgabofilcaaDoor
namespace Rows

/-- THE TIED CARD OF 'laws.FnExactSignatureOf'. -/
def fnExactSignatureOfCard : Claim7 := { stood := { row := fnExactSignatureOfRow, standIns := [], harness := (true, "1169d3e8d41df5607a55a43d6b9d14cf30be91ce67d673f2de1a3230e7741c53"), looks := true }, kinds := [], alts := [], laidByText := true, laidKinds := [.sentinel], laidTests := true, laidLooks := .later }
def FnExactSignatureOfCardSaid : Prop := Claim7.holds Tryd.pinned (.plain (OpenSpec.ofChange fnExactSignatureOfSpec)) fnExactSignatureOfCard

/-- THE TIED CARD OF 'laws.FnExactGroupOrder'. -/
def fnExactGroupOrderCard : Claim7 := { stood := { row := fnExactGroupOrderRow, standIns := [], harness := (true, "1169d3e8d41df5607a55a43d6b9d14cf30be91ce67d673f2de1a3230e7741c53"), looks := true }, kinds := [], alts := [], laidByText := true, laidKinds := [.sentinel], laidTests := true, laidLooks := .later }
def FnExactGroupOrderCardSaid : Prop := Claim7.holds Tryd.pinned (.plain (OpenSpec.ofChange fnExactGroupOrderSpec)) fnExactGroupOrderCard

/-- THE TIED CARD OF 'laws.FnExactLeadingForm'. -/
def fnExactLeadingFormCard : Claim7 := { stood := { row := fnExactLeadingFormRow, standIns := [], harness := (true, "1169d3e8d41df5607a55a43d6b9d14cf30be91ce67d673f2de1a3230e7741c53"), looks := true }, kinds := [], alts := [], laidByText := true, laidKinds := [.sentinel], laidTests := true, laidLooks := .later }
def FnExactLeadingFormCardSaid : Prop := Claim7.holds Tryd.pinned (.plain (OpenSpec.ofChange fnExactLeadingFormSpec)) fnExactLeadingFormCard

/-- THE TIED CARD OF 'laws.FnExactIdealNumbers'. -/
def fnExactIdealNumbersCard : Claim7 := { stood := { row := fnExactIdealNumbersRow, standIns := [], harness := (true, "1169d3e8d41df5607a55a43d6b9d14cf30be91ce67d673f2de1a3230e7741c53"), looks := true }, kinds := [], alts := [], laidByText := true, laidKinds := [.sentinel], laidTests := true, laidLooks := .later }
def FnExactIdealNumbersCardSaid : Prop := Claim7.holds Tryd.pinned (.plain (OpenSpec.ofChange fnExactIdealNumbersSpec)) fnExactIdealNumbersCard

/-- THE TIED CARD OF 'laws.FnExactSumOfIdeals'. -/
def fnExactSumOfIdealsCard : Claim7 := { stood := { row := fnExactSumOfIdealsRow, standIns := [], harness := (true, "1169d3e8d41df5607a55a43d6b9d14cf30be91ce67d673f2de1a3230e7741c53"), looks := true }, kinds := [], alts := [], laidByText := true, laidKinds := [.sentinel], laidTests := true, laidLooks := .later }
def FnExactSumOfIdealsCardSaid : Prop := Claim7.holds Tryd.pinned (.plain (OpenSpec.ofChange fnExactSumOfIdealsSpec)) fnExactSumOfIdealsCard

/-- THE TIED CARD OF 'laws.FnExactCountKinds'. -/
def fnExactCountKindsCard : Claim7 := { stood := { row := fnExactCountKindsRow, standIns := [], harness := (true, "1169d3e8d41df5607a55a43d6b9d14cf30be91ce67d673f2de1a3230e7741c53"), looks := true }, kinds := [], alts := [], laidByText := true, laidKinds := [.sentinel], laidTests := true, laidLooks := .later }
def FnExactCountKindsCardSaid : Prop := Claim7.holds Tryd.pinned (.plain (OpenSpec.ofChange fnExactCountKindsSpec)) fnExactCountKindsCard

/-- THE TIED CARD OF 'laws.FnExactKindByCharacter'. -/
def fnExactKindByCharacterCard : Claim7 := { stood := { row := fnExactKindByCharacterRow, standIns := [], harness := (true, "1169d3e8d41df5607a55a43d6b9d14cf30be91ce67d673f2de1a3230e7741c53"), looks := true }, kinds := [], alts := [], laidByText := true, laidKinds := [.sentinel], laidTests := true, laidLooks := .later }
def FnExactKindByCharacterCardSaid : Prop := Claim7.holds Tryd.pinned (.plain (OpenSpec.ofChange fnExactKindByCharacterSpec)) fnExactKindByCharacterCard

/-- THE TIED CARD OF 'laws.FnExactIsPure'. -/
def fnExactIsPureCard : Claim7 := { stood := { row := fnExactIsPureRow, standIns := [], harness := (true, "1169d3e8d41df5607a55a43d6b9d14cf30be91ce67d673f2de1a3230e7741c53"), looks := true }, kinds := [], alts := [], laidByText := true, laidKinds := [.sentinel], laidTests := true, laidLooks := .later }
def FnExactIsPureCardSaid : Prop := Claim7.holds Tryd.pinned (.plain (OpenSpec.ofChange fnExactIsPureSpec)) fnExactIsPureCard

/-- THE SECOND FORM's CARD OF 'laws.FnExactSignatureOf'. -/
def fnExactSignatureOfUptoCard : Claim7 := { stood := { row := fnExactSignatureOfUptoRow, standIns := [], harness := (true, "1169d3e8d41df5607a55a43d6b9d14cf30be91ce67d673f2de1a3230e7741c53"), looks := true }, kinds := [], alts := [], laidByText := true, laidKinds := [.sentinel], laidTests := true, laidLooks := .later }
def FnExactSignatureOfUptoCardSaid : Prop := Claim7.holds Tryd.pinned (.plain (OpenSpec.upto fnExactSignatureOfSpec)) fnExactSignatureOfUptoCard

/-- THE SECOND FORM's CARD OF 'laws.FnExactGroupOrder'. -/
def fnExactGroupOrderUptoCard : Claim7 := { stood := { row := fnExactGroupOrderUptoRow, standIns := [], harness := (true, "1169d3e8d41df5607a55a43d6b9d14cf30be91ce67d673f2de1a3230e7741c53"), looks := true }, kinds := [], alts := [], laidByText := true, laidKinds := [.sentinel], laidTests := true, laidLooks := .later }
def FnExactGroupOrderUptoCardSaid : Prop := Claim7.holds Tryd.pinned (.plain (OpenSpec.upto fnExactGroupOrderSpec)) fnExactGroupOrderUptoCard

/-- THE SECOND FORM's CARD OF 'laws.FnExactLeadingForm'. -/
def fnExactLeadingFormUptoCard : Claim7 := { stood := { row := fnExactLeadingFormUptoRow, standIns := [], harness := (true, "1169d3e8d41df5607a55a43d6b9d14cf30be91ce67d673f2de1a3230e7741c53"), looks := true }, kinds := [], alts := [], laidByText := true, laidKinds := [.sentinel], laidTests := true, laidLooks := .later }
def FnExactLeadingFormUptoCardSaid : Prop := Claim7.holds Tryd.pinned (.plain (OpenSpec.upto fnExactLeadingFormSpec)) fnExactLeadingFormUptoCard

/-- THE SECOND FORM's CARD OF 'laws.FnExactIdealNumbers'. -/
def fnExactIdealNumbersUptoCard : Claim7 := { stood := { row := fnExactIdealNumbersUptoRow, standIns := [], harness := (true, "1169d3e8d41df5607a55a43d6b9d14cf30be91ce67d673f2de1a3230e7741c53"), looks := true }, kinds := [], alts := [], laidByText := true, laidKinds := [.sentinel], laidTests := true, laidLooks := .later }
def FnExactIdealNumbersUptoCardSaid : Prop := Claim7.holds Tryd.pinned (.plain (OpenSpec.upto fnExactIdealNumbersSpec)) fnExactIdealNumbersUptoCard

/-- THE SECOND FORM's CARD OF 'laws.FnExactSumOfIdeals'. -/
def fnExactSumOfIdealsUptoCard : Claim7 := { stood := { row := fnExactSumOfIdealsUptoRow, standIns := [], harness := (true, "1169d3e8d41df5607a55a43d6b9d14cf30be91ce67d673f2de1a3230e7741c53"), looks := true }, kinds := [], alts := [], laidByText := true, laidKinds := [.sentinel], laidTests := true, laidLooks := .later }
def FnExactSumOfIdealsUptoCardSaid : Prop := Claim7.holds Tryd.pinned (.plain (OpenSpec.upto fnExactSumOfIdealsSpec)) fnExactSumOfIdealsUptoCard

/-- THE SECOND FORM's CARD OF 'laws.FnExactCountKinds'. -/
def fnExactCountKindsUptoCard : Claim7 := { stood := { row := fnExactCountKindsUptoRow, standIns := [], harness := (true, "1169d3e8d41df5607a55a43d6b9d14cf30be91ce67d673f2de1a3230e7741c53"), looks := true }, kinds := [], alts := [], laidByText := true, laidKinds := [.sentinel], laidTests := true, laidLooks := .later }
def FnExactCountKindsUptoCardSaid : Prop := Claim7.holds Tryd.pinned (.plain (OpenSpec.upto fnExactCountKindsSpec)) fnExactCountKindsUptoCard

/-- THE SECOND FORM's CARD OF 'laws.FnExactKindByCharacter'. -/
def fnExactKindByCharacterUptoCard : Claim7 := { stood := { row := fnExactKindByCharacterUptoRow, standIns := [], harness := (true, "1169d3e8d41df5607a55a43d6b9d14cf30be91ce67d673f2de1a3230e7741c53"), looks := true }, kinds := [], alts := [], laidByText := true, laidKinds := [.sentinel], laidTests := true, laidLooks := .later }
def FnExactKindByCharacterUptoCardSaid : Prop := Claim7.holds Tryd.pinned (.plain (OpenSpec.upto fnExactKindByCharacterSpec)) fnExactKindByCharacterUptoCard

/-- THE SECOND FORM's CARD OF 'laws.FnExactIsPure'. -/
def fnExactIsPureUptoCard : Claim7 := { stood := { row := fnExactIsPureUptoRow, standIns := [], harness := (true, "1169d3e8d41df5607a55a43d6b9d14cf30be91ce67d673f2de1a3230e7741c53"), looks := true }, kinds := [], alts := [], laidByText := true, laidKinds := [.sentinel], laidTests := true, laidLooks := .later }
def FnExactIsPureUptoCardSaid : Prop := Claim7.holds Tryd.pinned (.plain (OpenSpec.upto fnExactIsPureSpec)) fnExactIsPureUptoCard
end Rows
end Go.Proofs.YtgflkgabofilcaaDoor
