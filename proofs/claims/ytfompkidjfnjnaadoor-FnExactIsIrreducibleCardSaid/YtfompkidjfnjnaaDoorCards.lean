/-
  DERIVED. GIVEN WITH THE SEED: THE CARDS: each row of YtfompkidjfnjnaaDoorRows.lean that lists a variable, with what it lists TIED to the program's text (the seventh form; the later family's looks); each row that meets fmt, with fmt's text TOLD by the authors' own Lean function (tested against real Go, not proved from fmt's source: count such statements apart). THE CARD IS WHAT COUNTS. Prove the row's statement (the work); the ties are given (YtfompkidjfnjnaaDoorTie.lean); close each card by the builder's one call (the guide's Derived/Test/ToyasCard.lean, 'card_holds'). Laid BY PROGRAM, IN A SANDBOX (cutbox-door.mjs). By AI agents, Wed Nov 11 2026. No macro, syntax, notation, axiom, sorry.
-/
import Derived.Test.YtfompkidjfnjnaaDoorRows
import GoSem.ClaimSeven
namespace Go.Proofs.YtfompkidjfnjnaaDoor
namespace Rows

/-- THE TIED CARD OF 'laws.FnExactRootsModulo'. -/
def fnExactRootsModuloCard : Claim7 := { stood := { row := fnExactRootsModuloRow, standIns := [], harness := (true, "8f8a15732eb5ee43f38939402dd8081bfd3190401d2e796459287b9f9ee02aac"), looks := true }, kinds := [], alts := [], laidByText := true, laidKinds := [.sentinel], laidTests := true, laidLooks := .later }
def FnExactRootsModuloCardSaid : Prop := Claim7.holds Tryd.pinned (.plain (OpenSpec.ofChange fnExactRootsModuloSpec)) fnExactRootsModuloCard

/-- THE TIED CARD OF 'laws.FnExactKindModulo'. -/
def fnExactKindModuloCard : Claim7 := { stood := { row := fnExactKindModuloRow, standIns := [], harness := (true, "8f8a15732eb5ee43f38939402dd8081bfd3190401d2e796459287b9f9ee02aac"), looks := true }, kinds := [], alts := [], laidByText := true, laidKinds := [.sentinel], laidTests := true, laidLooks := .later }
def FnExactKindModuloCardSaid : Prop := Claim7.holds Tryd.pinned (.plain (OpenSpec.ofChange fnExactKindModuloSpec)) fnExactKindModuloCard

/-- THE TIED CARD OF 'laws.FnExactRationalRoots'. -/
def fnExactRationalRootsCard : Claim7 := { stood := { row := fnExactRationalRootsRow, standIns := [], harness := (true, "8f8a15732eb5ee43f38939402dd8081bfd3190401d2e796459287b9f9ee02aac"), looks := true }, kinds := [], alts := [], laidByText := true, laidKinds := [.sentinel], laidTests := true, laidLooks := .later }
def FnExactRationalRootsCardSaid : Prop := Claim7.holds Tryd.pinned (.plain (OpenSpec.ofChange fnExactRationalRootsSpec)) fnExactRationalRootsCard

/-- THE TIED CARD OF 'laws.FnExactIsIrreducible'. -/
def fnExactIsIrreducibleCard : Claim7 := { stood := { row := fnExactIsIrreducibleRow, standIns := [], harness := (true, "8f8a15732eb5ee43f38939402dd8081bfd3190401d2e796459287b9f9ee02aac"), looks := true }, kinds := [], alts := [], laidByText := true, laidKinds := [.sentinel], laidTests := true, laidLooks := .later }
def FnExactIsIrreducibleCardSaid : Prop := Claim7.holds Tryd.pinned (.plain (OpenSpec.ofChange fnExactIsIrreducibleSpec)) fnExactIsIrreducibleCard

/-- THE TIED CARD OF 'laws.FnExactFactorForm'. -/
def fnExactFactorFormCard : Claim7 := { stood := { row := fnExactFactorFormRow, standIns := [], harness := (true, "8f8a15732eb5ee43f38939402dd8081bfd3190401d2e796459287b9f9ee02aac"), looks := true }, kinds := [], alts := [], laidByText := true, laidKinds := [.sentinel], laidTests := true, laidLooks := .later }
def FnExactFactorFormCardSaid : Prop := Claim7.holds Tryd.pinned (.plain (OpenSpec.ofChange fnExactFactorFormSpec)) fnExactFactorFormCard

/-- THE TIED CARD OF 'laws.FnExactKindsUpTo'. -/
def fnExactKindsUpToCard : Claim7 := { stood := { row := fnExactKindsUpToRow, standIns := [], harness := (true, "8f8a15732eb5ee43f38939402dd8081bfd3190401d2e796459287b9f9ee02aac"), looks := true }, kinds := [], alts := [], laidByText := true, laidKinds := [.sentinel], laidTests := true, laidLooks := .later }
def FnExactKindsUpToCardSaid : Prop := Claim7.holds Tryd.pinned (.plain (OpenSpec.ofChange fnExactKindsUpToSpec)) fnExactKindsUpToCard

/-- THE TIED CARD OF 'laws.FnExactCountRoots'. -/
def fnExactCountRootsCard : Claim7 := { stood := { row := fnExactCountRootsRow, standIns := [], harness := (true, "8f8a15732eb5ee43f38939402dd8081bfd3190401d2e796459287b9f9ee02aac"), looks := true }, kinds := [], alts := [], laidByText := true, laidKinds := [.sentinel], laidTests := true, laidLooks := .later }
def FnExactCountRootsCardSaid : Prop := Claim7.holds Tryd.pinned (.plain (OpenSpec.ofChange fnExactCountRootsSpec)) fnExactCountRootsCard

/-- THE TIED CARD OF 'laws.FnExactInverseElem'. -/
def fnExactInverseElemCard : Claim7 := { stood := { row := fnExactInverseElemRow, standIns := [], harness := (true, "8f8a15732eb5ee43f38939402dd8081bfd3190401d2e796459287b9f9ee02aac"), looks := true }, kinds := [], alts := [], laidByText := true, laidKinds := [.sentinel], laidTests := true, laidLooks := .later }
def FnExactInverseElemCardSaid : Prop := Claim7.holds Tryd.pinned (.plain (OpenSpec.ofChange fnExactInverseElemSpec)) fnExactInverseElemCard

/-- THE SECOND FORM's CARD OF 'laws.FnExactRootsModulo'. -/
def fnExactRootsModuloUptoCard : Claim7 := { stood := { row := fnExactRootsModuloUptoRow, standIns := [], harness := (true, "8f8a15732eb5ee43f38939402dd8081bfd3190401d2e796459287b9f9ee02aac"), looks := true }, kinds := [], alts := [], laidByText := true, laidKinds := [.sentinel], laidTests := true, laidLooks := .later }
def FnExactRootsModuloUptoCardSaid : Prop := Claim7.holds Tryd.pinned (.plain (OpenSpec.upto fnExactRootsModuloSpec)) fnExactRootsModuloUptoCard

/-- THE SECOND FORM's CARD OF 'laws.FnExactKindModulo'. -/
def fnExactKindModuloUptoCard : Claim7 := { stood := { row := fnExactKindModuloUptoRow, standIns := [], harness := (true, "8f8a15732eb5ee43f38939402dd8081bfd3190401d2e796459287b9f9ee02aac"), looks := true }, kinds := [], alts := [], laidByText := true, laidKinds := [.sentinel], laidTests := true, laidLooks := .later }
def FnExactKindModuloUptoCardSaid : Prop := Claim7.holds Tryd.pinned (.plain (OpenSpec.upto fnExactKindModuloSpec)) fnExactKindModuloUptoCard

/-- THE SECOND FORM's CARD OF 'laws.FnExactRationalRoots'. -/
def fnExactRationalRootsUptoCard : Claim7 := { stood := { row := fnExactRationalRootsUptoRow, standIns := [], harness := (true, "8f8a15732eb5ee43f38939402dd8081bfd3190401d2e796459287b9f9ee02aac"), looks := true }, kinds := [], alts := [], laidByText := true, laidKinds := [.sentinel], laidTests := true, laidLooks := .later }
def FnExactRationalRootsUptoCardSaid : Prop := Claim7.holds Tryd.pinned (.plain (OpenSpec.upto fnExactRationalRootsSpec)) fnExactRationalRootsUptoCard

/-- THE SECOND FORM's CARD OF 'laws.FnExactIsIrreducible'. -/
def fnExactIsIrreducibleUptoCard : Claim7 := { stood := { row := fnExactIsIrreducibleUptoRow, standIns := [], harness := (true, "8f8a15732eb5ee43f38939402dd8081bfd3190401d2e796459287b9f9ee02aac"), looks := true }, kinds := [], alts := [], laidByText := true, laidKinds := [.sentinel], laidTests := true, laidLooks := .later }
def FnExactIsIrreducibleUptoCardSaid : Prop := Claim7.holds Tryd.pinned (.plain (OpenSpec.upto fnExactIsIrreducibleSpec)) fnExactIsIrreducibleUptoCard

/-- THE SECOND FORM's CARD OF 'laws.FnExactFactorForm'. -/
def fnExactFactorFormUptoCard : Claim7 := { stood := { row := fnExactFactorFormUptoRow, standIns := [], harness := (true, "8f8a15732eb5ee43f38939402dd8081bfd3190401d2e796459287b9f9ee02aac"), looks := true }, kinds := [], alts := [], laidByText := true, laidKinds := [.sentinel], laidTests := true, laidLooks := .later }
def FnExactFactorFormUptoCardSaid : Prop := Claim7.holds Tryd.pinned (.plain (OpenSpec.upto fnExactFactorFormSpec)) fnExactFactorFormUptoCard

/-- THE SECOND FORM's CARD OF 'laws.FnExactKindsUpTo'. -/
def fnExactKindsUpToUptoCard : Claim7 := { stood := { row := fnExactKindsUpToUptoRow, standIns := [], harness := (true, "8f8a15732eb5ee43f38939402dd8081bfd3190401d2e796459287b9f9ee02aac"), looks := true }, kinds := [], alts := [], laidByText := true, laidKinds := [.sentinel], laidTests := true, laidLooks := .later }
def FnExactKindsUpToUptoCardSaid : Prop := Claim7.holds Tryd.pinned (.plain (OpenSpec.upto fnExactKindsUpToSpec)) fnExactKindsUpToUptoCard

/-- THE SECOND FORM's CARD OF 'laws.FnExactCountRoots'. -/
def fnExactCountRootsUptoCard : Claim7 := { stood := { row := fnExactCountRootsUptoRow, standIns := [], harness := (true, "8f8a15732eb5ee43f38939402dd8081bfd3190401d2e796459287b9f9ee02aac"), looks := true }, kinds := [], alts := [], laidByText := true, laidKinds := [.sentinel], laidTests := true, laidLooks := .later }
def FnExactCountRootsUptoCardSaid : Prop := Claim7.holds Tryd.pinned (.plain (OpenSpec.upto fnExactCountRootsSpec)) fnExactCountRootsUptoCard

/-- THE SECOND FORM's CARD OF 'laws.FnExactInverseElem'. -/
def fnExactInverseElemUptoCard : Claim7 := { stood := { row := fnExactInverseElemUptoRow, standIns := [], harness := (true, "8f8a15732eb5ee43f38939402dd8081bfd3190401d2e796459287b9f9ee02aac"), looks := true }, kinds := [], alts := [], laidByText := true, laidKinds := [.sentinel], laidTests := true, laidLooks := .later }
def FnExactInverseElemUptoCardSaid : Prop := Claim7.holds Tryd.pinned (.plain (OpenSpec.upto fnExactInverseElemSpec)) fnExactInverseElemUptoCard
end Rows
end Go.Proofs.YtfompkidjfnjnaaDoor
