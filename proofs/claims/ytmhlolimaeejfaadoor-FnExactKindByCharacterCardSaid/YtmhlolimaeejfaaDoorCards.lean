/-
  DERIVED. GIVEN WITH THE SEED: THE CARDS: each row of YtmhlolimaeejfaaDoorRows.lean that lists a variable, with what it lists TIED to the program's text (the seventh form; the later family's looks); each row that meets fmt, with fmt's text TOLD by the authors' own Lean function (tested against real Go, not proved from fmt's source: count such statements apart). THE CARD IS WHAT COUNTS. Prove the row's statement (the work); the ties are given (YtmhlolimaeejfaaDoorTie.lean); close each card by the builder's one call (the guide's Derived/Test/ToyasCard.lean, 'card_holds'). Laid BY PROGRAM, IN A SANDBOX (cutbox-door.mjs). By AI agents, Wed Nov 11 2026. No macro, syntax, notation, axiom, sorry.
-/
import Derived.Test.YtmhlolimaeejfaaDoorRows
import GoSem.ClaimSeven
namespace Go.Proofs.YtmhlolimaeejfaaDoor
namespace Rows

/-- THE TIED CARD OF 'laws.FnExactRootsModulo'. -/
def fnExactRootsModuloCard : Claim7 := { stood := { row := fnExactRootsModuloRow, standIns := [], harness := (true, "a451aa7745c24fe0bb65e591831b810621cb1e28a5aaa9c5d0facaa22253dada"), looks := true }, kinds := [], alts := [], laidByText := true, laidKinds := [.sentinel], laidTests := true, laidLooks := .later }
def FnExactRootsModuloCardSaid : Prop := Claim7.holds Tryd.pinned (.plain (OpenSpec.ofChange fnExactRootsModuloSpec)) fnExactRootsModuloCard

/-- THE TIED CARD OF 'laws.FnExactKindModulo'. -/
def fnExactKindModuloCard : Claim7 := { stood := { row := fnExactKindModuloRow, standIns := [], harness := (true, "a451aa7745c24fe0bb65e591831b810621cb1e28a5aaa9c5d0facaa22253dada"), looks := true }, kinds := [], alts := [], laidByText := true, laidKinds := [.sentinel], laidTests := true, laidLooks := .later }
def FnExactKindModuloCardSaid : Prop := Claim7.holds Tryd.pinned (.plain (OpenSpec.ofChange fnExactKindModuloSpec)) fnExactKindModuloCard

/-- THE TIED CARD OF 'laws.FnExactCountRoots'. -/
def fnExactCountRootsCard : Claim7 := { stood := { row := fnExactCountRootsRow, standIns := [], harness := (true, "a451aa7745c24fe0bb65e591831b810621cb1e28a5aaa9c5d0facaa22253dada"), looks := true }, kinds := [], alts := [], laidByText := true, laidKinds := [.sentinel], laidTests := true, laidLooks := .later }
def FnExactCountRootsCardSaid : Prop := Claim7.holds Tryd.pinned (.plain (OpenSpec.ofChange fnExactCountRootsSpec)) fnExactCountRootsCard

/-- THE TIED CARD OF 'laws.FnExactKindsUpTo'. -/
def fnExactKindsUpToCard : Claim7 := { stood := { row := fnExactKindsUpToRow, standIns := [], harness := (true, "a451aa7745c24fe0bb65e591831b810621cb1e28a5aaa9c5d0facaa22253dada"), looks := true }, kinds := [], alts := [], laidByText := true, laidKinds := [.sentinel], laidTests := true, laidLooks := .later }
def FnExactKindsUpToCardSaid : Prop := Claim7.holds Tryd.pinned (.plain (OpenSpec.ofChange fnExactKindsUpToSpec)) fnExactKindsUpToCard

/-- THE TIED CARD OF 'laws.FnExactKindByCharacter'. -/
def fnExactKindByCharacterCard : Claim7 := { stood := { row := fnExactKindByCharacterRow, standIns := [], harness := (true, "a451aa7745c24fe0bb65e591831b810621cb1e28a5aaa9c5d0facaa22253dada"), looks := true }, kinds := [], alts := [], laidByText := true, laidKinds := [.sentinel], laidTests := true, laidLooks := .later }
def FnExactKindByCharacterCardSaid : Prop := Claim7.holds Tryd.pinned (.plain (OpenSpec.ofChange fnExactKindByCharacterSpec)) fnExactKindByCharacterCard

/-- THE SECOND FORM's CARD OF 'laws.FnExactRootsModulo'. -/
def fnExactRootsModuloUptoCard : Claim7 := { stood := { row := fnExactRootsModuloUptoRow, standIns := [], harness := (true, "a451aa7745c24fe0bb65e591831b810621cb1e28a5aaa9c5d0facaa22253dada"), looks := true }, kinds := [], alts := [], laidByText := true, laidKinds := [.sentinel], laidTests := true, laidLooks := .later }
def FnExactRootsModuloUptoCardSaid : Prop := Claim7.holds Tryd.pinned (.plain (OpenSpec.upto fnExactRootsModuloSpec)) fnExactRootsModuloUptoCard

/-- THE SECOND FORM's CARD OF 'laws.FnExactKindModulo'. -/
def fnExactKindModuloUptoCard : Claim7 := { stood := { row := fnExactKindModuloUptoRow, standIns := [], harness := (true, "a451aa7745c24fe0bb65e591831b810621cb1e28a5aaa9c5d0facaa22253dada"), looks := true }, kinds := [], alts := [], laidByText := true, laidKinds := [.sentinel], laidTests := true, laidLooks := .later }
def FnExactKindModuloUptoCardSaid : Prop := Claim7.holds Tryd.pinned (.plain (OpenSpec.upto fnExactKindModuloSpec)) fnExactKindModuloUptoCard

/-- THE SECOND FORM's CARD OF 'laws.FnExactCountRoots'. -/
def fnExactCountRootsUptoCard : Claim7 := { stood := { row := fnExactCountRootsUptoRow, standIns := [], harness := (true, "a451aa7745c24fe0bb65e591831b810621cb1e28a5aaa9c5d0facaa22253dada"), looks := true }, kinds := [], alts := [], laidByText := true, laidKinds := [.sentinel], laidTests := true, laidLooks := .later }
def FnExactCountRootsUptoCardSaid : Prop := Claim7.holds Tryd.pinned (.plain (OpenSpec.upto fnExactCountRootsSpec)) fnExactCountRootsUptoCard

/-- THE SECOND FORM's CARD OF 'laws.FnExactKindsUpTo'. -/
def fnExactKindsUpToUptoCard : Claim7 := { stood := { row := fnExactKindsUpToUptoRow, standIns := [], harness := (true, "a451aa7745c24fe0bb65e591831b810621cb1e28a5aaa9c5d0facaa22253dada"), looks := true }, kinds := [], alts := [], laidByText := true, laidKinds := [.sentinel], laidTests := true, laidLooks := .later }
def FnExactKindsUpToUptoCardSaid : Prop := Claim7.holds Tryd.pinned (.plain (OpenSpec.upto fnExactKindsUpToSpec)) fnExactKindsUpToUptoCard

/-- THE SECOND FORM's CARD OF 'laws.FnExactKindByCharacter'. -/
def fnExactKindByCharacterUptoCard : Claim7 := { stood := { row := fnExactKindByCharacterUptoRow, standIns := [], harness := (true, "a451aa7745c24fe0bb65e591831b810621cb1e28a5aaa9c5d0facaa22253dada"), looks := true }, kinds := [], alts := [], laidByText := true, laidKinds := [.sentinel], laidTests := true, laidLooks := .later }
def FnExactKindByCharacterUptoCardSaid : Prop := Claim7.holds Tryd.pinned (.plain (OpenSpec.upto fnExactKindByCharacterSpec)) fnExactKindByCharacterUptoCard
end Rows
end Go.Proofs.YtmhlolimaeejfaaDoor
