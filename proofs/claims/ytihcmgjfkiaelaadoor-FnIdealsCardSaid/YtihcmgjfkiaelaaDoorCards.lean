/-
  DERIVED. GIVEN WITH THE SEED: THE CARDS: each row of YtihcmgjfkiaelaaDoorRows.lean that lists a variable, with what it lists TIED to the program's text (the seventh form; the later family's looks); each row that meets fmt, with fmt's text TOLD by the authors' own Lean function (tested against real Go, not proved from fmt's source: count such statements apart). THE CARD IS WHAT COUNTS. Prove the row's statement (the work); the ties are given (YtihcmgjfkiaelaaDoorTie.lean); close each card by the builder's one call (the guide's Derived/Test/ToyasCard.lean, 'card_holds'). Laid BY PROGRAM, IN A SANDBOX (cutbox-door.mjs). By AI agents, Wed Nov 11 2026. No macro, syntax, notation, axiom, sorry.
-/
import Derived.Test.YtihcmgjfkiaelaaDoorRows
import GoSem.ClaimSeven
namespace Go.Proofs.YtihcmgjfkiaelaaDoor
namespace Rows

/-- THE TIED CARD OF 'laws.FnFieldKinds'. -/
def fnFieldKindsCard : Claim7 := { stood := { row := fnFieldKindsRow, standIns := [], harness := (true, "5b3b9dabc7c913057930f960b26d218835c99397774475c9c64a93778a998715"), looks := true }, kinds := [], alts := [], laidByText := true, laidKinds := [.sentinel], laidTests := true, laidLooks := .later }
def FnFieldKindsCardSaid : Prop := Claim7.holds Tryd.pinned (.plain (OpenSpec.ofChange fnFieldKindsSpec)) fnFieldKindsCard

/-- THE TIED CARD OF 'laws.FnIdeals'. -/
def fnIdealsCard : Claim7 := { stood := { row := fnIdealsRow, standIns := [], harness := (true, "5b3b9dabc7c913057930f960b26d218835c99397774475c9c64a93778a998715"), looks := true }, kinds := [], alts := [], laidByText := true, laidKinds := [.sentinel], laidTests := true, laidLooks := .later }
def FnIdealsCardSaid : Prop := Claim7.holds Tryd.pinned (.plain (OpenSpec.ofChange fnIdealsSpec)) fnIdealsCard

/-- THE SECOND FORM's CARD OF 'laws.FnFieldKinds'. -/
def fnFieldKindsUptoCard : Claim7 := { stood := { row := fnFieldKindsUptoRow, standIns := [], harness := (true, "5b3b9dabc7c913057930f960b26d218835c99397774475c9c64a93778a998715"), looks := true }, kinds := [], alts := [], laidByText := true, laidKinds := [.sentinel], laidTests := true, laidLooks := .later }
def FnFieldKindsUptoCardSaid : Prop := Claim7.holds Tryd.pinned (.plain (OpenSpec.upto fnFieldKindsSpec)) fnFieldKindsUptoCard

/-- THE SECOND FORM's CARD OF 'laws.FnIdeals'. -/
def fnIdealsUptoCard : Claim7 := { stood := { row := fnIdealsUptoRow, standIns := [], harness := (true, "5b3b9dabc7c913057930f960b26d218835c99397774475c9c64a93778a998715"), looks := true }, kinds := [], alts := [], laidByText := true, laidKinds := [.sentinel], laidTests := true, laidLooks := .later }
def FnIdealsUptoCardSaid : Prop := Claim7.holds Tryd.pinned (.plain (OpenSpec.upto fnIdealsSpec)) fnIdealsUptoCard
end Rows
end Go.Proofs.YtihcmgjfkiaelaaDoor
