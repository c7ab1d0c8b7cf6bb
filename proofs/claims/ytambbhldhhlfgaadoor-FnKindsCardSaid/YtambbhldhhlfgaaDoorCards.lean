/-
  DERIVED. GIVEN WITH THE SEED: THE CARDS: each row of YtambbhldhhlfgaaDoorRows.lean that lists a variable, with what it lists TIED to the program's text (the seventh form; the later family's looks); each row that meets fmt, with fmt's text TOLD by the authors' own Lean function (tested against real Go, not proved from fmt's source: count such statements apart). THE CARD IS WHAT COUNTS. Prove the row's statement (the work); the ties are given (YtambbhldhhlfgaaDoorTie.lean); close each card by the builder's one call (the guide's Derived/Test/ToyasCard.lean, 'card_holds'). Laid BY PROGRAM, IN A SANDBOX (cutbox-door.mjs). By AI agents, Wed Nov 11 2026. No macro, syntax, notation, axiom, sorry.
-/
import Derived.Test.YtambbhldhhlfgaaDoorRows
import GoSem.ClaimSeven
namespace Go.Proofs.YtambbhldhhlfgaaDoor
namespace Rows

/-- THE TIED CARD OF 'laws.FnRaised'. -/
def fnRaisedCard : Claim7 := { stood := { row := fnRaisedRow, standIns := [], harness := (true, "3be75d20f7be5ef288c4d4b7cdee6729cd7017bd3953119b95a2fa0e8dbcdcc6"), looks := true }, kinds := [], alts := [], laidByText := true, laidKinds := [.sentinel], laidTests := true, laidLooks := .later }
def FnRaisedCardSaid : Prop := Claim7.holds Tryd.pinned (.plain (OpenSpec.ofChange fnRaisedSpec)) fnRaisedCard

/-- THE TIED CARD OF 'laws.FnRingTables'. -/
def fnRingTablesCard : Claim7 := { stood := { row := fnRingTablesRow, standIns := [], harness := (true, "3be75d20f7be5ef288c4d4b7cdee6729cd7017bd3953119b95a2fa0e8dbcdcc6"), looks := true }, kinds := [], alts := [], laidByText := true, laidKinds := [.sentinel], laidTests := true, laidLooks := .later }
def FnRingTablesCardSaid : Prop := Claim7.holds Tryd.pinned (.plain (OpenSpec.ofChange fnRingTablesSpec)) fnRingTablesCard

/-- THE TIED CARD OF 'laws.FnPromiseOfAll'. -/
def fnPromiseOfAllCard : Claim7 := { stood := { row := fnPromiseOfAllRow, standIns := [], harness := (true, "3be75d20f7be5ef288c4d4b7cdee6729cd7017bd3953119b95a2fa0e8dbcdcc6"), looks := true }, kinds := [], alts := [], laidByText := true, laidKinds := [.sentinel], laidTests := true, laidLooks := .later }
def FnPromiseOfAllCardSaid : Prop := Claim7.holds Tryd.pinned (.plain (OpenSpec.ofChange fnPromiseOfAllSpec)) fnPromiseOfAllCard

/-- THE TIED CARD OF 'laws.FnKinds'. -/
def fnKindsCard : Claim7 := { stood := { row := fnKindsRow, standIns := [], harness := (true, "3be75d20f7be5ef288c4d4b7cdee6729cd7017bd3953119b95a2fa0e8dbcdcc6"), looks := true }, kinds := [], alts := [], laidByText := true, laidKinds := [.sentinel], laidTests := true, laidLooks := .later }
def FnKindsCardSaid : Prop := Claim7.holds Tryd.pinned (.plain (OpenSpec.ofChange fnKindsSpec)) fnKindsCard

/-- THE SECOND FORM's CARD OF 'laws.FnRaised'. -/
def fnRaisedUptoCard : Claim7 := { stood := { row := fnRaisedUptoRow, standIns := [], harness := (true, "3be75d20f7be5ef288c4d4b7cdee6729cd7017bd3953119b95a2fa0e8dbcdcc6"), looks := true }, kinds := [], alts := [], laidByText := true, laidKinds := [.sentinel], laidTests := true, laidLooks := .later }
def FnRaisedUptoCardSaid : Prop := Claim7.holds Tryd.pinned (.plain (OpenSpec.upto fnRaisedSpec)) fnRaisedUptoCard

/-- THE SECOND FORM's CARD OF 'laws.FnRingTables'. -/
def fnRingTablesUptoCard : Claim7 := { stood := { row := fnRingTablesUptoRow, standIns := [], harness := (true, "3be75d20f7be5ef288c4d4b7cdee6729cd7017bd3953119b95a2fa0e8dbcdcc6"), looks := true }, kinds := [], alts := [], laidByText := true, laidKinds := [.sentinel], laidTests := true, laidLooks := .later }
def FnRingTablesUptoCardSaid : Prop := Claim7.holds Tryd.pinned (.plain (OpenSpec.upto fnRingTablesSpec)) fnRingTablesUptoCard

/-- THE SECOND FORM's CARD OF 'laws.FnPromiseOfAll'. -/
def fnPromiseOfAllUptoCard : Claim7 := { stood := { row := fnPromiseOfAllUptoRow, standIns := [], harness := (true, "3be75d20f7be5ef288c4d4b7cdee6729cd7017bd3953119b95a2fa0e8dbcdcc6"), looks := true }, kinds := [], alts := [], laidByText := true, laidKinds := [.sentinel], laidTests := true, laidLooks := .later }
def FnPromiseOfAllUptoCardSaid : Prop := Claim7.holds Tryd.pinned (.plain (OpenSpec.upto fnPromiseOfAllSpec)) fnPromiseOfAllUptoCard

/-- THE SECOND FORM's CARD OF 'laws.FnKinds'. -/
def fnKindsUptoCard : Claim7 := { stood := { row := fnKindsUptoRow, standIns := [], harness := (true, "3be75d20f7be5ef288c4d4b7cdee6729cd7017bd3953119b95a2fa0e8dbcdcc6"), looks := true }, kinds := [], alts := [], laidByText := true, laidKinds := [.sentinel], laidTests := true, laidLooks := .later }
def FnKindsUptoCardSaid : Prop := Claim7.holds Tryd.pinned (.plain (OpenSpec.upto fnKindsSpec)) fnKindsUptoCard
end Rows
end Go.Proofs.YtambbhldhhlfgaaDoor
