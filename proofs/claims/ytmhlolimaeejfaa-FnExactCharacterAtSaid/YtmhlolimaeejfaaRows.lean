/-
  No cell of these rows narrows 'for every input' (looked for: loops, veiled, ifaces, maps, wideKeys, modest, calm, conditions, laid).
  DERIVED. THE GIVEN ROWS OF THIS SEAT. 15 by the template 'for every input the law returns true; each argument reads behind the call as it read before'; 0 by the template 'total and deterministic' (their statements: YtmhlolimaeejfaaTotals.lean).
  GIVEN WITH THE SEED: the statements are not yours to turn. If you find one false, say at which input.
  Laid BY PROGRAM, IN A SANDBOX (cutbox-rows.mjs): the forced cells as the released guide's own fill.sh prints them over the translation 4fa2492c84ca9595… (all of the seat's roots in one cut). By AI agents, Wed Nov 11 2026. No macro, syntax, notation, axiom, sorry.
-/
import Derived.Test.YtmhlolimaeejfaaChecked
import GoSem.Claim
import GoSem.ClaimJoined
import GoSem.ClaimMapViews
import Derived.JoinedTies
import Derived.KernelRfl
namespace Go.Proofs.Ytmhlolimaeejfaa
/- THE CELL 'sum', in the pinned program and in every row, IS THE sha256 OF THE DUMP (.gsa) THAT YtmhlolimaeejfaaProg.lean LOADS. Nothing in Lean hashes anything: it is a label: what it is worth is what the hold of that sum in a sandbox is worth. -/
noncomputable def Try.pinned : Pinned := { name := "ytmhlolimaeejfaa", sum := "4fa2492c84ca9595a267c8033a6591cc9a51d498f863fd08584997a1cb832abb", checked := Try.checked }
namespace Rows
def none {H : Type} : Left H := { results := [], args := [] }

/-- 'laws.FnExactNewDesk': WHATEVER THE INPUT: true; the input reads as it did. -/
def fnExactNewDeskSpec : ChangeSpec := { name := "fnExactNewDesk", fn := fun _ => fun
  | [] => { results := [.lit (.bool true)], args := [] }
  | _ => none }
def fnExactNewDeskRow : OpenClaim := { program := "ytmhlolimaeejfaa", sum := "4fa2492c84ca9595a267c8033a6591cc9a51d498f863fd08584997a1cb832abb", func := "loop.example/g01342/laws.FnExactNewDesk", spec := "fnExactNewDesk", plainKeys := false, apart := false }
def FnExactNewDeskSaid : Prop := fnExactNewDeskRow.holds Try.pinned (OpenSpec.ofChange fnExactNewDeskSpec)

/-- ITS FALSE NEIGHBOUR: 'it returns false'. Refute it at one input. -/
def fnExactNewDeskWrong : ChangeSpec := { name := "fnExactNewDesk", fn := fun _ => fun
  | [] => { results := [.lit (.bool false)], args := [] }
  | _ => none }
def FnExactNewDeskWrongFalsely : Prop := fnExactNewDeskRow.holds Try.pinned (OpenSpec.ofChange fnExactNewDeskWrong)

/-- 'laws.FnExactIsDesk': WHATEVER THE INPUT: true; the input reads as it did. -/
def fnExactIsDeskSpec : ChangeSpec := { name := "fnExactIsDesk", fn := fun _ => fun
  | [d] => { results := [.lit (.bool true)], args := [d] }
  | _ => none }
def fnExactIsDeskRow : OpenClaim := { program := "ytmhlolimaeejfaa", sum := "4fa2492c84ca9595a267c8033a6591cc9a51d498f863fd08584997a1cb832abb", func := "loop.example/g01342/laws.FnExactIsDesk", spec := "fnExactIsDesk", unfollowed := true, recurses := true, plainKeys := false, apart := false }
def FnExactIsDeskSaid : Prop := fnExactIsDeskRow.holds Try.pinned (OpenSpec.ofChange fnExactIsDeskSpec)

/-- ITS FALSE NEIGHBOUR: 'it returns false'. Refute it at one input. -/
def fnExactIsDeskWrong : ChangeSpec := { name := "fnExactIsDesk", fn := fun _ => fun
  | [d] => { results := [.lit (.bool false)], args := [d] }
  | _ => none }
def FnExactIsDeskWrongFalsely : Prop := fnExactIsDeskRow.holds Try.pinned (OpenSpec.ofChange fnExactIsDeskWrong)

/-- 'laws.FnExactQuadraticDiscriminant': WHATEVER THE INPUT: true; the input reads as it did. -/
def fnExactQuadraticDiscriminantSpec : ChangeSpec := { name := "fnExactQuadraticDiscriminant", fn := fun _ => fun
  | [d] => { results := [.lit (.bool true)], args := [d] }
  | _ => none }
def fnExactQuadraticDiscriminantRow : OpenClaim := { program := "ytmhlolimaeejfaa", sum := "4fa2492c84ca9595a267c8033a6591cc9a51d498f863fd08584997a1cb832abb", func := "loop.example/g01342/laws.FnExactQuadraticDiscriminant", spec := "fnExactQuadraticDiscriminant", plainKeys := false, apart := false }
def FnExactQuadraticDiscriminantSaid : Prop := fnExactQuadraticDiscriminantRow.holds Try.pinned (OpenSpec.ofChange fnExactQuadraticDiscriminantSpec)

/-- ITS FALSE NEIGHBOUR: 'it returns false'. Refute it at one input. -/
def fnExactQuadraticDiscriminantWrong : ChangeSpec := { name := "fnExactQuadraticDiscriminant", fn := fun _ => fun
  | [d] => { results := [.lit (.bool false)], args := [d] }
  | _ => none }
def FnExactQuadraticDiscriminantWrongFalsely : Prop := fnExactQuadraticDiscriminantRow.holds Try.pinned (OpenSpec.ofChange fnExactQuadraticDiscriminantWrong)

/-- 'laws.FnExactIsDefinite': WHATEVER THE INPUT: true; the input reads as it did. -/
def fnExactIsDefiniteSpec : ChangeSpec := { name := "fnExactIsDefinite", fn := fun _ => fun
  | [d] => { results := [.lit (.bool true)], args := [d] }
  | _ => none }
def fnExactIsDefiniteRow : OpenClaim := { program := "ytmhlolimaeejfaa", sum := "4fa2492c84ca9595a267c8033a6591cc9a51d498f863fd08584997a1cb832abb", func := "loop.example/g01342/laws.FnExactIsDefinite", spec := "fnExactIsDefinite", plainKeys := false, apart := false }
def FnExactIsDefiniteSaid : Prop := fnExactIsDefiniteRow.holds Try.pinned (OpenSpec.ofChange fnExactIsDefiniteSpec)

/-- ITS FALSE NEIGHBOUR: 'it returns false'. Refute it at one input. -/
def fnExactIsDefiniteWrong : ChangeSpec := { name := "fnExactIsDefinite", fn := fun _ => fun
  | [d] => { results := [.lit (.bool false)], args := [d] }
  | _ => none }
def FnExactIsDefiniteWrongFalsely : Prop := fnExactIsDefiniteRow.holds Try.pinned (OpenSpec.ofChange fnExactIsDefiniteWrong)

/-- 'laws.FnExactCountKind': WHATEVER THE INPUT: true; the input reads as it did. -/
def fnExactCountKindSpec : ChangeSpec := { name := "fnExactCountKind", fn := fun _ => fun
  | [d1, d2] => { results := [.lit (.bool true)], args := [d1, d2] }
  | _ => none }
def fnExactCountKindRow : OpenClaim := { program := "ytmhlolimaeejfaa", sum := "4fa2492c84ca9595a267c8033a6591cc9a51d498f863fd08584997a1cb832abb", func := "loop.example/g01342/laws.FnExactCountKind", spec := "fnExactCountKind", unfollowed := true, recurses := true, plainKeys := false, apart := false }
def FnExactCountKindSaid : Prop := fnExactCountKindRow.holds Try.pinned (OpenSpec.ofChange fnExactCountKindSpec)

/-- ITS FALSE NEIGHBOUR: 'it returns false'. Refute it at one input. -/
def fnExactCountKindWrong : ChangeSpec := { name := "fnExactCountKind", fn := fun _ => fun
  | [d1, d2] => { results := [.lit (.bool false)], args := [d1, d2] }
  | _ => none }
def FnExactCountKindWrongFalsely : Prop := fnExactCountKindRow.holds Try.pinned (OpenSpec.ofChange fnExactCountKindWrong)

/-- 'laws.FnExactIsRamified': WHATEVER THE INPUT: true; the input reads as it did. -/
def fnExactIsRamifiedSpec : ChangeSpec := { name := "fnExactIsRamified", fn := fun _ => fun
  | [d1, d2] => { results := [.lit (.bool true)], args := [d1, d2] }
  | _ => none }
def fnExactIsRamifiedRow : OpenClaim := { program := "ytmhlolimaeejfaa", sum := "4fa2492c84ca9595a267c8033a6591cc9a51d498f863fd08584997a1cb832abb", func := "loop.example/g01342/laws.FnExactIsRamified", spec := "fnExactIsRamified", plainKeys := false, apart := false }
def FnExactIsRamifiedSaid : Prop := fnExactIsRamifiedRow.holds Try.pinned (OpenSpec.ofChange fnExactIsRamifiedSpec)

/-- ITS FALSE NEIGHBOUR: 'it returns false'. Refute it at one input. -/
def fnExactIsRamifiedWrong : ChangeSpec := { name := "fnExactIsRamified", fn := fun _ => fun
  | [d1, d2] => { results := [.lit (.bool false)], args := [d1, d2] }
  | _ => none }
def FnExactIsRamifiedWrongFalsely : Prop := fnExactIsRamifiedRow.holds Try.pinned (OpenSpec.ofChange fnExactIsRamifiedWrong)

/-- 'laws.FnExactPrimesUpTo': WHATEVER THE INPUT: true; the input reads as it did. -/
def fnExactPrimesUpToSpec : ChangeSpec := { name := "fnExactPrimesUpTo", fn := fun _ => fun
  | [d] => { results := [.lit (.bool true)], args := [d] }
  | _ => none }
def fnExactPrimesUpToRow : OpenClaim := { program := "ytmhlolimaeejfaa", sum := "4fa2492c84ca9595a267c8033a6591cc9a51d498f863fd08584997a1cb832abb", func := "loop.example/g01342/laws.FnExactPrimesUpTo", spec := "fnExactPrimesUpTo", plainKeys := false, apart := false }
def FnExactPrimesUpToSaid : Prop := fnExactPrimesUpToRow.holds Try.pinned (OpenSpec.ofChange fnExactPrimesUpToSpec)

/-- ITS FALSE NEIGHBOUR: 'it returns false'. Refute it at one input. -/
def fnExactPrimesUpToWrong : ChangeSpec := { name := "fnExactPrimesUpTo", fn := fun _ => fun
  | [d] => { results := [.lit (.bool false)], args := [d] }
  | _ => none }
def FnExactPrimesUpToWrongFalsely : Prop := fnExactPrimesUpToRow.holds Try.pinned (OpenSpec.ofChange fnExactPrimesUpToWrong)

/-- 'laws.FnExactPointsToRaise': WHATEVER THE INPUT: true; the input reads as it did. -/
def fnExactPointsToRaiseSpec : ChangeSpec := { name := "fnExactPointsToRaise", fn := fun _ => fun
  | [d1, d2] => { results := [.lit (.bool true)], args := [d1, d2] }
  | _ => none }
def fnExactPointsToRaiseRow : OpenClaim := { program := "ytmhlolimaeejfaa", sum := "4fa2492c84ca9595a267c8033a6591cc9a51d498f863fd08584997a1cb832abb", func := "loop.example/g01342/laws.FnExactPointsToRaise", spec := "fnExactPointsToRaise", unfollowed := true, recurses := true, plainKeys := false, apart := false }
def FnExactPointsToRaiseSaid : Prop := fnExactPointsToRaiseRow.holds Try.pinned (OpenSpec.ofChange fnExactPointsToRaiseSpec)

/-- ITS FALSE NEIGHBOUR: 'it returns false'. Refute it at one input. -/
def fnExactPointsToRaiseWrong : ChangeSpec := { name := "fnExactPointsToRaise", fn := fun _ => fun
  | [d1, d2] => { results := [.lit (.bool false)], args := [d1, d2] }
  | _ => none }
def FnExactPointsToRaiseWrongFalsely : Prop := fnExactPointsToRaiseRow.holds Try.pinned (OpenSpec.ofChange fnExactPointsToRaiseWrong)

/-- 'laws.FnExactRaiseForm': WHATEVER THE INPUT: true; the input reads as it did. -/
def fnExactRaiseFormSpec : ChangeSpec := { name := "fnExactRaiseForm", fn := fun _ => fun
  | [d1, d2, d3] => { results := [.lit (.bool true)], args := [d1, d2, d3] }
  | _ => none }
def fnExactRaiseFormRow : OpenClaim := { program := "ytmhlolimaeejfaa", sum := "4fa2492c84ca9595a267c8033a6591cc9a51d498f863fd08584997a1cb832abb", func := "loop.example/g01342/laws.FnExactRaiseForm", spec := "fnExactRaiseForm", unfollowed := true, recurses := true, plainKeys := false, apart := false }
def FnExactRaiseFormSaid : Prop := fnExactRaiseFormRow.holds Try.pinned (OpenSpec.ofChange fnExactRaiseFormSpec)

/-- ITS FALSE NEIGHBOUR: 'it returns false'. Refute it at one input. -/
def fnExactRaiseFormWrong : ChangeSpec := { name := "fnExactRaiseForm", fn := fun _ => fun
  | [d1, d2, d3] => { results := [.lit (.bool false)], args := [d1, d2, d3] }
  | _ => none }
def FnExactRaiseFormWrongFalsely : Prop := fnExactRaiseFormRow.holds Try.pinned (OpenSpec.ofChange fnExactRaiseFormWrong)

/-- 'laws.FnExactDivideForm': WHATEVER THE INPUT: true; the input reads as it did. -/
def fnExactDivideFormSpec : ChangeSpec := { name := "fnExactDivideForm", fn := fun _ => fun
  | [d1, d2] => { results := [.lit (.bool true)], args := [d1, d2] }
  | _ => none }
def fnExactDivideFormRow : OpenClaim := { program := "ytmhlolimaeejfaa", sum := "4fa2492c84ca9595a267c8033a6591cc9a51d498f863fd08584997a1cb832abb", func := "loop.example/g01342/laws.FnExactDivideForm", spec := "fnExactDivideForm", plainKeys := false, apart := false }
def FnExactDivideFormSaid : Prop := fnExactDivideFormRow.holds Try.pinned (OpenSpec.ofChange fnExactDivideFormSpec)

/-- ITS FALSE NEIGHBOUR: 'it returns false'. Refute it at one input. -/
def fnExactDivideFormWrong : ChangeSpec := { name := "fnExactDivideForm", fn := fun _ => fun
  | [d1, d2] => { results := [.lit (.bool false)], args := [d1, d2] }
  | _ => none }
def FnExactDivideFormWrongFalsely : Prop := fnExactDivideFormRow.holds Try.pinned (OpenSpec.ofChange fnExactDivideFormWrong)

/-- 'laws.FnExactLowerForm': WHATEVER THE INPUT: true; the input reads as it did. -/
def fnExactLowerFormSpec : ChangeSpec := { name := "fnExactLowerForm", fn := fun _ => fun
  | [d1, d2, d3] => { results := [.lit (.bool true)], args := [d1, d2, d3] }
  | _ => none }
def fnExactLowerFormRow : OpenClaim := { program := "ytmhlolimaeejfaa", sum := "4fa2492c84ca9595a267c8033a6591cc9a51d498f863fd08584997a1cb832abb", func := "loop.example/g01342/laws.FnExactLowerForm", spec := "fnExactLowerForm", unfollowed := true, recurses := true, plainKeys := false, apart := false }
def FnExactLowerFormSaid : Prop := fnExactLowerFormRow.holds Try.pinned (OpenSpec.ofChange fnExactLowerFormSpec)

/-- ITS FALSE NEIGHBOUR: 'it returns false'. Refute it at one input. -/
def fnExactLowerFormWrong : ChangeSpec := { name := "fnExactLowerForm", fn := fun _ => fun
  | [d1, d2, d3] => { results := [.lit (.bool false)], args := [d1, d2, d3] }
  | _ => none }
def FnExactLowerFormWrongFalsely : Prop := fnExactLowerFormRow.holds Try.pinned (OpenSpec.ofChange fnExactLowerFormWrong)

/-- 'laws.FnExactIsMaximalAt': WHATEVER THE INPUT: true; the input reads as it did. -/
def fnExactIsMaximalAtSpec : ChangeSpec := { name := "fnExactIsMaximalAt", fn := fun _ => fun
  | [d1, d2] => { results := [.lit (.bool true)], args := [d1, d2] }
  | _ => none }
def fnExactIsMaximalAtRow : OpenClaim := { program := "ytmhlolimaeejfaa", sum := "4fa2492c84ca9595a267c8033a6591cc9a51d498f863fd08584997a1cb832abb", func := "loop.example/g01342/laws.FnExactIsMaximalAt", spec := "fnExactIsMaximalAt", unfollowed := true, recurses := true, plainKeys := false, apart := false }
def FnExactIsMaximalAtSaid : Prop := fnExactIsMaximalAtRow.holds Try.pinned (OpenSpec.ofChange fnExactIsMaximalAtSpec)

/-- ITS FALSE NEIGHBOUR: 'it returns false'. Refute it at one input. -/
def fnExactIsMaximalAtWrong : ChangeSpec := { name := "fnExactIsMaximalAt", fn := fun _ => fun
  | [d1, d2] => { results := [.lit (.bool false)], args := [d1, d2] }
  | _ => none }
def FnExactIsMaximalAtWrongFalsely : Prop := fnExactIsMaximalAtRow.holds Try.pinned (OpenSpec.ofChange fnExactIsMaximalAtWrong)

/-- 'laws.FnExactFormsBelow': WHATEVER THE INPUT: true; the input reads as it did. -/
def fnExactFormsBelowSpec : ChangeSpec := { name := "fnExactFormsBelow", fn := fun _ => fun
  | [d1, d2] => { results := [.lit (.bool true)], args := [d1, d2] }
  | _ => none }
def fnExactFormsBelowRow : OpenClaim := { program := "ytmhlolimaeejfaa", sum := "4fa2492c84ca9595a267c8033a6591cc9a51d498f863fd08584997a1cb832abb", func := "loop.example/g01342/laws.FnExactFormsBelow", spec := "fnExactFormsBelow", unfollowed := true, recurses := true, plainKeys := false, apart := false }
def FnExactFormsBelowSaid : Prop := fnExactFormsBelowRow.holds Try.pinned (OpenSpec.ofChange fnExactFormsBelowSpec)

/-- ITS FALSE NEIGHBOUR: 'it returns false'. Refute it at one input. -/
def fnExactFormsBelowWrong : ChangeSpec := { name := "fnExactFormsBelow", fn := fun _ => fun
  | [d1, d2] => { results := [.lit (.bool false)], args := [d1, d2] }
  | _ => none }
def FnExactFormsBelowWrongFalsely : Prop := fnExactFormsBelowRow.holds Try.pinned (OpenSpec.ofChange fnExactFormsBelowWrong)

/-- 'laws.FnExactResolventOf': WHATEVER THE INPUT: true; the input reads as it did. -/
def fnExactResolventOfSpec : ChangeSpec := { name := "fnExactResolventOf", fn := fun _ => fun
  | [d] => { results := [.lit (.bool true)], args := [d] }
  | _ => none }
def fnExactResolventOfRow : OpenClaim := { program := "ytmhlolimaeejfaa", sum := "4fa2492c84ca9595a267c8033a6591cc9a51d498f863fd08584997a1cb832abb", func := "loop.example/g01342/laws.FnExactResolventOf", spec := "fnExactResolventOf", unfollowed := true, recurses := true, plainKeys := false, apart := false }
def FnExactResolventOfSaid : Prop := fnExactResolventOfRow.holds Try.pinned (OpenSpec.ofChange fnExactResolventOfSpec)

/-- ITS FALSE NEIGHBOUR: 'it returns false'. Refute it at one input. -/
def fnExactResolventOfWrong : ChangeSpec := { name := "fnExactResolventOf", fn := fun _ => fun
  | [d] => { results := [.lit (.bool false)], args := [d] }
  | _ => none }
def FnExactResolventOfWrongFalsely : Prop := fnExactResolventOfRow.holds Try.pinned (OpenSpec.ofChange fnExactResolventOfWrong)

/-- 'laws.FnExactCharacterAt': WHATEVER THE INPUT: true; the input reads as it did. -/
def fnExactCharacterAtSpec : ChangeSpec := { name := "fnExactCharacterAt", fn := fun _ => fun
  | [d1, d2] => { results := [.lit (.bool true)], args := [d1, d2] }
  | _ => none }
def fnExactCharacterAtRow : OpenClaim := { program := "ytmhlolimaeejfaa", sum := "4fa2492c84ca9595a267c8033a6591cc9a51d498f863fd08584997a1cb832abb", func := "loop.example/g01342/laws.FnExactCharacterAt", spec := "fnExactCharacterAt", unfollowed := true, recurses := true, plainKeys := false, apart := false }
def FnExactCharacterAtSaid : Prop := fnExactCharacterAtRow.holds Try.pinned (OpenSpec.ofChange fnExactCharacterAtSpec)

/-- ITS FALSE NEIGHBOUR: 'it returns false'. Refute it at one input. -/
def fnExactCharacterAtWrong : ChangeSpec := { name := "fnExactCharacterAt", fn := fun _ => fun
  | [d1, d2] => { results := [.lit (.bool false)], args := [d1, d2] }
  | _ => none }
def FnExactCharacterAtWrongFalsely : Prop := fnExactCharacterAtRow.holds Try.pinned (OpenSpec.ofChange fnExactCharacterAtWrong)

/- THE SECOND FORM. 'bulk': how many values and letters a reading holds, each counted each time it is reached (what is shared counts as often as it is met; a slice's spare places count too). A statement '..UptoSaid' is the law's where the arguments, and the package variables that the reading takes, are together of bulk at most 1048576: NARROWER than '..Said'. Prove '..Said' where nothing that the law and all that it calls make is longer than what came in: it says more and counts as full. Else prove '..UptoSaid'. A law counts once. -/
mutual
def uptoBulk {H : Type} : DataW H → Nat
  | .lit (.string bytes) => bytes.length + 1
  | .lit _ => 1
  | .nil => 1
  | .ptr d => uptoBulk d + 1
  | .slice elems spare => uptoBulkAll elems + uptoBulkAll spare + 1
  | .agg parts => uptoBulkAll parts + 1
  | .iface _ d => uptoBulk d + 1
  | .map entries => uptoBulkEntries entries + 1
  | .held _ => 1
def uptoBulkAll {H : Type} : List (DataW H) → Nat
  | [] => 0
  | d :: r => uptoBulk d + uptoBulkAll r
def uptoBulkEntries {H : Type} : List (Lit × DataW H) → Nat
  | [] => 0
  | x :: r => uptoBulkEntry x + uptoBulkEntries r
def uptoBulkEntry {H : Type} : Lit × DataW H → Nat
  | (.string bytes, d) => bytes.length + uptoBulk d + 1
  | (_, d) => uptoBulk d + 1
 end
def uptoSmall : (H : Type) → List (DataW H) → Bool := fun _ ds => decide (uptoBulkAll ds ≤ 1048576)
def OpenSpec.upto (s : _root_.Go.ChangeSpec) : _root_.Go.OpenSpec := { _root_.Go.OpenSpec.ofChange s with cond := some uptoSmall }

/-- 'laws.FnExactNewDesk', WHERE WHAT IT READS IS OF BULK AT MOST 1048576: true; the input reads as it did. -/
def fnExactNewDeskUptoRow : OpenClaim := { program := "ytmhlolimaeejfaa", sum := "4fa2492c84ca9595a267c8033a6591cc9a51d498f863fd08584997a1cb832abb", func := "loop.example/g01342/laws.FnExactNewDesk", spec := "fnExactNewDesk", plainKeys := false, apart := false, narrowed := true }
def FnExactNewDeskUptoSaid : Prop := fnExactNewDeskUptoRow.holds Try.pinned (OpenSpec.upto fnExactNewDeskSpec)

/-- 'laws.FnExactIsDesk', WHERE WHAT IT READS IS OF BULK AT MOST 1048576: true; the input reads as it did. -/
def fnExactIsDeskUptoRow : OpenClaim := { program := "ytmhlolimaeejfaa", sum := "4fa2492c84ca9595a267c8033a6591cc9a51d498f863fd08584997a1cb832abb", func := "loop.example/g01342/laws.FnExactIsDesk", spec := "fnExactIsDesk", unfollowed := true, recurses := true, plainKeys := false, apart := false, narrowed := true }
def FnExactIsDeskUptoSaid : Prop := fnExactIsDeskUptoRow.holds Try.pinned (OpenSpec.upto fnExactIsDeskSpec)

/-- 'laws.FnExactQuadraticDiscriminant', WHERE WHAT IT READS IS OF BULK AT MOST 1048576: true; the input reads as it did. -/
def fnExactQuadraticDiscriminantUptoRow : OpenClaim := { program := "ytmhlolimaeejfaa", sum := "4fa2492c84ca9595a267c8033a6591cc9a51d498f863fd08584997a1cb832abb", func := "loop.example/g01342/laws.FnExactQuadraticDiscriminant", spec := "fnExactQuadraticDiscriminant", plainKeys := false, apart := false, narrowed := true }
def FnExactQuadraticDiscriminantUptoSaid : Prop := fnExactQuadraticDiscriminantUptoRow.holds Try.pinned (OpenSpec.upto fnExactQuadraticDiscriminantSpec)

/-- 'laws.FnExactIsDefinite', WHERE WHAT IT READS IS OF BULK AT MOST 1048576: true; the input reads as it did. -/
def fnExactIsDefiniteUptoRow : OpenClaim := { program := "ytmhlolimaeejfaa", sum := "4fa2492c84ca9595a267c8033a6591cc9a51d498f863fd08584997a1cb832abb", func := "loop.example/g01342/laws.FnExactIsDefinite", spec := "fnExactIsDefinite", plainKeys := false, apart := false, narrowed := true }
def FnExactIsDefiniteUptoSaid : Prop := fnExactIsDefiniteUptoRow.holds Try.pinned (OpenSpec.upto fnExactIsDefiniteSpec)

/-- 'laws.FnExactCountKind', WHERE WHAT IT READS IS OF BULK AT MOST 1048576: true; the input reads as it did. -/
def fnExactCountKindUptoRow : OpenClaim := { program := "ytmhlolimaeejfaa", sum := "4fa2492c84ca9595a267c8033a6591cc9a51d498f863fd08584997a1cb832abb", func := "loop.example/g01342/laws.FnExactCountKind", spec := "fnExactCountKind", unfollowed := true, recurses := true, plainKeys := false, apart := false, narrowed := true }
def FnExactCountKindUptoSaid : Prop := fnExactCountKindUptoRow.holds Try.pinned (OpenSpec.upto fnExactCountKindSpec)

/-- 'laws.FnExactIsRamified', WHERE WHAT IT READS IS OF BULK AT MOST 1048576: true; the input reads as it did. -/
def fnExactIsRamifiedUptoRow : OpenClaim := { program := "ytmhlolimaeejfaa", sum := "4fa2492c84ca9595a267c8033a6591cc9a51d498f863fd08584997a1cb832abb", func := "loop.example/g01342/laws.FnExactIsRamified", spec := "fnExactIsRamified", plainKeys := false, apart := false, narrowed := true }
def FnExactIsRamifiedUptoSaid : Prop := fnExactIsRamifiedUptoRow.holds Try.pinned (OpenSpec.upto fnExactIsRamifiedSpec)

/-- 'laws.FnExactPrimesUpTo', WHERE WHAT IT READS IS OF BULK AT MOST 1048576: true; the input reads as it did. -/
def fnExactPrimesUpToUptoRow : OpenClaim := { program := "ytmhlolimaeejfaa", sum := "4fa2492c84ca9595a267c8033a6591cc9a51d498f863fd08584997a1cb832abb", func := "loop.example/g01342/laws.FnExactPrimesUpTo", spec := "fnExactPrimesUpTo", plainKeys := false, apart := false, narrowed := true }
def FnExactPrimesUpToUptoSaid : Prop := fnExactPrimesUpToUptoRow.holds Try.pinned (OpenSpec.upto fnExactPrimesUpToSpec)

/-- 'laws.FnExactPointsToRaise', WHERE WHAT IT READS IS OF BULK AT MOST 1048576: true; the input reads as it did. -/
def fnExactPointsToRaiseUptoRow : OpenClaim := { program := "ytmhlolimaeejfaa", sum := "4fa2492c84ca9595a267c8033a6591cc9a51d498f863fd08584997a1cb832abb", func := "loop.example/g01342/laws.FnExactPointsToRaise", spec := "fnExactPointsToRaise", unfollowed := true, recurses := true, plainKeys := false, apart := false, narrowed := true }
def FnExactPointsToRaiseUptoSaid : Prop := fnExactPointsToRaiseUptoRow.holds Try.pinned (OpenSpec.upto fnExactPointsToRaiseSpec)

/-- 'laws.FnExactRaiseForm', WHERE WHAT IT READS IS OF BULK AT MOST 1048576: true; the input reads as it did. -/
def fnExactRaiseFormUptoRow : OpenClaim := { program := "ytmhlolimaeejfaa", sum := "4fa2492c84ca9595a267c8033a6591cc9a51d498f863fd08584997a1cb832abb", func := "loop.example/g01342/laws.FnExactRaiseForm", spec := "fnExactRaiseForm", unfollowed := true, recurses := true, plainKeys := false, apart := false, narrowed := true }
def FnExactRaiseFormUptoSaid : Prop := fnExactRaiseFormUptoRow.holds Try.pinned (OpenSpec.upto fnExactRaiseFormSpec)

/-- 'laws.FnExactDivideForm', WHERE WHAT IT READS IS OF BULK AT MOST 1048576: true; the input reads as it did. -/
def fnExactDivideFormUptoRow : OpenClaim := { program := "ytmhlolimaeejfaa", sum := "4fa2492c84ca9595a267c8033a6591cc9a51d498f863fd08584997a1cb832abb", func := "loop.example/g01342/laws.FnExactDivideForm", spec := "fnExactDivideForm", plainKeys := false, apart := false, narrowed := true }
def FnExactDivideFormUptoSaid : Prop := fnExactDivideFormUptoRow.holds Try.pinned (OpenSpec.upto fnExactDivideFormSpec)

/-- 'laws.FnExactLowerForm', WHERE WHAT IT READS IS OF BULK AT MOST 1048576: true; the input reads as it did. -/
def fnExactLowerFormUptoRow : OpenClaim := { program := "ytmhlolimaeejfaa", sum := "4fa2492c84ca9595a267c8033a6591cc9a51d498f863fd08584997a1cb832abb", func := "loop.example/g01342/laws.FnExactLowerForm", spec := "fnExactLowerForm", unfollowed := true, recurses := true, plainKeys := false, apart := false, narrowed := true }
def FnExactLowerFormUptoSaid : Prop := fnExactLowerFormUptoRow.holds Try.pinned (OpenSpec.upto fnExactLowerFormSpec)

/-- 'laws.FnExactIsMaximalAt', WHERE WHAT IT READS IS OF BULK AT MOST 1048576: true; the input reads as it did. -/
def fnExactIsMaximalAtUptoRow : OpenClaim := { program := "ytmhlolimaeejfaa", sum := "4fa2492c84ca9595a267c8033a6591cc9a51d498f863fd08584997a1cb832abb", func := "loop.example/g01342/laws.FnExactIsMaximalAt", spec := "fnExactIsMaximalAt", unfollowed := true, recurses := true, plainKeys := false, apart := false, narrowed := true }
def FnExactIsMaximalAtUptoSaid : Prop := fnExactIsMaximalAtUptoRow.holds Try.pinned (OpenSpec.upto fnExactIsMaximalAtSpec)

/-- 'laws.FnExactFormsBelow', WHERE WHAT IT READS IS OF BULK AT MOST 1048576: true; the input reads as it did. -/
def fnExactFormsBelowUptoRow : OpenClaim := { program := "ytmhlolimaeejfaa", sum := "4fa2492c84ca9595a267c8033a6591cc9a51d498f863fd08584997a1cb832abb", func := "loop.example/g01342/laws.FnExactFormsBelow", spec := "fnExactFormsBelow", unfollowed := true, recurses := true, plainKeys := false, apart := false, narrowed := true }
def FnExactFormsBelowUptoSaid : Prop := fnExactFormsBelowUptoRow.holds Try.pinned (OpenSpec.upto fnExactFormsBelowSpec)

/-- 'laws.FnExactResolventOf', WHERE WHAT IT READS IS OF BULK AT MOST 1048576: true; the input reads as it did. -/
def fnExactResolventOfUptoRow : OpenClaim := { program := "ytmhlolimaeejfaa", sum := "4fa2492c84ca9595a267c8033a6591cc9a51d498f863fd08584997a1cb832abb", func := "loop.example/g01342/laws.FnExactResolventOf", spec := "fnExactResolventOf", unfollowed := true, recurses := true, plainKeys := false, apart := false, narrowed := true }
def FnExactResolventOfUptoSaid : Prop := fnExactResolventOfUptoRow.holds Try.pinned (OpenSpec.upto fnExactResolventOfSpec)

/-- 'laws.FnExactCharacterAt', WHERE WHAT IT READS IS OF BULK AT MOST 1048576: true; the input reads as it did. -/
def fnExactCharacterAtUptoRow : OpenClaim := { program := "ytmhlolimaeejfaa", sum := "4fa2492c84ca9595a267c8033a6591cc9a51d498f863fd08584997a1cb832abb", func := "loop.example/g01342/laws.FnExactCharacterAt", spec := "fnExactCharacterAt", unfollowed := true, recurses := true, plainKeys := false, apart := false, narrowed := true }
def FnExactCharacterAtUptoSaid : Prop := fnExactCharacterAtUptoRow.holds Try.pinned (OpenSpec.upto fnExactCharacterAtSpec)

end Rows
end Go.Proofs.Ytmhlolimaeejfaa
