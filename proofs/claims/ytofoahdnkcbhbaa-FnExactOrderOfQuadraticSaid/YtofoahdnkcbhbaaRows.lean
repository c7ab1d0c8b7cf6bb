/-
  No cell of these rows narrows 'for every input' (looked for: loops, veiled, ifaces, maps, wideKeys, modest, calm, conditions, laid).
  DERIVED. THE GIVEN ROWS OF THIS SEAT. 9 by the template 'for every input the law returns true; each argument reads behind the call as it read before'; 0 by the template 'total and deterministic' (their statements: YtofoahdnkcbhbaaTotals.lean).
  GIVEN WITH THE SEED: the statements are not yours to turn. If you find one false, say at which input.
  Laid BY PROGRAM, IN A SANDBOX (cutbox-rows.mjs): the forced cells as the released guide's own fill.sh prints them over the translation 649dd6e0a5f6be32… (all of the seat's roots in one cut). By AI agents, Wed Nov 11 2026. No macro, syntax, notation, axiom, sorry.
-/
import Derived.Test.YtofoahdnkcbhbaaChecked
import GoSem.Claim
import GoSem.ClaimJoined
import GoSem.ClaimMapViews
import Derived.JoinedTies
import Derived.KernelRfl
namespace Go.Proofs.Ytofoahdnkcbhbaa
/- THE CELL 'sum', in the pinned program and in every row, IS THE sha256 OF THE DUMP (.gsa) THAT YtofoahdnkcbhbaaProg.lean LOADS. Nothing in Lean hashes anything: it is a label: what it is worth is what the hold of that sum in a sandbox is worth. -/
noncomputable def Try.pinned : Pinned := { name := "ytofoahdnkcbhbaa", sum := "649dd6e0a5f6be329674a40b3a68d8d4b8d791753b9f637b9211f8469b04e67e", checked := Try.checked }
namespace Rows
def none {H : Type} : Left H := { results := [], args := [] }

/-- 'laws.FnExactIsDefiniteForm': WHATEVER THE INPUT: true; the input reads as it did. -/
def fnExactIsDefiniteFormSpec : ChangeSpec := { name := "fnExactIsDefiniteForm", fn := fun _ => fun
  | [d] => { results := [.lit (.bool true)], args := [d] }
  | _ => none }
def fnExactIsDefiniteFormRow : OpenClaim := { program := "ytofoahdnkcbhbaa", sum := "649dd6e0a5f6be329674a40b3a68d8d4b8d791753b9f637b9211f8469b04e67e", func := "loop.example/g01342/laws.FnExactIsDefiniteForm", spec := "fnExactIsDefiniteForm", unfollowed := true, recurses := true, apart := false }
def FnExactIsDefiniteFormSaid : Prop := fnExactIsDefiniteFormRow.holds Try.pinned (OpenSpec.ofChange fnExactIsDefiniteFormSpec)

/-- ITS FALSE NEIGHBOUR: 'it returns false'. Refute it at one input. -/
def fnExactIsDefiniteFormWrong : ChangeSpec := { name := "fnExactIsDefiniteForm", fn := fun _ => fun
  | [d] => { results := [.lit (.bool false)], args := [d] }
  | _ => none }
def FnExactIsDefiniteFormWrongFalsely : Prop := fnExactIsDefiniteFormRow.holds Try.pinned (OpenSpec.ofChange fnExactIsDefiniteFormWrong)

/-- 'laws.FnExactReduceQuadratic': WHATEVER THE INPUT: true; the input reads as it did. -/
def fnExactReduceQuadraticSpec : ChangeSpec := { name := "fnExactReduceQuadratic", fn := fun _ => fun
  | [d] => { results := [.lit (.bool true)], args := [d] }
  | _ => none }
def fnExactReduceQuadraticRow : OpenClaim := { program := "ytofoahdnkcbhbaa", sum := "649dd6e0a5f6be329674a40b3a68d8d4b8d791753b9f637b9211f8469b04e67e", func := "loop.example/g01342/laws.FnExactReduceQuadratic", spec := "fnExactReduceQuadratic", unfollowed := true, recurses := true, apart := false }
def FnExactReduceQuadraticSaid : Prop := fnExactReduceQuadraticRow.holds Try.pinned (OpenSpec.ofChange fnExactReduceQuadraticSpec)

/-- ITS FALSE NEIGHBOUR: 'it returns false'. Refute it at one input. -/
def fnExactReduceQuadraticWrong : ChangeSpec := { name := "fnExactReduceQuadratic", fn := fun _ => fun
  | [d] => { results := [.lit (.bool false)], args := [d] }
  | _ => none }
def FnExactReduceQuadraticWrongFalsely : Prop := fnExactReduceQuadraticRow.holds Try.pinned (OpenSpec.ofChange fnExactReduceQuadraticWrong)

/-- 'laws.FnExactClassesOf': WHATEVER THE INPUT: true; the input reads as it did. -/
def fnExactClassesOfSpec : ChangeSpec := { name := "fnExactClassesOf", fn := fun _ => fun
  | [d] => { results := [.lit (.bool true)], args := [d] }
  | _ => none }
def fnExactClassesOfRow : OpenClaim := { program := "ytofoahdnkcbhbaa", sum := "649dd6e0a5f6be329674a40b3a68d8d4b8d791753b9f637b9211f8469b04e67e", func := "loop.example/g01342/laws.FnExactClassesOf", spec := "fnExactClassesOf", apart := false }
def FnExactClassesOfSaid : Prop := fnExactClassesOfRow.holds Try.pinned (OpenSpec.ofChange fnExactClassesOfSpec)

/-- ITS FALSE NEIGHBOUR: 'it returns false'. Refute it at one input. -/
def fnExactClassesOfWrong : ChangeSpec := { name := "fnExactClassesOf", fn := fun _ => fun
  | [d] => { results := [.lit (.bool false)], args := [d] }
  | _ => none }
def FnExactClassesOfWrongFalsely : Prop := fnExactClassesOfRow.holds Try.pinned (OpenSpec.ofChange fnExactClassesOfWrong)

/-- 'laws.FnExactComposeQuadratics': WHATEVER THE INPUT: true; the input reads as it did. -/
def fnExactComposeQuadraticsSpec : ChangeSpec := { name := "fnExactComposeQuadratics", fn := fun _ => fun
  | [d1, d2] => { results := [.lit (.bool true)], args := [d1, d2] }
  | _ => none }
def fnExactComposeQuadraticsRow : OpenClaim := { program := "ytofoahdnkcbhbaa", sum := "649dd6e0a5f6be329674a40b3a68d8d4b8d791753b9f637b9211f8469b04e67e", func := "loop.example/g01342/laws.FnExactComposeQuadratics", spec := "fnExactComposeQuadratics", unfollowed := true, recurses := true, apart := false }
def FnExactComposeQuadraticsSaid : Prop := fnExactComposeQuadraticsRow.holds Try.pinned (OpenSpec.ofChange fnExactComposeQuadraticsSpec)

/-- ITS FALSE NEIGHBOUR: 'it returns false'. Refute it at one input. -/
def fnExactComposeQuadraticsWrong : ChangeSpec := { name := "fnExactComposeQuadratics", fn := fun _ => fun
  | [d1, d2] => { results := [.lit (.bool false)], args := [d1, d2] }
  | _ => none }
def FnExactComposeQuadraticsWrongFalsely : Prop := fnExactComposeQuadraticsRow.holds Try.pinned (OpenSpec.ofChange fnExactComposeQuadraticsWrong)

/-- 'laws.FnExactOrderOfQuadratic': WHATEVER THE INPUT: true; the input reads as it did. -/
def fnExactOrderOfQuadraticSpec : ChangeSpec := { name := "fnExactOrderOfQuadratic", fn := fun _ => fun
  | [d] => { results := [.lit (.bool true)], args := [d] }
  | _ => none }
def fnExactOrderOfQuadraticRow : OpenClaim := { program := "ytofoahdnkcbhbaa", sum := "649dd6e0a5f6be329674a40b3a68d8d4b8d791753b9f637b9211f8469b04e67e", func := "loop.example/g01342/laws.FnExactOrderOfQuadratic", spec := "fnExactOrderOfQuadratic", unfollowed := true, recurses := true, apart := false }
def FnExactOrderOfQuadraticSaid : Prop := fnExactOrderOfQuadraticRow.holds Try.pinned (OpenSpec.ofChange fnExactOrderOfQuadraticSpec)

/-- ITS FALSE NEIGHBOUR: 'it returns false'. Refute it at one input. -/
def fnExactOrderOfQuadraticWrong : ChangeSpec := { name := "fnExactOrderOfQuadratic", fn := fun _ => fun
  | [d] => { results := [.lit (.bool false)], args := [d] }
  | _ => none }
def FnExactOrderOfQuadraticWrongFalsely : Prop := fnExactOrderOfQuadraticRow.holds Try.pinned (OpenSpec.ofChange fnExactOrderOfQuadraticWrong)

/-- 'laws.FnExactThirdRoots': WHATEVER THE INPUT: true; the input reads as it did. -/
def fnExactThirdRootsSpec : ChangeSpec := { name := "fnExactThirdRoots", fn := fun _ => fun
  | [d] => { results := [.lit (.bool true)], args := [d] }
  | _ => none }
def fnExactThirdRootsRow : OpenClaim := { program := "ytofoahdnkcbhbaa", sum := "649dd6e0a5f6be329674a40b3a68d8d4b8d791753b9f637b9211f8469b04e67e", func := "loop.example/g01342/laws.FnExactThirdRoots", spec := "fnExactThirdRoots", unfollowed := true, recurses := true, apart := false }
def FnExactThirdRootsSaid : Prop := fnExactThirdRootsRow.holds Try.pinned (OpenSpec.ofChange fnExactThirdRootsSpec)

/-- ITS FALSE NEIGHBOUR: 'it returns false'. Refute it at one input. -/
def fnExactThirdRootsWrong : ChangeSpec := { name := "fnExactThirdRoots", fn := fun _ => fun
  | [d] => { results := [.lit (.bool false)], args := [d] }
  | _ => none }
def FnExactThirdRootsWrongFalsely : Prop := fnExactThirdRootsRow.holds Try.pinned (OpenSpec.ofChange fnExactThirdRootsWrong)

/-- 'laws.FnExactIsTriple': WHATEVER THE INPUT: true; the input reads as it did. -/
def fnExactIsTripleSpec : ChangeSpec := { name := "fnExactIsTriple", fn := fun _ => fun
  | [d] => { results := [.lit (.bool true)], args := [d] }
  | _ => none }
def fnExactIsTripleRow : OpenClaim := { program := "ytofoahdnkcbhbaa", sum := "649dd6e0a5f6be329674a40b3a68d8d4b8d791753b9f637b9211f8469b04e67e", func := "loop.example/g01342/laws.FnExactIsTriple", spec := "fnExactIsTriple", apart := false }
def FnExactIsTripleSaid : Prop := fnExactIsTripleRow.holds Try.pinned (OpenSpec.ofChange fnExactIsTripleSpec)

/-- ITS FALSE NEIGHBOUR: 'it returns false'. Refute it at one input. -/
def fnExactIsTripleWrong : ChangeSpec := { name := "fnExactIsTriple", fn := fun _ => fun
  | [d] => { results := [.lit (.bool false)], args := [d] }
  | _ => none }
def FnExactIsTripleWrongFalsely : Prop := fnExactIsTripleRow.holds Try.pinned (OpenSpec.ofChange fnExactIsTripleWrong)

/-- 'laws.FnExactRootForm': WHATEVER THE INPUT: true; the input reads as it did. -/
def fnExactRootFormSpec : ChangeSpec := { name := "fnExactRootForm", fn := fun _ => fun
  | [d] => { results := [.lit (.bool true)], args := [d] }
  | _ => none }
def fnExactRootFormRow : OpenClaim := { program := "ytofoahdnkcbhbaa", sum := "649dd6e0a5f6be329674a40b3a68d8d4b8d791753b9f637b9211f8469b04e67e", func := "loop.example/g01342/laws.FnExactRootForm", spec := "fnExactRootForm", apart := false }
def FnExactRootFormSaid : Prop := fnExactRootFormRow.holds Try.pinned (OpenSpec.ofChange fnExactRootFormSpec)

/-- ITS FALSE NEIGHBOUR: 'it returns false'. Refute it at one input. -/
def fnExactRootFormWrong : ChangeSpec := { name := "fnExactRootForm", fn := fun _ => fun
  | [d] => { results := [.lit (.bool false)], args := [d] }
  | _ => none }
def FnExactRootFormWrongFalsely : Prop := fnExactRootFormRow.holds Try.pinned (OpenSpec.ofChange fnExactRootFormWrong)

/-- 'laws.FnExactTriplesWith': WHATEVER THE INPUT: true; the input reads as it did. -/
def fnExactTriplesWithSpec : ChangeSpec := { name := "fnExactTriplesWith", fn := fun _ => fun
  | [d1, d2] => { results := [.lit (.bool true)], args := [d1, d2] }
  | _ => none }
def fnExactTriplesWithRow : OpenClaim := { program := "ytofoahdnkcbhbaa", sum := "649dd6e0a5f6be329674a40b3a68d8d4b8d791753b9f637b9211f8469b04e67e", func := "loop.example/g01342/laws.FnExactTriplesWith", spec := "fnExactTriplesWith", unfollowed := true, recurses := true, apart := false }
def FnExactTriplesWithSaid : Prop := fnExactTriplesWithRow.holds Try.pinned (OpenSpec.ofChange fnExactTriplesWithSpec)

/-- ITS FALSE NEIGHBOUR: 'it returns false'. Refute it at one input. -/
def fnExactTriplesWithWrong : ChangeSpec := { name := "fnExactTriplesWith", fn := fun _ => fun
  | [d1, d2] => { results := [.lit (.bool false)], args := [d1, d2] }
  | _ => none }
def FnExactTriplesWithWrongFalsely : Prop := fnExactTriplesWithRow.holds Try.pinned (OpenSpec.ofChange fnExactTriplesWithWrong)

/- THE SECOND FORM. 'bulk': how many values and letters a reading holds, each counted each time it is reached (what is shared counts as often as it is met; a slice's spare places count too). A statement '..UptoSaid' is the law's where the arguments, and the package variables that the reading takes, are together of bulk at most 1048576: NARROWER than '..Said'. Prove '..Said' where nothing that the law and all that it calls make is longer than what came in: it says more and counts as full. Else prove '..UptoSaid'. A law counts once. -/
mutual
def uptoBulk {H : Type} : DataW H → Nat
  | .lit (.string bytes) => bytes.length + 1
  | .lit _ => 1
  | .nil => 1
  | .ptr d => uptoBulk d + 1
  | .slice elems spare => uptoBulkAll elems + uptoBulkAll spare + 1
  | .agg parts => uptoBulkAll parts + 1
  | .iface _ d => uptoBulk d + 1
  | .map entries => uptoBulkEntries entries + 1
  | .held _ => 1
def uptoBulkAll {H : Type} : List (DataW H) → Nat
  | [] => 0
  | d :: r => uptoBulk d + uptoBulkAll r
def uptoBulkEntries {H : Type} : List (Lit × DataW H) → Nat
  | [] => 0
  | x :: r => uptoBulkEntry x + uptoBulkEntries r
def uptoBulkEntry {H : Type} : Lit × DataW H → Nat
  | (.string bytes, d) => bytes.length + uptoBulk d + 1
  | (_, d) => uptoBulk d + 1
 end
def uptoSmall : (H : Type) → List (DataW H) → Bool := fun _ ds => decide (uptoBulkAll ds ≤ 1048576)
def OpenSpec.upto (s : _root_.Go.ChangeSpec) : _root_.Go.OpenSpec := { _root_.Go.OpenSpec.ofChange s with cond := some uptoSmall }

/-- 'laws.FnExactIsDefiniteForm', WHERE WHAT IT READS IS OF BULK AT MOST 1048576: true; the input reads as it did. -/
def fnExactIsDefiniteFormUptoRow : OpenClaim := { program := "ytofoahdnkcbhbaa", sum := "649dd6e0a5f6be329674a40b3a68d8d4b8d791753b9f637b9211f8469b04e67e", func := "loop.example/g01342/laws.FnExactIsDefiniteForm", spec := "fnExactIsDefiniteForm", unfollowed := true, recurses := true, apart := false, narrowed := true }
def FnExactIsDefiniteFormUptoSaid : Prop := fnExactIsDefiniteFormUptoRow.holds Try.pinned (OpenSpec.upto fnExactIsDefiniteFormSpec)

/-- 'laws.FnExactReduceQuadratic', WHERE WHAT IT READS IS OF BULK AT MOST 1048576: true; the input reads as it did. -/
def fnExactReduceQuadraticUptoRow : OpenClaim := { program := "ytofoahdnkcbhbaa", sum := "649dd6e0a5f6be329674a40b3a68d8d4b8d791753b9f637b9211f8469b04e67e", func := "loop.example/g01342/laws.FnExactReduceQuadratic", spec := "fnExactReduceQuadratic", unfollowed := true, recurses := true, apart := false, narrowed := true }
def FnExactReduceQuadraticUptoSaid : Prop := fnExactReduceQuadraticUptoRow.holds Try.pinned (OpenSpec.upto fnExactReduceQuadraticSpec)

/-- 'laws.FnExactClassesOf', WHERE WHAT IT READS IS OF BULK AT MOST 1048576: true; the input reads as it did. -/
def fnExactClassesOfUptoRow : OpenClaim := { program := "ytofoahdnkcbhbaa", sum := "649dd6e0a5f6be329674a40b3a68d8d4b8d791753b9f637b9211f8469b04e67e", func := "loop.example/g01342/laws.FnExactClassesOf", spec := "fnExactClassesOf", apart := false, narrowed := true }
def FnExactClassesOfUptoSaid : Prop := fnExactClassesOfUptoRow.holds Try.pinned (OpenSpec.upto fnExactClassesOfSpec)

/-- 'laws.FnExactComposeQuadratics', WHERE WHAT IT READS IS OF BULK AT MOST 1048576: true; the input reads as it did. -/
def fnExactComposeQuadraticsUptoRow : OpenClaim := { program := "ytofoahdnkcbhbaa", sum := "649dd6e0a5f6be329674a40b3a68d8d4b8d791753b9f637b9211f8469b04e67e", func := "loop.example/g01342/laws.FnExactComposeQuadratics", spec := "fnExactComposeQuadratics", unfollowed := true, recurses := true, apart := false, narrowed := true }
def FnExactComposeQuadraticsUptoSaid : Prop := fnExactComposeQuadraticsUptoRow.holds Try.pinned (OpenSpec.upto fnExactComposeQuadraticsSpec)

/-- 'laws.FnExactOrderOfQuadratic', WHERE WHAT IT READS IS OF BULK AT MOST 1048576: true; the input reads as it did. -/
def fnExactOrderOfQuadraticUptoRow : OpenClaim := { program := "ytofoahdnkcbhbaa", sum := "649dd6e0a5f6be329674a40b3a68d8d4b8d791753b9f637b9211f8469b04e67e", func := "loop.example/g01342/laws.FnExactOrderOfQuadratic", spec := "fnExactOrderOfQuadratic", unfollowed := true, recurses := true, apart := false, narrowed := true }
def FnExactOrderOfQuadraticUptoSaid : Prop := fnExactOrderOfQuadraticUptoRow.holds Try.pinned (OpenSpec.upto fnExactOrderOfQuadraticSpec)

/-- 'laws.FnExactThirdRoots', WHERE WHAT IT READS IS OF BULK AT MOST 1048576: true; the input reads as it did. -/
def fnExactThirdRootsUptoRow : OpenClaim := { program := "ytofoahdnkcbhbaa", sum := "649dd6e0a5f6be329674a40b3a68d8d4b8d791753b9f637b9211f8469b04e67e", func := "loop.example/g01342/laws.FnExactThirdRoots", spec := "fnExactThirdRoots", unfollowed := true, recurses := true, apart := false, narrowed := true }
def FnExactThirdRootsUptoSaid : Prop := fnExactThirdRootsUptoRow.holds Try.pinned (OpenSpec.upto fnExactThirdRootsSpec)

/-- 'laws.FnExactIsTriple', WHERE WHAT IT READS IS OF BULK AT MOST 1048576: true; the input reads as it did. -/
def fnExactIsTripleUptoRow : OpenClaim := { program := "ytofoahdnkcbhbaa", sum := "649dd6e0a5f6be329674a40b3a68d8d4b8d791753b9f637b9211f8469b04e67e", func := "loop.example/g01342/laws.FnExactIsTriple", spec := "fnExactIsTriple", apart := false, narrowed := true }
def FnExactIsTripleUptoSaid : Prop := fnExactIsTripleUptoRow.holds Try.pinned (OpenSpec.upto fnExactIsTripleSpec)

/-- 'laws.FnExactRootForm', WHERE WHAT IT READS IS OF BULK AT MOST 1048576: true; the input reads as it did. -/
def fnExactRootFormUptoRow : OpenClaim := { program := "ytofoahdnkcbhbaa", sum := "649dd6e0a5f6be329674a40b3a68d8d4b8d791753b9f637b9211f8469b04e67e", func := "loop.example/g01342/laws.FnExactRootForm", spec := "fnExactRootForm", apart := false, narrowed := true }
def FnExactRootFormUptoSaid : Prop := fnExactRootFormUptoRow.holds Try.pinned (OpenSpec.upto fnExactRootFormSpec)

/-- 'laws.FnExactTriplesWith', WHERE WHAT IT READS IS OF BULK AT MOST 1048576: true; the input reads as it did. -/
def fnExactTriplesWithUptoRow : OpenClaim := { program := "ytofoahdnkcbhbaa", sum := "649dd6e0a5f6be329674a40b3a68d8d4b8d791753b9f637b9211f8469b04e67e", func := "loop.example/g01342/laws.FnExactTriplesWith", spec := "fnExactTriplesWith", unfollowed := true, recurses := true, apart := false, narrowed := true }
def FnExactTriplesWithUptoSaid : Prop := fnExactTriplesWithUptoRow.holds Try.pinned (OpenSpec.upto fnExactTriplesWithSpec)

end Rows
end Go.Proofs.Ytofoahdnkcbhbaa
