/-
  No cell of these rows narrows 'for every input' (looked for: loops, veiled, ifaces, maps, wideKeys, modest, calm, conditions, laid).
  DERIVED. THE GIVEN ROWS OF THIS SEAT. 13 by the template 'for every input the law returns true; each argument reads behind the call as it read before'; 0 by the template 'total and deterministic' (their statements: YtmacdknamcdjeaaTotals.lean).
  GIVEN WITH THE SEED: the statements are not yours to turn. If you find one false, say at which input.
  Laid BY PROGRAM, IN A SANDBOX (cutbox-rows.mjs): the forced cells as the released guide's own fill.sh prints them over the translation 7cab2c454b44149d… (all of the seat's roots in one cut). By AI agents, Wed Nov 11 2026. No macro, syntax, notation, axiom, sorry.
-/
import Derived.Test.YtmacdknamcdjeaaChecked
import GoSem.Claim
import GoSem.ClaimJoined
import GoSem.ClaimMapViews
import Derived.JoinedTies
import Derived.KernelRfl
namespace Go.Proofs.Ytmacdknamcdjeaa
/- THE CELL 'sum', in the pinned program and in every row, IS THE sha256 OF THE DUMP (.gsa) THAT YtmacdknamcdjeaaProg.lean LOADS. Nothing in Lean hashes anything: it is a label: what it is worth is what the hold of that sum in a sandbox is worth. -/
noncomputable def Try.pinned : Pinned := { name := "ytmacdknamcdjeaa", sum := "7cab2c454b44149d4094eaa97ed472647e06cf38a99ee0a9caa7fb3bd68a00ce", checked := Try.checked }
namespace Rows
def none {H : Type} : Left H := { results := [], args := [] }

/-- 'laws.FnExactChangeForm': WHATEVER THE INPUT: true; the input reads as it did. -/
def fnExactChangeFormSpec : ChangeSpec := { name := "fnExactChangeForm", fn := fun _ => fun
  | [d1, d2] => { results := [.lit (.bool true)], args := [d1, d2] }
  | _ => none }
def fnExactChangeFormRow : OpenClaim := { program := "ytmacdknamcdjeaa", sum := "7cab2c454b44149d4094eaa97ed472647e06cf38a99ee0a9caa7fb3bd68a00ce", func := "loop.example/g01342/laws.FnExactChangeForm", spec := "fnExactChangeForm", unfollowed := true, recurses := true, plainKeys := false, apart := false }
def FnExactChangeFormSaid : Prop := fnExactChangeFormRow.holds Try.pinned (OpenSpec.ofChange fnExactChangeFormSpec)

/-- ITS FALSE NEIGHBOUR: 'it returns false'. Refute it at one input. -/
def fnExactChangeFormWrong : ChangeSpec := { name := "fnExactChangeForm", fn := fun _ => fun
  | [d1, d2] => { results := [.lit (.bool false)], args := [d1, d2] }
  | _ => none }
def FnExactChangeFormWrongFalsely : Prop := fnExactChangeFormRow.holds Try.pinned (OpenSpec.ofChange fnExactChangeFormWrong)

/-- 'laws.FnExactFormThrough': WHATEVER THE INPUT: true; the input reads as it did. -/
def fnExactFormThroughSpec : ChangeSpec := { name := "fnExactFormThrough", fn := fun _ => fun
  | [d] => { results := [.lit (.bool true)], args := [d] }
  | _ => none }
def fnExactFormThroughRow : OpenClaim := { program := "ytmacdknamcdjeaa", sum := "7cab2c454b44149d4094eaa97ed472647e06cf38a99ee0a9caa7fb3bd68a00ce", func := "loop.example/g01342/laws.FnExactFormThrough", spec := "fnExactFormThrough", plainKeys := false, apart := false }
def FnExactFormThroughSaid : Prop := fnExactFormThroughRow.holds Try.pinned (OpenSpec.ofChange fnExactFormThroughSpec)

/-- ITS FALSE NEIGHBOUR: 'it returns false'. Refute it at one input. -/
def fnExactFormThroughWrong : ChangeSpec := { name := "fnExactFormThrough", fn := fun _ => fun
  | [d] => { results := [.lit (.bool false)], args := [d] }
  | _ => none }
def FnExactFormThroughWrongFalsely : Prop := fnExactFormThroughRow.holds Try.pinned (OpenSpec.ofChange fnExactFormThroughWrong)

/-- 'laws.FnExactInverseMatrix': WHATEVER THE INPUT: true; the input reads as it did. -/
def fnExactInverseMatrixSpec : ChangeSpec := { name := "fnExactInverseMatrix", fn := fun _ => fun
  | [d] => { results := [.lit (.bool true)], args := [d] }
  | _ => none }
def fnExactInverseMatrixRow : OpenClaim := { program := "ytmacdknamcdjeaa", sum := "7cab2c454b44149d4094eaa97ed472647e06cf38a99ee0a9caa7fb3bd68a00ce", func := "loop.example/g01342/laws.FnExactInverseMatrix", spec := "fnExactInverseMatrix", plainKeys := false, apart := false }
def FnExactInverseMatrixSaid : Prop := fnExactInverseMatrixRow.holds Try.pinned (OpenSpec.ofChange fnExactInverseMatrixSpec)

/-- ITS FALSE NEIGHBOUR: 'it returns false'. Refute it at one input. -/
def fnExactInverseMatrixWrong : ChangeSpec := { name := "fnExactInverseMatrix", fn := fun _ => fun
  | [d] => { results := [.lit (.bool false)], args := [d] }
  | _ => none }
def FnExactInverseMatrixWrongFalsely : Prop := fnExactInverseMatrixRow.holds Try.pinned (OpenSpec.ofChange fnExactInverseMatrixWrong)

/-- 'laws.FnExactIsReduced': WHATEVER THE INPUT: true; the input reads as it did. -/
def fnExactIsReducedSpec : ChangeSpec := { name := "fnExactIsReduced", fn := fun _ => fun
  | [d] => { results := [.lit (.bool true)], args := [d] }
  | _ => none }
def fnExactIsReducedRow : OpenClaim := { program := "ytmacdknamcdjeaa", sum := "7cab2c454b44149d4094eaa97ed472647e06cf38a99ee0a9caa7fb3bd68a00ce", func := "loop.example/g01342/laws.FnExactIsReduced", spec := "fnExactIsReduced", plainKeys := false, apart := false }
def FnExactIsReducedSaid : Prop := fnExactIsReducedRow.holds Try.pinned (OpenSpec.ofChange fnExactIsReducedSpec)

/-- ITS FALSE NEIGHBOUR: 'it returns false'. Refute it at one input. -/
def fnExactIsReducedWrong : ChangeSpec := { name := "fnExactIsReduced", fn := fun _ => fun
  | [d] => { results := [.lit (.bool false)], args := [d] }
  | _ => none }
def FnExactIsReducedWrongFalsely : Prop := fnExactIsReducedRow.holds Try.pinned (OpenSpec.ofChange fnExactIsReducedWrong)

/-- 'laws.FnMatrices': WHATEVER THE INPUT: true; the input reads as it did. -/
def fnMatricesSpec : ChangeSpec := { name := "fnMatrices", fn := fun _ => fun
  | [d] => { results := [.lit (.bool true)], args := [d] }
  | _ => none }
def fnMatricesRow : OpenClaim := { program := "ytmacdknamcdjeaa", sum := "7cab2c454b44149d4094eaa97ed472647e06cf38a99ee0a9caa7fb3bd68a00ce", func := "loop.example/g01342/laws.FnMatrices", spec := "fnMatrices", unfollowed := true, recurses := true, plainKeys := false, apart := false }
def FnMatricesSaid : Prop := fnMatricesRow.holds Try.pinned (OpenSpec.ofChange fnMatricesSpec)

/-- ITS FALSE NEIGHBOUR: 'it returns false'. Refute it at one input. -/
def fnMatricesWrong : ChangeSpec := { name := "fnMatrices", fn := fun _ => fun
  | [d] => { results := [.lit (.bool false)], args := [d] }
  | _ => none }
def FnMatricesWrongFalsely : Prop := fnMatricesRow.holds Try.pinned (OpenSpec.ofChange fnMatricesWrong)

/-- 'laws.FnExactNormalForm': WHATEVER THE INPUT: true; the input reads as it did. -/
def fnExactNormalFormSpec : ChangeSpec := { name := "fnExactNormalForm", fn := fun _ => fun
  | [d] => { results := [.lit (.bool true)], args := [d] }
  | _ => none }
def fnExactNormalFormRow : OpenClaim := { program := "ytmacdknamcdjeaa", sum := "7cab2c454b44149d4094eaa97ed472647e06cf38a99ee0a9caa7fb3bd68a00ce", func := "loop.example/g01342/laws.FnExactNormalForm", spec := "fnExactNormalForm", unfollowed := true, recurses := true, plainKeys := false, apart := false }
def FnExactNormalFormSaid : Prop := fnExactNormalFormRow.holds Try.pinned (OpenSpec.ofChange fnExactNormalFormSpec)

/-- ITS FALSE NEIGHBOUR: 'it returns false'. Refute it at one input. -/
def fnExactNormalFormWrong : ChangeSpec := { name := "fnExactNormalForm", fn := fun _ => fun
  | [d] => { results := [.lit (.bool false)], args := [d] }
  | _ => none }
def FnExactNormalFormWrongFalsely : Prop := fnExactNormalFormRow.holds Try.pinned (OpenSpec.ofChange fnExactNormalFormWrong)

/-- 'laws.FnExactReducedForms': WHATEVER THE INPUT: true; the input reads as it did. -/
def fnExactReducedFormsSpec : ChangeSpec := { name := "fnExactReducedForms", fn := fun _ => fun
  | [d] => { results := [.lit (.bool true)], args := [d] }
  | _ => none }
def fnExactReducedFormsRow : OpenClaim := { program := "ytmacdknamcdjeaa", sum := "7cab2c454b44149d4094eaa97ed472647e06cf38a99ee0a9caa7fb3bd68a00ce", func := "loop.example/g01342/laws.FnExactReducedForms", spec := "fnExactReducedForms", unfollowed := true, recurses := true, plainKeys := false, apart := false }
def FnExactReducedFormsSaid : Prop := fnExactReducedFormsRow.holds Try.pinned (OpenSpec.ofChange fnExactReducedFormsSpec)

/-- ITS FALSE NEIGHBOUR: 'it returns false'. Refute it at one input. -/
def fnExactReducedFormsWrong : ChangeSpec := { name := "fnExactReducedForms", fn := fun _ => fun
  | [d] => { results := [.lit (.bool false)], args := [d] }
  | _ => none }
def FnExactReducedFormsWrongFalsely : Prop := fnExactReducedFormsRow.holds Try.pinned (OpenSpec.ofChange fnExactReducedFormsWrong)

/-- 'laws.FnExactReducingMatrix': WHATEVER THE INPUT: true; the input reads as it did. -/
def fnExactReducingMatrixSpec : ChangeSpec := { name := "fnExactReducingMatrix", fn := fun _ => fun
  | [d] => { results := [.lit (.bool true)], args := [d] }
  | _ => none }
def fnExactReducingMatrixRow : OpenClaim := { program := "ytmacdknamcdjeaa", sum := "7cab2c454b44149d4094eaa97ed472647e06cf38a99ee0a9caa7fb3bd68a00ce", func := "loop.example/g01342/laws.FnExactReducingMatrix", spec := "fnExactReducingMatrix", unfollowed := true, recurses := true, plainKeys := false, apart := false }
def FnExactReducingMatrixSaid : Prop := fnExactReducingMatrixRow.holds Try.pinned (OpenSpec.ofChange fnExactReducingMatrixSpec)

/-- ITS FALSE NEIGHBOUR: 'it returns false'. Refute it at one input. -/
def fnExactReducingMatrixWrong : ChangeSpec := { name := "fnExactReducingMatrix", fn := fun _ => fun
  | [d] => { results := [.lit (.bool false)], args := [d] }
  | _ => none }
def FnExactReducingMatrixWrongFalsely : Prop := fnExactReducingMatrixRow.holds Try.pinned (OpenSpec.ofChange fnExactReducingMatrixWrong)

/-- 'laws.FnExactAreEquivalent': WHATEVER THE INPUT: true; the input reads as it did. -/
def fnExactAreEquivalentSpec : ChangeSpec := { name := "fnExactAreEquivalent", fn := fun _ => fun
  | [d1, d2] => { results := [.lit (.bool true)], args := [d1, d2] }
  | _ => none }
def fnExactAreEquivalentRow : OpenClaim := { program := "ytmacdknamcdjeaa", sum := "7cab2c454b44149d4094eaa97ed472647e06cf38a99ee0a9caa7fb3bd68a00ce", func := "loop.example/g01342/laws.FnExactAreEquivalent", spec := "fnExactAreEquivalent", unfollowed := true, recurses := true, plainKeys := false, apart := false }
def FnExactAreEquivalentSaid : Prop := fnExactAreEquivalentRow.holds Try.pinned (OpenSpec.ofChange fnExactAreEquivalentSpec)

/-- ITS FALSE NEIGHBOUR: 'it returns false'. Refute it at one input. -/
def fnExactAreEquivalentWrong : ChangeSpec := { name := "fnExactAreEquivalent", fn := fun _ => fun
  | [d1, d2] => { results := [.lit (.bool false)], args := [d1, d2] }
  | _ => none }
def FnExactAreEquivalentWrongFalsely : Prop := fnExactAreEquivalentRow.holds Try.pinned (OpenSpec.ofChange fnExactAreEquivalentWrong)

/-- 'laws.FnExactMatricesBetween': WHATEVER THE INPUT: true; the input reads as it did. -/
def fnExactMatricesBetweenSpec : ChangeSpec := { name := "fnExactMatricesBetween", fn := fun _ => fun
  | [d1, d2] => { results := [.lit (.bool true)], args := [d1, d2] }
  | _ => none }
def fnExactMatricesBetweenRow : OpenClaim := { program := "ytmacdknamcdjeaa", sum := "7cab2c454b44149d4094eaa97ed472647e06cf38a99ee0a9caa7fb3bd68a00ce", func := "loop.example/g01342/laws.FnExactMatricesBetween", spec := "fnExactMatricesBetween", unfollowed := true, recurses := true, plainKeys := false, apart := false }
def FnExactMatricesBetweenSaid : Prop := fnExactMatricesBetweenRow.holds Try.pinned (OpenSpec.ofChange fnExactMatricesBetweenSpec)

/-- ITS FALSE NEIGHBOUR: 'it returns false'. Refute it at one input. -/
def fnExactMatricesBetweenWrong : ChangeSpec := { name := "fnExactMatricesBetween", fn := fun _ => fun
  | [d1, d2] => { results := [.lit (.bool false)], args := [d1, d2] }
  | _ => none }
def FnExactMatricesBetweenWrongFalsely : Prop := fnExactMatricesBetweenRow.holds Try.pinned (OpenSpec.ofChange fnExactMatricesBetweenWrong)

/-- 'laws.FnExactAutomorphismsOf': WHATEVER THE INPUT: true; the input reads as it did. -/
def fnExactAutomorphismsOfSpec : ChangeSpec := { name := "fnExactAutomorphismsOf", fn := fun _ => fun
  | [d] => { results := [.lit (.bool true)], args := [d] }
  | _ => none }
def fnExactAutomorphismsOfRow : OpenClaim := { program := "ytmacdknamcdjeaa", sum := "7cab2c454b44149d4094eaa97ed472647e06cf38a99ee0a9caa7fb3bd68a00ce", func := "loop.example/g01342/laws.FnExactAutomorphismsOf", spec := "fnExactAutomorphismsOf", unfollowed := true, recurses := true, plainKeys := false, apart := false }
def FnExactAutomorphismsOfSaid : Prop := fnExactAutomorphismsOfRow.holds Try.pinned (OpenSpec.ofChange fnExactAutomorphismsOfSpec)

/-- ITS FALSE NEIGHBOUR: 'it returns false'. Refute it at one input. -/
def fnExactAutomorphismsOfWrong : ChangeSpec := { name := "fnExactAutomorphismsOf", fn := fun _ => fun
  | [d] => { results := [.lit (.bool false)], args := [d] }
  | _ => none }
def FnExactAutomorphismsOfWrongFalsely : Prop := fnExactAutomorphismsOfRow.holds Try.pinned (OpenSpec.ofChange fnExactAutomorphismsOfWrong)

/-- 'laws.FnNormalForms': WHATEVER THE INPUT: true; the input reads as it did. -/
def fnNormalFormsSpec : ChangeSpec := { name := "fnNormalForms", fn := fun _ => fun
  | [d] => { results := [.lit (.bool true)], args := [d] }
  | _ => none }
def fnNormalFormsRow : OpenClaim := { program := "ytmacdknamcdjeaa", sum := "7cab2c454b44149d4094eaa97ed472647e06cf38a99ee0a9caa7fb3bd68a00ce", func := "loop.example/g01342/laws.FnNormalForms", spec := "fnNormalForms", unfollowed := true, recurses := true, plainKeys := false, apart := false }
def FnNormalFormsSaid : Prop := fnNormalFormsRow.holds Try.pinned (OpenSpec.ofChange fnNormalFormsSpec)

/-- ITS FALSE NEIGHBOUR: 'it returns false'. Refute it at one input. -/
def fnNormalFormsWrong : ChangeSpec := { name := "fnNormalForms", fn := fun _ => fun
  | [d] => { results := [.lit (.bool false)], args := [d] }
  | _ => none }
def FnNormalFormsWrongFalsely : Prop := fnNormalFormsRow.holds Try.pinned (OpenSpec.ofChange fnNormalFormsWrong)

/-- 'laws.FnEquivalence': WHATEVER THE INPUT: true; the input reads as it did. -/
def fnEquivalenceSpec : ChangeSpec := { name := "fnEquivalence", fn := fun _ => fun
  | [d] => { results := [.lit (.bool true)], args := [d] }
  | _ => none }
def fnEquivalenceRow : OpenClaim := { program := "ytmacdknamcdjeaa", sum := "7cab2c454b44149d4094eaa97ed472647e06cf38a99ee0a9caa7fb3bd68a00ce", func := "loop.example/g01342/laws.FnEquivalence", spec := "fnEquivalence", unfollowed := true, recurses := true, plainKeys := false, apart := false }
def FnEquivalenceSaid : Prop := fnEquivalenceRow.holds Try.pinned (OpenSpec.ofChange fnEquivalenceSpec)

/-- ITS FALSE NEIGHBOUR: 'it returns false'. Refute it at one input. -/
def fnEquivalenceWrong : ChangeSpec := { name := "fnEquivalence", fn := fun _ => fun
  | [d] => { results := [.lit (.bool false)], args := [d] }
  | _ => none }
def FnEquivalenceWrongFalsely : Prop := fnEquivalenceRow.holds Try.pinned (OpenSpec.ofChange fnEquivalenceWrong)

/- THE SECOND FORM. 'bulk': how many values and letters a reading holds, each counted each time it is reached (what is shared counts as often as it is met; a slice's spare places count too). A statement '..UptoSaid' is the law's where the arguments, and the package variables that the reading takes, are together of bulk at most 1048576: NARROWER than '..Said'. Prove '..Said' where nothing that the law and all that it calls make is longer than what came in: it says more and counts as full. Else prove '..UptoSaid'. A law counts once. -/
mutual
def uptoBulk {H : Type} : DataW H → Nat
  | .lit (.string bytes) => bytes.length + 1
  | .lit _ => 1
  | .nil => 1
  | .ptr d => uptoBulk d + 1
  | .slice elems spare => uptoBulkAll elems + uptoBulkAll spare + 1
  | .agg parts => uptoBulkAll parts + 1
  | .iface _ d => uptoBulk d + 1
  | .map entries => uptoBulkEntries entries + 1
  | .held _ => 1
def uptoBulkAll {H : Type} : List (DataW H) → Nat
  | [] => 0
  | d :: r => uptoBulk d + uptoBulkAll r
def uptoBulkEntries {H : Type} : List (Lit × DataW H) → Nat
  | [] => 0
  | x :: r => uptoBulkEntry x + uptoBulkEntries r
def uptoBulkEntry {H : Type} : Lit × DataW H → Nat
  | (.string bytes, d) => bytes.length + uptoBulk d + 1
  | (_, d) => uptoBulk d + 1
 end
def uptoSmall : (H : Type) → List (DataW H) → Bool := fun _ ds => decide (uptoBulkAll ds ≤ 1048576)
def OpenSpec.upto (s : _root_.Go.ChangeSpec) : _root_.Go.OpenSpec := { _root_.Go.OpenSpec.ofChange s with cond := some uptoSmall }

/-- 'laws.FnExactChangeForm', WHERE WHAT IT READS IS OF BULK AT MOST 1048576: true; the input reads as it did. -/
def fnExactChangeFormUptoRow : OpenClaim := { program := "ytmacdknamcdjeaa", sum := "7cab2c454b44149d4094eaa97ed472647e06cf38a99ee0a9caa7fb3bd68a00ce", func := "loop.example/g01342/laws.FnExactChangeForm", spec := "fnExactChangeForm", unfollowed := true, recurses := true, plainKeys := false, apart := false, narrowed := true }
def FnExactChangeFormUptoSaid : Prop := fnExactChangeFormUptoRow.holds Try.pinned (OpenSpec.upto fnExactChangeFormSpec)

/-- 'laws.FnExactFormThrough', WHERE WHAT IT READS IS OF BULK AT MOST 1048576: true; the input reads as it did. -/
def fnExactFormThroughUptoRow : OpenClaim := { program := "ytmacdknamcdjeaa", sum := "7cab2c454b44149d4094eaa97ed472647e06cf38a99ee0a9caa7fb3bd68a00ce", func := "loop.example/g01342/laws.FnExactFormThrough", spec := "fnExactFormThrough", plainKeys := false, apart := false, narrowed := true }
def FnExactFormThroughUptoSaid : Prop := fnExactFormThroughUptoRow.holds Try.pinned (OpenSpec.upto fnExactFormThroughSpec)

/-- 'laws.FnExactInverseMatrix', WHERE WHAT IT READS IS OF BULK AT MOST 1048576: true; the input reads as it did. -/
def fnExactInverseMatrixUptoRow : OpenClaim := { program := "ytmacdknamcdjeaa", sum := "7cab2c454b44149d4094eaa97ed472647e06cf38a99ee0a9caa7fb3bd68a00ce", func := "loop.example/g01342/laws.FnExactInverseMatrix", spec := "fnExactInverseMatrix", plainKeys := false, apart := false, narrowed := true }
def FnExactInverseMatrixUptoSaid : Prop := fnExactInverseMatrixUptoRow.holds Try.pinned (OpenSpec.upto fnExactInverseMatrixSpec)

/-- 'laws.FnExactIsReduced', WHERE WHAT IT READS IS OF BULK AT MOST 1048576: true; the input reads as it did. -/
def fnExactIsReducedUptoRow : OpenClaim := { program := "ytmacdknamcdjeaa", sum := "7cab2c454b44149d4094eaa97ed472647e06cf38a99ee0a9caa7fb3bd68a00ce", func := "loop.example/g01342/laws.FnExactIsReduced", spec := "fnExactIsReduced", plainKeys := false, apart := false, narrowed := true }
def FnExactIsReducedUptoSaid : Prop := fnExactIsReducedUptoRow.holds Try.pinned (OpenSpec.upto fnExactIsReducedSpec)

/-- 'laws.FnMatrices', WHERE WHAT IT READS IS OF BULK AT MOST 1048576: true; the input reads as it did. -/
def fnMatricesUptoRow : OpenClaim := { program := "ytmacdknamcdjeaa", sum := "7cab2c454b44149d4094eaa97ed472647e06cf38a99ee0a9caa7fb3bd68a00ce", func := "loop.example/g01342/laws.FnMatrices", spec := "fnMatrices", unfollowed := true, recurses := true, plainKeys := false, apart := false, narrowed := true }
def FnMatricesUptoSaid : Prop := fnMatricesUptoRow.holds Try.pinned (OpenSpec.upto fnMatricesSpec)

/-- 'laws.FnExactNormalForm', WHERE WHAT IT READS IS OF BULK AT MOST 1048576: true; the input reads as it did. -/
def fnExactNormalFormUptoRow : OpenClaim := { program := "ytmacdknamcdjeaa", sum := "7cab2c454b44149d4094eaa97ed472647e06cf38a99ee0a9caa7fb3bd68a00ce", func := "loop.example/g01342/laws.FnExactNormalForm", spec := "fnExactNormalForm", unfollowed := true, recurses := true, plainKeys := false, apart := false, narrowed := true }
def FnExactNormalFormUptoSaid : Prop := fnExactNormalFormUptoRow.holds Try.pinned (OpenSpec.upto fnExactNormalFormSpec)

/-- 'laws.FnExactReducedForms', WHERE WHAT IT READS IS OF BULK AT MOST 1048576: true; the input reads as it did. -/
def fnExactReducedFormsUptoRow : OpenClaim := { program := "ytmacdknamcdjeaa", sum := "7cab2c454b44149d4094eaa97ed472647e06cf38a99ee0a9caa7fb3bd68a00ce", func := "loop.example/g01342/laws.FnExactReducedForms", spec := "fnExactReducedForms", unfollowed := true, recurses := true, plainKeys := false, apart := false, narrowed := true }
def FnExactReducedFormsUptoSaid : Prop := fnExactReducedFormsUptoRow.holds Try.pinned (OpenSpec.upto fnExactReducedFormsSpec)

/-- 'laws.FnExactReducingMatrix', WHERE WHAT IT READS IS OF BULK AT MOST 1048576: true; the input reads as it did. -/
def fnExactReducingMatrixUptoRow : OpenClaim := { program := "ytmacdknamcdjeaa", sum := "7cab2c454b44149d4094eaa97ed472647e06cf38a99ee0a9caa7fb3bd68a00ce", func := "loop.example/g01342/laws.FnExactReducingMatrix", spec := "fnExactReducingMatrix", unfollowed := true, recurses := true, plainKeys := false, apart := false, narrowed := true }
def FnExactReducingMatrixUptoSaid : Prop := fnExactReducingMatrixUptoRow.holds Try.pinned (OpenSpec.upto fnExactReducingMatrixSpec)

/-- 'laws.FnExactAreEquivalent', WHERE WHAT IT READS IS OF BULK AT MOST 1048576: true; the input reads as it did. -/
def fnExactAreEquivalentUptoRow : OpenClaim := { program := "ytmacdknamcdjeaa", sum := "7cab2c454b44149d4094eaa97ed472647e06cf38a99ee0a9caa7fb3bd68a00ce", func := "loop.example/g01342/laws.FnExactAreEquivalent", spec := "fnExactAreEquivalent", unfollowed := true, recurses := true, plainKeys := false, apart := false, narrowed := true }
def FnExactAreEquivalentUptoSaid : Prop := fnExactAreEquivalentUptoRow.holds Try.pinned (OpenSpec.upto fnExactAreEquivalentSpec)

/-- 'laws.FnExactMatricesBetween', WHERE WHAT IT READS IS OF BULK AT MOST 1048576: true; the input reads as it did. -/
def fnExactMatricesBetweenUptoRow : OpenClaim := { program := "ytmacdknamcdjeaa", sum := "7cab2c454b44149d4094eaa97ed472647e06cf38a99ee0a9caa7fb3bd68a00ce", func := "loop.example/g01342/laws.FnExactMatricesBetween", spec := "fnExactMatricesBetween", unfollowed := true, recurses := true, plainKeys := false, apart := false, narrowed := true }
def FnExactMatricesBetweenUptoSaid : Prop := fnExactMatricesBetweenUptoRow.holds Try.pinned (OpenSpec.upto fnExactMatricesBetweenSpec)

/-- 'laws.FnExactAutomorphismsOf', WHERE WHAT IT READS IS OF BULK AT MOST 1048576: true; the input reads as it did. -/
def fnExactAutomorphismsOfUptoRow : OpenClaim := { program := "ytmacdknamcdjeaa", sum := "7cab2c454b44149d4094eaa97ed472647e06cf38a99ee0a9caa7fb3bd68a00ce", func := "loop.example/g01342/laws.FnExactAutomorphismsOf", spec := "fnExactAutomorphismsOf", unfollowed := true, recurses := true, plainKeys := false, apart := false, narrowed := true }
def FnExactAutomorphismsOfUptoSaid : Prop := fnExactAutomorphismsOfUptoRow.holds Try.pinned (OpenSpec.upto fnExactAutomorphismsOfSpec)

/-- 'laws.FnNormalForms', WHERE WHAT IT READS IS OF BULK AT MOST 1048576: true; the input reads as it did. -/
def fnNormalFormsUptoRow : OpenClaim := { program := "ytmacdknamcdjeaa", sum := "7cab2c454b44149d4094eaa97ed472647e06cf38a99ee0a9caa7fb3bd68a00ce", func := "loop.example/g01342/laws.FnNormalForms", spec := "fnNormalForms", unfollowed := true, recurses := true, plainKeys := false, apart := false, narrowed := true }
def FnNormalFormsUptoSaid : Prop := fnNormalFormsUptoRow.holds Try.pinned (OpenSpec.upto fnNormalFormsSpec)

/-- 'laws.FnEquivalence', WHERE WHAT IT READS IS OF BULK AT MOST 1048576: true; the input reads as it did. -/
def fnEquivalenceUptoRow : OpenClaim := { program := "ytmacdknamcdjeaa", sum := "7cab2c454b44149d4094eaa97ed472647e06cf38a99ee0a9caa7fb3bd68a00ce", func := "loop.example/g01342/laws.FnEquivalence", spec := "fnEquivalence", unfollowed := true, recurses := true, plainKeys := false, apart := false, narrowed := true }
def FnEquivalenceUptoSaid : Prop := fnEquivalenceUptoRow.holds Try.pinned (OpenSpec.upto fnEquivalenceSpec)

end Rows
end Go.Proofs.Ytmacdknamcdjeaa
