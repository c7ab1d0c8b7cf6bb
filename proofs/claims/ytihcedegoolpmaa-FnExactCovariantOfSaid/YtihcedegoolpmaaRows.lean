/-
  No cell of these rows narrows 'for every input' (looked for: loops, veiled, ifaces, maps, wideKeys, modest, calm, conditions, laid).
  DERIVED. THE GIVEN ROWS OF THIS SEAT. 14 by the template 'for every input the law returns true; each argument reads behind the call as it read before'; 0 by the template 'total and deterministic' (their statements: YtihcedegoolpmaaTotals.lean).
  GIVEN WITH THE SEED: the statements are not yours to turn. If you find one false, say at which input.
  Laid BY PROGRAM, IN A SANDBOX (cutbox-rows.mjs): the forced cells as the released guide's own fill.sh prints them over the translation e06917193cca7fef… (all of the seat's roots in one cut). By AI agents, Wed Nov 11 2026. No macro, syntax, notation, axiom, sorry.
-/
import Derived.Test.YtihcedegoolpmaaChecked
import GoSem.Claim
import GoSem.ClaimJoined
import GoSem.ClaimMapViews
import Derived.JoinedTies
import Derived.KernelRfl
namespace Go.Proofs.Ytihcedegoolpmaa
/- THE CELL 'sum', in the pinned program and in every row, IS THE sha256 OF THE DUMP (.gsa) THAT YtihcedegoolpmaaProg.lean LOADS. Nothing in Lean hashes anything: it is a label: what it is worth is what the hold of that sum in a sandbox is worth. -/
noncomputable def Try.pinned : Pinned := { name := "ytihcedegoolpmaa", sum := "e06917193cca7fef349b9ab8d1aef87fcd69704f41d7c8ae523930c156a4e127", checked := Try.checked }
namespace Rows
def none {H : Type} : Left H := { results := [], args := [] }

/-- 'laws.FnExactValueAt': WHATEVER THE INPUT: true; the input reads as it did. -/
def fnExactValueAtSpec : ChangeSpec := { name := "fnExactValueAt", fn := fun _ => fun
  | [d1, d2, d3] => { results := [.lit (.bool true)], args := [d1, d2, d3] }
  | _ => none }
def fnExactValueAtRow : OpenClaim := { program := "ytihcedegoolpmaa", sum := "e06917193cca7fef349b9ab8d1aef87fcd69704f41d7c8ae523930c156a4e127", func := "loop.example/g01342/laws.FnExactValueAt", spec := "fnExactValueAt", apart := false }
def FnExactValueAtSaid : Prop := fnExactValueAtRow.holds Try.pinned (OpenSpec.ofChange fnExactValueAtSpec)

/-- ITS FALSE NEIGHBOUR: 'it returns false'. Refute it at one input. -/
def fnExactValueAtWrong : ChangeSpec := { name := "fnExactValueAt", fn := fun _ => fun
  | [d1, d2, d3] => { results := [.lit (.bool false)], args := [d1, d2, d3] }
  | _ => none }
def FnExactValueAtWrongFalsely : Prop := fnExactValueAtRow.holds Try.pinned (OpenSpec.ofChange fnExactValueAtWrong)

/-- 'laws.FnExactContentOf': WHATEVER THE INPUT: true; the input reads as it did. -/
def fnExactContentOfSpec : ChangeSpec := { name := "fnExactContentOf", fn := fun _ => fun
  | [d] => { results := [.lit (.bool true)], args := [d] }
  | _ => none }
def fnExactContentOfRow : OpenClaim := { program := "ytihcedegoolpmaa", sum := "e06917193cca7fef349b9ab8d1aef87fcd69704f41d7c8ae523930c156a4e127", func := "loop.example/g01342/laws.FnExactContentOf", spec := "fnExactContentOf", apart := false }
def FnExactContentOfSaid : Prop := fnExactContentOfRow.holds Try.pinned (OpenSpec.ofChange fnExactContentOfSpec)

/-- ITS FALSE NEIGHBOUR: 'it returns false'. Refute it at one input. -/
def fnExactContentOfWrong : ChangeSpec := { name := "fnExactContentOf", fn := fun _ => fun
  | [d] => { results := [.lit (.bool false)], args := [d] }
  | _ => none }
def FnExactContentOfWrongFalsely : Prop := fnExactContentOfRow.holds Try.pinned (OpenSpec.ofChange fnExactContentOfWrong)

/-- 'laws.FnExactPrimitivePart': WHATEVER THE INPUT: true; the input reads as it did. -/
def fnExactPrimitivePartSpec : ChangeSpec := { name := "fnExactPrimitivePart", fn := fun _ => fun
  | [d] => { results := [.lit (.bool true)], args := [d] }
  | _ => none }
def fnExactPrimitivePartRow : OpenClaim := { program := "ytihcedegoolpmaa", sum := "e06917193cca7fef349b9ab8d1aef87fcd69704f41d7c8ae523930c156a4e127", func := "loop.example/g01342/laws.FnExactPrimitivePart", spec := "fnExactPrimitivePart", apart := false }
def FnExactPrimitivePartSaid : Prop := fnExactPrimitivePartRow.holds Try.pinned (OpenSpec.ofChange fnExactPrimitivePartSpec)

/-- ITS FALSE NEIGHBOUR: 'it returns false'. Refute it at one input. -/
def fnExactPrimitivePartWrong : ChangeSpec := { name := "fnExactPrimitivePart", fn := fun _ => fun
  | [d] => { results := [.lit (.bool false)], args := [d] }
  | _ => none }
def FnExactPrimitivePartWrongFalsely : Prop := fnExactPrimitivePartRow.holds Try.pinned (OpenSpec.ofChange fnExactPrimitivePartWrong)

/-- 'laws.FnExactSlopesAt': WHATEVER THE INPUT: true; the input reads as it did. -/
def fnExactSlopesAtSpec : ChangeSpec := { name := "fnExactSlopesAt", fn := fun _ => fun
  | [d1, d2, d3] => { results := [.lit (.bool true)], args := [d1, d2, d3] }
  | _ => none }
def fnExactSlopesAtRow : OpenClaim := { program := "ytihcedegoolpmaa", sum := "e06917193cca7fef349b9ab8d1aef87fcd69704f41d7c8ae523930c156a4e127", func := "loop.example/g01342/laws.FnExactSlopesAt", spec := "fnExactSlopesAt", apart := false }
def FnExactSlopesAtSaid : Prop := fnExactSlopesAtRow.holds Try.pinned (OpenSpec.ofChange fnExactSlopesAtSpec)

/-- ITS FALSE NEIGHBOUR: 'it returns false'. Refute it at one input. -/
def fnExactSlopesAtWrong : ChangeSpec := { name := "fnExactSlopesAt", fn := fun _ => fun
  | [d1, d2, d3] => { results := [.lit (.bool false)], args := [d1, d2, d3] }
  | _ => none }
def FnExactSlopesAtWrongFalsely : Prop := fnExactSlopesAtRow.holds Try.pinned (OpenSpec.ofChange fnExactSlopesAtWrong)

/-- 'laws.FnExactHessianOf': WHATEVER THE INPUT: true; the input reads as it did. -/
def fnExactHessianOfSpec : ChangeSpec := { name := "fnExactHessianOf", fn := fun _ => fun
  | [d] => { results := [.lit (.bool true)], args := [d] }
  | _ => none }
def fnExactHessianOfRow : OpenClaim := { program := "ytihcedegoolpmaa", sum := "e06917193cca7fef349b9ab8d1aef87fcd69704f41d7c8ae523930c156a4e127", func := "loop.example/g01342/laws.FnExactHessianOf", spec := "fnExactHessianOf", apart := false }
def FnExactHessianOfSaid : Prop := fnExactHessianOfRow.holds Try.pinned (OpenSpec.ofChange fnExactHessianOfSpec)

/-- ITS FALSE NEIGHBOUR: 'it returns false'. Refute it at one input. -/
def fnExactHessianOfWrong : ChangeSpec := { name := "fnExactHessianOf", fn := fun _ => fun
  | [d] => { results := [.lit (.bool false)], args := [d] }
  | _ => none }
def FnExactHessianOfWrongFalsely : Prop := fnExactHessianOfRow.holds Try.pinned (OpenSpec.ofChange fnExactHessianOfWrong)

/-- 'laws.FnExactCovariantOf': WHATEVER THE INPUT: true; the input reads as it did. -/
def fnExactCovariantOfSpec : ChangeSpec := { name := "fnExactCovariantOf", fn := fun _ => fun
  | [d] => { results := [.lit (.bool true)], args := [d] }
  | _ => none }
def fnExactCovariantOfRow : OpenClaim := { program := "ytihcedegoolpmaa", sum := "e06917193cca7fef349b9ab8d1aef87fcd69704f41d7c8ae523930c156a4e127", func := "loop.example/g01342/laws.FnExactCovariantOf", spec := "fnExactCovariantOf", apart := false }
def FnExactCovariantOfSaid : Prop := fnExactCovariantOfRow.holds Try.pinned (OpenSpec.ofChange fnExactCovariantOfSpec)

/-- ITS FALSE NEIGHBOUR: 'it returns false'. Refute it at one input. -/
def fnExactCovariantOfWrong : ChangeSpec := { name := "fnExactCovariantOf", fn := fun _ => fun
  | [d] => { results := [.lit (.bool false)], args := [d] }
  | _ => none }
def FnExactCovariantOfWrongFalsely : Prop := fnExactCovariantOfRow.holds Try.pinned (OpenSpec.ofChange fnExactCovariantOfWrong)

/-- 'laws.FnExactCovariantAt': WHATEVER THE INPUT: true; the input reads as it did. -/
def fnExactCovariantAtSpec : ChangeSpec := { name := "fnExactCovariantAt", fn := fun _ => fun
  | [d1, d2, d3] => { results := [.lit (.bool true)], args := [d1, d2, d3] }
  | _ => none }
def fnExactCovariantAtRow : OpenClaim := { program := "ytihcedegoolpmaa", sum := "e06917193cca7fef349b9ab8d1aef87fcd69704f41d7c8ae523930c156a4e127", func := "loop.example/g01342/laws.FnExactCovariantAt", spec := "fnExactCovariantAt", apart := false }
def FnExactCovariantAtSaid : Prop := fnExactCovariantAtRow.holds Try.pinned (OpenSpec.ofChange fnExactCovariantAtSpec)

/-- ITS FALSE NEIGHBOUR: 'it returns false'. Refute it at one input. -/
def fnExactCovariantAtWrong : ChangeSpec := { name := "fnExactCovariantAt", fn := fun _ => fun
  | [d1, d2, d3] => { results := [.lit (.bool false)], args := [d1, d2, d3] }
  | _ => none }
def FnExactCovariantAtWrongFalsely : Prop := fnExactCovariantAtRow.holds Try.pinned (OpenSpec.ofChange fnExactCovariantAtWrong)

/-- 'laws.FnExactIsQuadratic': WHATEVER THE INPUT: true; the input reads as it did. -/
def fnExactIsQuadraticSpec : ChangeSpec := { name := "fnExactIsQuadratic", fn := fun _ => fun
  | [d] => { results := [.lit (.bool true)], args := [d] }
  | _ => none }
def fnExactIsQuadraticRow : OpenClaim := { program := "ytihcedegoolpmaa", sum := "e06917193cca7fef349b9ab8d1aef87fcd69704f41d7c8ae523930c156a4e127", func := "loop.example/g01342/laws.FnExactIsQuadratic", spec := "fnExactIsQuadratic", apart := false }
def FnExactIsQuadraticSaid : Prop := fnExactIsQuadraticRow.holds Try.pinned (OpenSpec.ofChange fnExactIsQuadraticSpec)

/-- ITS FALSE NEIGHBOUR: 'it returns false'. Refute it at one input. -/
def fnExactIsQuadraticWrong : ChangeSpec := { name := "fnExactIsQuadratic", fn := fun _ => fun
  | [d] => { results := [.lit (.bool false)], args := [d] }
  | _ => none }
def FnExactIsQuadraticWrongFalsely : Prop := fnExactIsQuadraticRow.holds Try.pinned (OpenSpec.ofChange fnExactIsQuadraticWrong)

/-- 'laws.FnExactQuadraticAt': WHATEVER THE INPUT: true; the input reads as it did. -/
def fnExactQuadraticAtSpec : ChangeSpec := { name := "fnExactQuadraticAt", fn := fun _ => fun
  | [d1, d2, d3] => { results := [.lit (.bool true)], args := [d1, d2, d3] }
  | _ => none }
def fnExactQuadraticAtRow : OpenClaim := { program := "ytihcedegoolpmaa", sum := "e06917193cca7fef349b9ab8d1aef87fcd69704f41d7c8ae523930c156a4e127", func := "loop.example/g01342/laws.FnExactQuadraticAt", spec := "fnExactQuadraticAt", apart := false }
def FnExactQuadraticAtSaid : Prop := fnExactQuadraticAtRow.holds Try.pinned (OpenSpec.ofChange fnExactQuadraticAtSpec)

/-- ITS FALSE NEIGHBOUR: 'it returns false'. Refute it at one input. -/
def fnExactQuadraticAtWrong : ChangeSpec := { name := "fnExactQuadraticAt", fn := fun _ => fun
  | [d1, d2, d3] => { results := [.lit (.bool false)], args := [d1, d2, d3] }
  | _ => none }
def FnExactQuadraticAtWrongFalsely : Prop := fnExactQuadraticAtRow.holds Try.pinned (OpenSpec.ofChange fnExactQuadraticAtWrong)

/-- 'laws.FnExactQuadraticDiscriminant': WHATEVER THE INPUT: true; the input reads as it did. -/
def fnExactQuadraticDiscriminantSpec : ChangeSpec := { name := "fnExactQuadraticDiscriminant", fn := fun _ => fun
  | [d] => { results := [.lit (.bool true)], args := [d] }
  | _ => none }
def fnExactQuadraticDiscriminantRow : OpenClaim := { program := "ytihcedegoolpmaa", sum := "e06917193cca7fef349b9ab8d1aef87fcd69704f41d7c8ae523930c156a4e127", func := "loop.example/g01342/laws.FnExactQuadraticDiscriminant", spec := "fnExactQuadraticDiscriminant", apart := false }
def FnExactQuadraticDiscriminantSaid : Prop := fnExactQuadraticDiscriminantRow.holds Try.pinned (OpenSpec.ofChange fnExactQuadraticDiscriminantSpec)

/-- ITS FALSE NEIGHBOUR: 'it returns false'. Refute it at one input. -/
def fnExactQuadraticDiscriminantWrong : ChangeSpec := { name := "fnExactQuadraticDiscriminant", fn := fun _ => fun
  | [d] => { results := [.lit (.bool false)], args := [d] }
  | _ => none }
def FnExactQuadraticDiscriminantWrongFalsely : Prop := fnExactQuadraticDiscriminantRow.holds Try.pinned (OpenSpec.ofChange fnExactQuadraticDiscriminantWrong)

/-- 'laws.FnExactChangeQuadratic': WHATEVER THE INPUT: true; the input reads as it did. -/
def fnExactChangeQuadraticSpec : ChangeSpec := { name := "fnExactChangeQuadratic", fn := fun _ => fun
  | [d1, d2] => { results := [.lit (.bool true)], args := [d1, d2] }
  | _ => none }
def fnExactChangeQuadraticRow : OpenClaim := { program := "ytihcedegoolpmaa", sum := "e06917193cca7fef349b9ab8d1aef87fcd69704f41d7c8ae523930c156a4e127", func := "loop.example/g01342/laws.FnExactChangeQuadratic", spec := "fnExactChangeQuadratic", apart := false }
def FnExactChangeQuadraticSaid : Prop := fnExactChangeQuadraticRow.holds Try.pinned (OpenSpec.ofChange fnExactChangeQuadraticSpec)

/-- ITS FALSE NEIGHBOUR: 'it returns false'. Refute it at one input. -/
def fnExactChangeQuadraticWrong : ChangeSpec := { name := "fnExactChangeQuadratic", fn := fun _ => fun
  | [d1, d2] => { results := [.lit (.bool false)], args := [d1, d2] }
  | _ => none }
def FnExactChangeQuadraticWrongFalsely : Prop := fnExactChangeQuadraticRow.holds Try.pinned (OpenSpec.ofChange fnExactChangeQuadraticWrong)

/-- 'laws.FnExactPairingOf': WHATEVER THE INPUT: true; the input reads as it did. -/
def fnExactPairingOfSpec : ChangeSpec := { name := "fnExactPairingOf", fn := fun _ => fun
  | [d1, d2] => { results := [.lit (.bool true)], args := [d1, d2] }
  | _ => none }
def fnExactPairingOfRow : OpenClaim := { program := "ytihcedegoolpmaa", sum := "e06917193cca7fef349b9ab8d1aef87fcd69704f41d7c8ae523930c156a4e127", func := "loop.example/g01342/laws.FnExactPairingOf", spec := "fnExactPairingOf", apart := false }
def FnExactPairingOfSaid : Prop := fnExactPairingOfRow.holds Try.pinned (OpenSpec.ofChange fnExactPairingOfSpec)

/-- ITS FALSE NEIGHBOUR: 'it returns false'. Refute it at one input. -/
def fnExactPairingOfWrong : ChangeSpec := { name := "fnExactPairingOf", fn := fun _ => fun
  | [d1, d2] => { results := [.lit (.bool false)], args := [d1, d2] }
  | _ => none }
def FnExactPairingOfWrongFalsely : Prop := fnExactPairingOfRow.holds Try.pinned (OpenSpec.ofChange fnExactPairingOfWrong)

/-- 'laws.FnExactHessianContent': WHATEVER THE INPUT: true; the input reads as it did. -/
def fnExactHessianContentSpec : ChangeSpec := { name := "fnExactHessianContent", fn := fun _ => fun
  | [d] => { results := [.lit (.bool true)], args := [d] }
  | _ => none }
def fnExactHessianContentRow : OpenClaim := { program := "ytihcedegoolpmaa", sum := "e06917193cca7fef349b9ab8d1aef87fcd69704f41d7c8ae523930c156a4e127", func := "loop.example/g01342/laws.FnExactHessianContent", spec := "fnExactHessianContent", apart := false }
def FnExactHessianContentSaid : Prop := fnExactHessianContentRow.holds Try.pinned (OpenSpec.ofChange fnExactHessianContentSpec)

/-- ITS FALSE NEIGHBOUR: 'it returns false'. Refute it at one input. -/
def fnExactHessianContentWrong : ChangeSpec := { name := "fnExactHessianContent", fn := fun _ => fun
  | [d] => { results := [.lit (.bool false)], args := [d] }
  | _ => none }
def FnExactHessianContentWrongFalsely : Prop := fnExactHessianContentRow.holds Try.pinned (OpenSpec.ofChange fnExactHessianContentWrong)

/-- 'laws.FnExactIsDefinite': WHATEVER THE INPUT: true; the input reads as it did. -/
def fnExactIsDefiniteSpec : ChangeSpec := { name := "fnExactIsDefinite", fn := fun _ => fun
  | [d] => { results := [.lit (.bool true)], args := [d] }
  | _ => none }
def fnExactIsDefiniteRow : OpenClaim := { program := "ytihcedegoolpmaa", sum := "e06917193cca7fef349b9ab8d1aef87fcd69704f41d7c8ae523930c156a4e127", func := "loop.example/g01342/laws.FnExactIsDefinite", spec := "fnExactIsDefinite", apart := false }
def FnExactIsDefiniteSaid : Prop := fnExactIsDefiniteRow.holds Try.pinned (OpenSpec.ofChange fnExactIsDefiniteSpec)

/-- ITS FALSE NEIGHBOUR: 'it returns false'. Refute it at one input. -/
def fnExactIsDefiniteWrong : ChangeSpec := { name := "fnExactIsDefinite", fn := fun _ => fun
  | [d] => { results := [.lit (.bool false)], args := [d] }
  | _ => none }
def FnExactIsDefiniteWrongFalsely : Prop := fnExactIsDefiniteRow.holds Try.pinned (OpenSpec.ofChange fnExactIsDefiniteWrong)

/- THE SECOND FORM. 'bulk': how many values and letters a reading holds, each counted each time it is reached (what is shared counts as often as it is met; a slice's spare places count too). A statement '..UptoSaid' is the law's where the arguments, and the package variables that the reading takes, are together of bulk at most 1048576: NARROWER than '..Said'. Prove '..Said' where nothing that the law and all that it calls make is longer than what came in: it says more and counts as full. Else prove '..UptoSaid'. A law counts once. -/
mutual
def uptoBulk {H : Type} : DataW H → Nat
  | .lit (.string bytes) => bytes.length + 1
  | .lit _ => 1
  | .nil => 1
  | .ptr d => uptoBulk d + 1
  | .slice elems spare => uptoBulkAll elems + uptoBulkAll spare + 1
  | .agg parts => uptoBulkAll parts + 1
  | .iface _ d => uptoBulk d + 1
  | .map entries => uptoBulkEntries entries + 1
  | .held _ => 1
def uptoBulkAll {H : Type} : List (DataW H) → Nat
  | [] => 0
  | d :: r => uptoBulk d + uptoBulkAll r
def uptoBulkEntries {H : Type} : List (Lit × DataW H) → Nat
  | [] => 0
  | x :: r => uptoBulkEntry x + uptoBulkEntries r
def uptoBulkEntry {H : Type} : Lit × DataW H → Nat
  | (.string bytes, d) => bytes.length + uptoBulk d + 1
  | (_, d) => uptoBulk d + 1
 end
def uptoSmall : (H : Type) → List (DataW H) → Bool := fun _ ds => decide (uptoBulkAll ds ≤ 1048576)
def OpenSpec.upto (s : _root_.Go.ChangeSpec) : _root_.Go.OpenSpec := { _root_.Go.OpenSpec.ofChange s with cond := some uptoSmall }

/-- 'laws.FnExactValueAt', WHERE WHAT IT READS IS OF BULK AT MOST 1048576: true; the input reads as it did. -/
def fnExactValueAtUptoRow : OpenClaim := { program := "ytihcedegoolpmaa", sum := "e06917193cca7fef349b9ab8d1aef87fcd69704f41d7c8ae523930c156a4e127", func := "loop.example/g01342/laws.FnExactValueAt", spec := "fnExactValueAt", apart := false, narrowed := true }
def FnExactValueAtUptoSaid : Prop := fnExactValueAtUptoRow.holds Try.pinned (OpenSpec.upto fnExactValueAtSpec)

/-- 'laws.FnExactContentOf', WHERE WHAT IT READS IS OF BULK AT MOST 1048576: true; the input reads as it did. -/
def fnExactContentOfUptoRow : OpenClaim := { program := "ytihcedegoolpmaa", sum := "e06917193cca7fef349b9ab8d1aef87fcd69704f41d7c8ae523930c156a4e127", func := "loop.example/g01342/laws.FnExactContentOf", spec := "fnExactContentOf", apart := false, narrowed := true }
def FnExactContentOfUptoSaid : Prop := fnExactContentOfUptoRow.holds Try.pinned (OpenSpec.upto fnExactContentOfSpec)

/-- 'laws.FnExactPrimitivePart', WHERE WHAT IT READS IS OF BULK AT MOST 1048576: true; the input reads as it did. -/
def fnExactPrimitivePartUptoRow : OpenClaim := { program := "ytihcedegoolpmaa", sum := "e06917193cca7fef349b9ab8d1aef87fcd69704f41d7c8ae523930c156a4e127", func := "loop.example/g01342/laws.FnExactPrimitivePart", spec := "fnExactPrimitivePart", apart := false, narrowed := true }
def FnExactPrimitivePartUptoSaid : Prop := fnExactPrimitivePartUptoRow.holds Try.pinned (OpenSpec.upto fnExactPrimitivePartSpec)

/-- 'laws.FnExactSlopesAt', WHERE WHAT IT READS IS OF BULK AT MOST 1048576: true; the input reads as it did. -/
def fnExactSlopesAtUptoRow : OpenClaim := { program := "ytihcedegoolpmaa", sum := "e06917193cca7fef349b9ab8d1aef87fcd69704f41d7c8ae523930c156a4e127", func := "loop.example/g01342/laws.FnExactSlopesAt", spec := "fnExactSlopesAt", apart := false, narrowed := true }
def FnExactSlopesAtUptoSaid : Prop := fnExactSlopesAtUptoRow.holds Try.pinned (OpenSpec.upto fnExactSlopesAtSpec)

/-- 'laws.FnExactHessianOf', WHERE WHAT IT READS IS OF BULK AT MOST 1048576: true; the input reads as it did. -/
def fnExactHessianOfUptoRow : OpenClaim := { program := "ytihcedegoolpmaa", sum := "e06917193cca7fef349b9ab8d1aef87fcd69704f41d7c8ae523930c156a4e127", func := "loop.example/g01342/laws.FnExactHessianOf", spec := "fnExactHessianOf", apart := false, narrowed := true }
def FnExactHessianOfUptoSaid : Prop := fnExactHessianOfUptoRow.holds Try.pinned (OpenSpec.upto fnExactHessianOfSpec)

/-- 'laws.FnExactCovariantOf', WHERE WHAT IT READS IS OF BULK AT MOST 1048576: true; the input reads as it did. -/
def fnExactCovariantOfUptoRow : OpenClaim := { program := "ytihcedegoolpmaa", sum := "e06917193cca7fef349b9ab8d1aef87fcd69704f41d7c8ae523930c156a4e127", func := "loop.example/g01342/laws.FnExactCovariantOf", spec := "fnExactCovariantOf", apart := false, narrowed := true }
def FnExactCovariantOfUptoSaid : Prop := fnExactCovariantOfUptoRow.holds Try.pinned (OpenSpec.upto fnExactCovariantOfSpec)

/-- 'laws.FnExactCovariantAt', WHERE WHAT IT READS IS OF BULK AT MOST 1048576: true; the input reads as it did. -/
def fnExactCovariantAtUptoRow : OpenClaim := { program := "ytihcedegoolpmaa", sum := "e06917193cca7fef349b9ab8d1aef87fcd69704f41d7c8ae523930c156a4e127", func := "loop.example/g01342/laws.FnExactCovariantAt", spec := "fnExactCovariantAt", apart := false, narrowed := true }
def FnExactCovariantAtUptoSaid : Prop := fnExactCovariantAtUptoRow.holds Try.pinned (OpenSpec.upto fnExactCovariantAtSpec)

/-- 'laws.FnExactIsQuadratic', WHERE WHAT IT READS IS OF BULK AT MOST 1048576: true; the input reads as it did. -/
def fnExactIsQuadraticUptoRow : OpenClaim := { program := "ytihcedegoolpmaa", sum := "e06917193cca7fef349b9ab8d1aef87fcd69704f41d7c8ae523930c156a4e127", func := "loop.example/g01342/laws.FnExactIsQuadratic", spec := "fnExactIsQuadratic", apart := false, narrowed := true }
def FnExactIsQuadraticUptoSaid : Prop := fnExactIsQuadraticUptoRow.holds Try.pinned (OpenSpec.upto fnExactIsQuadraticSpec)

/-- 'laws.FnExactQuadraticAt', WHERE WHAT IT READS IS OF BULK AT MOST 1048576: true; the input reads as it did. -/
def fnExactQuadraticAtUptoRow : OpenClaim := { program := "ytihcedegoolpmaa", sum := "e06917193cca7fef349b9ab8d1aef87fcd69704f41d7c8ae523930c156a4e127", func := "loop.example/g01342/laws.FnExactQuadraticAt", spec := "fnExactQuadraticAt", apart := false, narrowed := true }
def FnExactQuadraticAtUptoSaid : Prop := fnExactQuadraticAtUptoRow.holds Try.pinned (OpenSpec.upto fnExactQuadraticAtSpec)

/-- 'laws.FnExactQuadraticDiscriminant', WHERE WHAT IT READS IS OF BULK AT MOST 1048576: true; the input reads as it did. -/
def fnExactQuadraticDiscriminantUptoRow : OpenClaim := { program := "ytihcedegoolpmaa", sum := "e06917193cca7fef349b9ab8d1aef87fcd69704f41d7c8ae523930c156a4e127", func := "loop.example/g01342/laws.FnExactQuadraticDiscriminant", spec := "fnExactQuadraticDiscriminant", apart := false, narrowed := true }
def FnExactQuadraticDiscriminantUptoSaid : Prop := fnExactQuadraticDiscriminantUptoRow.holds Try.pinned (OpenSpec.upto fnExactQuadraticDiscriminantSpec)

/-- 'laws.FnExactChangeQuadratic', WHERE WHAT IT READS IS OF BULK AT MOST 1048576: true; the input reads as it did. -/
def fnExactChangeQuadraticUptoRow : OpenClaim := { program := "ytihcedegoolpmaa", sum := "e06917193cca7fef349b9ab8d1aef87fcd69704f41d7c8ae523930c156a4e127", func := "loop.example/g01342/laws.FnExactChangeQuadratic", spec := "fnExactChangeQuadratic", apart := false, narrowed := true }
def FnExactChangeQuadraticUptoSaid : Prop := fnExactChangeQuadraticUptoRow.holds Try.pinned (OpenSpec.upto fnExactChangeQuadraticSpec)

/-- 'laws.FnExactPairingOf', WHERE WHAT IT READS IS OF BULK AT MOST 1048576: true; the input reads as it did. -/
def fnExactPairingOfUptoRow : OpenClaim := { program := "ytihcedegoolpmaa", sum := "e06917193cca7fef349b9ab8d1aef87fcd69704f41d7c8ae523930c156a4e127", func := "loop.example/g01342/laws.FnExactPairingOf", spec := "fnExactPairingOf", apart := false, narrowed := true }
def FnExactPairingOfUptoSaid : Prop := fnExactPairingOfUptoRow.holds Try.pinned (OpenSpec.upto fnExactPairingOfSpec)

/-- 'laws.FnExactHessianContent', WHERE WHAT IT READS IS OF BULK AT MOST 1048576: true; the input reads as it did. -/
def fnExactHessianContentUptoRow : OpenClaim := { program := "ytihcedegoolpmaa", sum := "e06917193cca7fef349b9ab8d1aef87fcd69704f41d7c8ae523930c156a4e127", func := "loop.example/g01342/laws.FnExactHessianContent", spec := "fnExactHessianContent", apart := false, narrowed := true }
def FnExactHessianContentUptoSaid : Prop := fnExactHessianContentUptoRow.holds Try.pinned (OpenSpec.upto fnExactHessianContentSpec)

/-- 'laws.FnExactIsDefinite', WHERE WHAT IT READS IS OF BULK AT MOST 1048576: true; the input reads as it did. -/
def fnExactIsDefiniteUptoRow : OpenClaim := { program := "ytihcedegoolpmaa", sum := "e06917193cca7fef349b9ab8d1aef87fcd69704f41d7c8ae523930c156a4e127", func := "loop.example/g01342/laws.FnExactIsDefinite", spec := "fnExactIsDefinite", apart := false, narrowed := true }
def FnExactIsDefiniteUptoSaid : Prop := fnExactIsDefiniteUptoRow.holds Try.pinned (OpenSpec.upto fnExactIsDefiniteSpec)

end Rows
end Go.Proofs.Ytihcedegoolpmaa
