/-
  No cell of these rows narrows 'for every input' (looked for: loops, veiled, ifaces, maps, wideKeys, modest, calm, conditions, laid).
  DERIVED. THE GIVEN ROWS OF THIS SEAT. 15 by the template 'for every input the law returns true; each argument reads behind the call as it read before'; 0 by the template 'total and deterministic' (their statements: YtlgijhpjmfllmaaTotals.lean).
  GIVEN WITH THE SEED: the statements are not yours to turn. If you find one false, say at which input.
  Laid BY PROGRAM, IN A SANDBOX (cutbox-rows.mjs): the forced cells as the released guide's own fill.sh prints them over the translation 053a3731dbc315c0… (all of the seat's roots in one cut). By AI agents, Wed Nov 11 2026. No macro, syntax, notation, axiom, sorry.
-/
import Derived.Test.YtlgijhpjmfllmaaChecked
import GoSem.Claim
import GoSem.ClaimJoined
import GoSem.ClaimMapViews
import Derived.JoinedTies
import Derived.KernelRfl
namespace Go.Proofs.Ytlgijhpjmfllmaa
/- THE CELL 'sum', in the pinned program and in every row, IS THE sha256 OF THE DUMP (.gsa) THAT YtlgijhpjmfllmaaProg.lean LOADS. Nothing in Lean hashes anything: it is a label: what it is worth is what the hold of that sum in a sandbox is worth. -/
noncomputable def Try.pinned : Pinned := { name := "ytlgijhpjmfllmaa", sum := "053a3731dbc315c0ded00c0021ea70c22a37d82ea31dea085a6447e137e5f2f0", checked := Try.checked }
namespace Rows
def none {H : Type} : Left H := { results := [], args := [] }

/-- 'laws.FnMatrices': WHATEVER THE INPUT: true; the input reads as it did. -/
def fnMatricesSpec : ChangeSpec := { name := "fnMatrices", fn := fun _ => fun
  | [d] => { results := [.lit (.bool true)], args := [d] }
  | _ => none }
def fnMatricesRow : OpenClaim := { program := "ytlgijhpjmfllmaa", sum := "053a3731dbc315c0ded00c0021ea70c22a37d82ea31dea085a6447e137e5f2f0", func := "loop.example/g01342/laws.FnMatrices", spec := "fnMatrices", unfollowed := true, recurses := true, plainKeys := false, apart := false }
def FnMatricesSaid : Prop := fnMatricesRow.holds Try.pinned (OpenSpec.ofChange fnMatricesSpec)

/-- ITS FALSE NEIGHBOUR: 'it returns false'. Refute it at one input. -/
def fnMatricesWrong : ChangeSpec := { name := "fnMatrices", fn := fun _ => fun
  | [d] => { results := [.lit (.bool false)], args := [d] }
  | _ => none }
def FnMatricesWrongFalsely : Prop := fnMatricesRow.holds Try.pinned (OpenSpec.ofChange fnMatricesWrong)

/-- 'laws.FnExactIsForm': WHATEVER THE INPUT: true; the input reads as it did. -/
def fnExactIsFormSpec : ChangeSpec := { name := "fnExactIsForm", fn := fun _ => fun
  | [d] => { results := [.lit (.bool true)], args := [d] }
  | _ => none }
def fnExactIsFormRow : OpenClaim := { program := "ytlgijhpjmfllmaa", sum := "053a3731dbc315c0ded00c0021ea70c22a37d82ea31dea085a6447e137e5f2f0", func := "loop.example/g01342/laws.FnExactIsForm", spec := "fnExactIsForm", plainKeys := false, apart := false }
def FnExactIsFormSaid : Prop := fnExactIsFormRow.holds Try.pinned (OpenSpec.ofChange fnExactIsFormSpec)

/-- ITS FALSE NEIGHBOUR: 'it returns false'. Refute it at one input. -/
def fnExactIsFormWrong : ChangeSpec := { name := "fnExactIsForm", fn := fun _ => fun
  | [d] => { results := [.lit (.bool false)], args := [d] }
  | _ => none }
def FnExactIsFormWrongFalsely : Prop := fnExactIsFormRow.holds Try.pinned (OpenSpec.ofChange fnExactIsFormWrong)

/-- 'laws.FnExactValueAt': WHATEVER THE INPUT: true; the input reads as it did. -/
def fnExactValueAtSpec : ChangeSpec := { name := "fnExactValueAt", fn := fun _ => fun
  | [d1, d2, d3] => { results := [.lit (.bool true)], args := [d1, d2, d3] }
  | _ => none }
def fnExactValueAtRow : OpenClaim := { program := "ytlgijhpjmfllmaa", sum := "053a3731dbc315c0ded00c0021ea70c22a37d82ea31dea085a6447e137e5f2f0", func := "loop.example/g01342/laws.FnExactValueAt", spec := "fnExactValueAt", plainKeys := false, apart := false }
def FnExactValueAtSaid : Prop := fnExactValueAtRow.holds Try.pinned (OpenSpec.ofChange fnExactValueAtSpec)

/-- ITS FALSE NEIGHBOUR: 'it returns false'. Refute it at one input. -/
def fnExactValueAtWrong : ChangeSpec := { name := "fnExactValueAt", fn := fun _ => fun
  | [d1, d2, d3] => { results := [.lit (.bool false)], args := [d1, d2, d3] }
  | _ => none }
def FnExactValueAtWrongFalsely : Prop := fnExactValueAtRow.holds Try.pinned (OpenSpec.ofChange fnExactValueAtWrong)

/-- 'laws.FnExactDiscriminantOf': WHATEVER THE INPUT: true; the input reads as it did. -/
def fnExactDiscriminantOfSpec : ChangeSpec := { name := "fnExactDiscriminantOf", fn := fun _ => fun
  | [d] => { results := [.lit (.bool true)], args := [d] }
  | _ => none }
def fnExactDiscriminantOfRow : OpenClaim := { program := "ytlgijhpjmfllmaa", sum := "053a3731dbc315c0ded00c0021ea70c22a37d82ea31dea085a6447e137e5f2f0", func := "loop.example/g01342/laws.FnExactDiscriminantOf", spec := "fnExactDiscriminantOf", plainKeys := false, apart := false }
def FnExactDiscriminantOfSaid : Prop := fnExactDiscriminantOfRow.holds Try.pinned (OpenSpec.ofChange fnExactDiscriminantOfSpec)

/-- ITS FALSE NEIGHBOUR: 'it returns false'. Refute it at one input. -/
def fnExactDiscriminantOfWrong : ChangeSpec := { name := "fnExactDiscriminantOf", fn := fun _ => fun
  | [d] => { results := [.lit (.bool false)], args := [d] }
  | _ => none }
def FnExactDiscriminantOfWrongFalsely : Prop := fnExactDiscriminantOfRow.holds Try.pinned (OpenSpec.ofChange fnExactDiscriminantOfWrong)

/-- 'laws.FnExactContentOf': WHATEVER THE INPUT: true; the input reads as it did. -/
def fnExactContentOfSpec : ChangeSpec := { name := "fnExactContentOf", fn := fun _ => fun
  | [d] => { results := [.lit (.bool true)], args := [d] }
  | _ => none }
def fnExactContentOfRow : OpenClaim := { program := "ytlgijhpjmfllmaa", sum := "053a3731dbc315c0ded00c0021ea70c22a37d82ea31dea085a6447e137e5f2f0", func := "loop.example/g01342/laws.FnExactContentOf", spec := "fnExactContentOf", plainKeys := false, apart := false }
def FnExactContentOfSaid : Prop := fnExactContentOfRow.holds Try.pinned (OpenSpec.ofChange fnExactContentOfSpec)

/-- ITS FALSE NEIGHBOUR: 'it returns false'. Refute it at one input. -/
def fnExactContentOfWrong : ChangeSpec := { name := "fnExactContentOf", fn := fun _ => fun
  | [d] => { results := [.lit (.bool false)], args := [d] }
  | _ => none }
def FnExactContentOfWrongFalsely : Prop := fnExactContentOfRow.holds Try.pinned (OpenSpec.ofChange fnExactContentOfWrong)

/-- 'laws.FnExactPrimitivePart': WHATEVER THE INPUT: true; the input reads as it did. -/
def fnExactPrimitivePartSpec : ChangeSpec := { name := "fnExactPrimitivePart", fn := fun _ => fun
  | [d] => { results := [.lit (.bool true)], args := [d] }
  | _ => none }
def fnExactPrimitivePartRow : OpenClaim := { program := "ytlgijhpjmfllmaa", sum := "053a3731dbc315c0ded00c0021ea70c22a37d82ea31dea085a6447e137e5f2f0", func := "loop.example/g01342/laws.FnExactPrimitivePart", spec := "fnExactPrimitivePart", plainKeys := false, apart := false }
def FnExactPrimitivePartSaid : Prop := fnExactPrimitivePartRow.holds Try.pinned (OpenSpec.ofChange fnExactPrimitivePartSpec)

/-- ITS FALSE NEIGHBOUR: 'it returns false'. Refute it at one input. -/
def fnExactPrimitivePartWrong : ChangeSpec := { name := "fnExactPrimitivePart", fn := fun _ => fun
  | [d] => { results := [.lit (.bool false)], args := [d] }
  | _ => none }
def FnExactPrimitivePartWrongFalsely : Prop := fnExactPrimitivePartRow.holds Try.pinned (OpenSpec.ofChange fnExactPrimitivePartWrong)

/-- 'laws.FnExactIsMatrix': WHATEVER THE INPUT: true; the input reads as it did. -/
def fnExactIsMatrixSpec : ChangeSpec := { name := "fnExactIsMatrix", fn := fun _ => fun
  | [d] => { results := [.lit (.bool true)], args := [d] }
  | _ => none }
def fnExactIsMatrixRow : OpenClaim := { program := "ytlgijhpjmfllmaa", sum := "053a3731dbc315c0ded00c0021ea70c22a37d82ea31dea085a6447e137e5f2f0", func := "loop.example/g01342/laws.FnExactIsMatrix", spec := "fnExactIsMatrix", plainKeys := false, apart := false }
def FnExactIsMatrixSaid : Prop := fnExactIsMatrixRow.holds Try.pinned (OpenSpec.ofChange fnExactIsMatrixSpec)

/-- ITS FALSE NEIGHBOUR: 'it returns false'. Refute it at one input. -/
def fnExactIsMatrixWrong : ChangeSpec := { name := "fnExactIsMatrix", fn := fun _ => fun
  | [d] => { results := [.lit (.bool false)], args := [d] }
  | _ => none }
def FnExactIsMatrixWrongFalsely : Prop := fnExactIsMatrixRow.holds Try.pinned (OpenSpec.ofChange fnExactIsMatrixWrong)

/-- 'laws.FnExactDeterminantOf': WHATEVER THE INPUT: true; the input reads as it did. -/
def fnExactDeterminantOfSpec : ChangeSpec := { name := "fnExactDeterminantOf", fn := fun _ => fun
  | [d] => { results := [.lit (.bool true)], args := [d] }
  | _ => none }
def fnExactDeterminantOfRow : OpenClaim := { program := "ytlgijhpjmfllmaa", sum := "053a3731dbc315c0ded00c0021ea70c22a37d82ea31dea085a6447e137e5f2f0", func := "loop.example/g01342/laws.FnExactDeterminantOf", spec := "fnExactDeterminantOf", plainKeys := false, apart := false }
def FnExactDeterminantOfSaid : Prop := fnExactDeterminantOfRow.holds Try.pinned (OpenSpec.ofChange fnExactDeterminantOfSpec)

/-- ITS FALSE NEIGHBOUR: 'it returns false'. Refute it at one input. -/
def fnExactDeterminantOfWrong : ChangeSpec := { name := "fnExactDeterminantOf", fn := fun _ => fun
  | [d] => { results := [.lit (.bool false)], args := [d] }
  | _ => none }
def FnExactDeterminantOfWrongFalsely : Prop := fnExactDeterminantOfRow.holds Try.pinned (OpenSpec.ofChange fnExactDeterminantOfWrong)

/-- 'laws.FnExactMultiplyMatrices': WHATEVER THE INPUT: true; the input reads as it did. -/
def fnExactMultiplyMatricesSpec : ChangeSpec := { name := "fnExactMultiplyMatrices", fn := fun _ => fun
  | [d1, d2] => { results := [.lit (.bool true)], args := [d1, d2] }
  | _ => none }
def fnExactMultiplyMatricesRow : OpenClaim := { program := "ytlgijhpjmfllmaa", sum := "053a3731dbc315c0ded00c0021ea70c22a37d82ea31dea085a6447e137e5f2f0", func := "loop.example/g01342/laws.FnExactMultiplyMatrices", spec := "fnExactMultiplyMatrices", plainKeys := false, apart := false }
def FnExactMultiplyMatricesSaid : Prop := fnExactMultiplyMatricesRow.holds Try.pinned (OpenSpec.ofChange fnExactMultiplyMatricesSpec)

/-- ITS FALSE NEIGHBOUR: 'it returns false'. Refute it at one input. -/
def fnExactMultiplyMatricesWrong : ChangeSpec := { name := "fnExactMultiplyMatrices", fn := fun _ => fun
  | [d1, d2] => { results := [.lit (.bool false)], args := [d1, d2] }
  | _ => none }
def FnExactMultiplyMatricesWrongFalsely : Prop := fnExactMultiplyMatricesRow.holds Try.pinned (OpenSpec.ofChange fnExactMultiplyMatricesWrong)

/-- 'laws.FnExactInverseMatrix': WHATEVER THE INPUT: true; the input reads as it did. -/
def fnExactInverseMatrixSpec : ChangeSpec := { name := "fnExactInverseMatrix", fn := fun _ => fun
  | [d] => { results := [.lit (.bool true)], args := [d] }
  | _ => none }
def fnExactInverseMatrixRow : OpenClaim := { program := "ytlgijhpjmfllmaa", sum := "053a3731dbc315c0ded00c0021ea70c22a37d82ea31dea085a6447e137e5f2f0", func := "loop.example/g01342/laws.FnExactInverseMatrix", spec := "fnExactInverseMatrix", plainKeys := false, apart := false }
def FnExactInverseMatrixSaid : Prop := fnExactInverseMatrixRow.holds Try.pinned (OpenSpec.ofChange fnExactInverseMatrixSpec)

/-- ITS FALSE NEIGHBOUR: 'it returns false'. Refute it at one input. -/
def fnExactInverseMatrixWrong : ChangeSpec := { name := "fnExactInverseMatrix", fn := fun _ => fun
  | [d] => { results := [.lit (.bool false)], args := [d] }
  | _ => none }
def FnExactInverseMatrixWrongFalsely : Prop := fnExactInverseMatrixRow.holds Try.pinned (OpenSpec.ofChange fnExactInverseMatrixWrong)

/-- 'laws.FnExactChangeForm': WHATEVER THE INPUT: true; the input reads as it did. -/
def fnExactChangeFormSpec : ChangeSpec := { name := "fnExactChangeForm", fn := fun _ => fun
  | [d1, d2] => { results := [.lit (.bool true)], args := [d1, d2] }
  | _ => none }
def fnExactChangeFormRow : OpenClaim := { program := "ytlgijhpjmfllmaa", sum := "053a3731dbc315c0ded00c0021ea70c22a37d82ea31dea085a6447e137e5f2f0", func := "loop.example/g01342/laws.FnExactChangeForm", spec := "fnExactChangeForm", unfollowed := true, recurses := true, plainKeys := false, apart := false }
def FnExactChangeFormSaid : Prop := fnExactChangeFormRow.holds Try.pinned (OpenSpec.ofChange fnExactChangeFormSpec)

/-- ITS FALSE NEIGHBOUR: 'it returns false'. Refute it at one input. -/
def fnExactChangeFormWrong : ChangeSpec := { name := "fnExactChangeForm", fn := fun _ => fun
  | [d1, d2] => { results := [.lit (.bool false)], args := [d1, d2] }
  | _ => none }
def FnExactChangeFormWrongFalsely : Prop := fnExactChangeFormRow.holds Try.pinned (OpenSpec.ofChange fnExactChangeFormWrong)

/-- 'laws.FnExactAddForms': WHATEVER THE INPUT: true; the input reads as it did. -/
def fnExactAddFormsSpec : ChangeSpec := { name := "fnExactAddForms", fn := fun _ => fun
  | [d1, d2, d3] => { results := [.lit (.bool true)], args := [d1, d2, d3] }
  | _ => none }
def fnExactAddFormsRow : OpenClaim := { program := "ytlgijhpjmfllmaa", sum := "053a3731dbc315c0ded00c0021ea70c22a37d82ea31dea085a6447e137e5f2f0", func := "loop.example/g01342/laws.FnExactAddForms", spec := "fnExactAddForms", plainKeys := false, apart := false }
def FnExactAddFormsSaid : Prop := fnExactAddFormsRow.holds Try.pinned (OpenSpec.ofChange fnExactAddFormsSpec)

/-- ITS FALSE NEIGHBOUR: 'it returns false'. Refute it at one input. -/
def fnExactAddFormsWrong : ChangeSpec := { name := "fnExactAddForms", fn := fun _ => fun
  | [d1, d2, d3] => { results := [.lit (.bool false)], args := [d1, d2, d3] }
  | _ => none }
def FnExactAddFormsWrongFalsely : Prop := fnExactAddFormsRow.holds Try.pinned (OpenSpec.ofChange fnExactAddFormsWrong)

/-- 'laws.FnExactReverseForm': WHATEVER THE INPUT: true; the input reads as it did. -/
def fnExactReverseFormSpec : ChangeSpec := { name := "fnExactReverseForm", fn := fun _ => fun
  | [d] => { results := [.lit (.bool true)], args := [d] }
  | _ => none }
def fnExactReverseFormRow : OpenClaim := { program := "ytlgijhpjmfllmaa", sum := "053a3731dbc315c0ded00c0021ea70c22a37d82ea31dea085a6447e137e5f2f0", func := "loop.example/g01342/laws.FnExactReverseForm", spec := "fnExactReverseForm", plainKeys := false, apart := false }
def FnExactReverseFormSaid : Prop := fnExactReverseFormRow.holds Try.pinned (OpenSpec.ofChange fnExactReverseFormSpec)

/-- ITS FALSE NEIGHBOUR: 'it returns false'. Refute it at one input. -/
def fnExactReverseFormWrong : ChangeSpec := { name := "fnExactReverseForm", fn := fun _ => fun
  | [d] => { results := [.lit (.bool false)], args := [d] }
  | _ => none }
def FnExactReverseFormWrongFalsely : Prop := fnExactReverseFormRow.holds Try.pinned (OpenSpec.ofChange fnExactReverseFormWrong)

/-- 'laws.FnExactSlopesAt': WHATEVER THE INPUT: true; the input reads as it did. -/
def fnExactSlopesAtSpec : ChangeSpec := { name := "fnExactSlopesAt", fn := fun _ => fun
  | [d1, d2, d3] => { results := [.lit (.bool true)], args := [d1, d2, d3] }
  | _ => none }
def fnExactSlopesAtRow : OpenClaim := { program := "ytlgijhpjmfllmaa", sum := "053a3731dbc315c0ded00c0021ea70c22a37d82ea31dea085a6447e137e5f2f0", func := "loop.example/g01342/laws.FnExactSlopesAt", spec := "fnExactSlopesAt", plainKeys := false, apart := false }
def FnExactSlopesAtSaid : Prop := fnExactSlopesAtRow.holds Try.pinned (OpenSpec.ofChange fnExactSlopesAtSpec)

/-- ITS FALSE NEIGHBOUR: 'it returns false'. Refute it at one input. -/
def fnExactSlopesAtWrong : ChangeSpec := { name := "fnExactSlopesAt", fn := fun _ => fun
  | [d1, d2, d3] => { results := [.lit (.bool false)], args := [d1, d2, d3] }
  | _ => none }
def FnExactSlopesAtWrongFalsely : Prop := fnExactSlopesAtRow.holds Try.pinned (OpenSpec.ofChange fnExactSlopesAtWrong)

/-- 'laws.FnExactFormThrough': WHATEVER THE INPUT: true; the input reads as it did. -/
def fnExactFormThroughSpec : ChangeSpec := { name := "fnExactFormThrough", fn := fun _ => fun
  | [d] => { results := [.lit (.bool true)], args := [d] }
  | _ => none }
def fnExactFormThroughRow : OpenClaim := { program := "ytlgijhpjmfllmaa", sum := "053a3731dbc315c0ded00c0021ea70c22a37d82ea31dea085a6447e137e5f2f0", func := "loop.example/g01342/laws.FnExactFormThrough", spec := "fnExactFormThrough", plainKeys := false, apart := false }
def FnExactFormThroughSaid : Prop := fnExactFormThroughRow.holds Try.pinned (OpenSpec.ofChange fnExactFormThroughSpec)

/-- ITS FALSE NEIGHBOUR: 'it returns false'. Refute it at one input. -/
def fnExactFormThroughWrong : ChangeSpec := { name := "fnExactFormThrough", fn := fun _ => fun
  | [d] => { results := [.lit (.bool false)], args := [d] }
  | _ => none }
def FnExactFormThroughWrongFalsely : Prop := fnExactFormThroughRow.holds Try.pinned (OpenSpec.ofChange fnExactFormThroughWrong)

/- THE SECOND FORM. 'bulk': how many values and letters a reading holds, each counted each time it is reached (what is shared counts as often as it is met; a slice's spare places count too). A statement '..UptoSaid' is the law's where the arguments, and the package variables that the reading takes, are together of bulk at most 1048576: NARROWER than '..Said'. Prove '..Said' where nothing that the law and all that it calls make is longer than what came in: it says more and counts as full. Else prove '..UptoSaid'. A law counts once. -/
mutual
def uptoBulk {H : Type} : DataW H → Nat
  | .lit (.string bytes) => bytes.length + 1
  | .lit _ => 1
  | .nil => 1
  | .ptr d => uptoBulk d + 1
  | .slice elems spare => uptoBulkAll elems + uptoBulkAll spare + 1
  | .agg parts => uptoBulkAll parts + 1
  | .iface _ d => uptoBulk d + 1
  | .map entries => uptoBulkEntries entries + 1
  | .held _ => 1
def uptoBulkAll {H : Type} : List (DataW H) → Nat
  | [] => 0
  | d :: r => uptoBulk d + uptoBulkAll r
def uptoBulkEntries {H : Type} : List (Lit × DataW H) → Nat
  | [] => 0
  | x :: r => uptoBulkEntry x + uptoBulkEntries r
def uptoBulkEntry {H : Type} : Lit × DataW H → Nat
  | (.string bytes, d) => bytes.length + uptoBulk d + 1
  | (_, d) => uptoBulk d + 1
 end
def uptoSmall : (H : Type) → List (DataW H) → Bool := fun _ ds => decide (uptoBulkAll ds ≤ 1048576)
def OpenSpec.upto (s : _root_.Go.ChangeSpec) : _root_.Go.OpenSpec := { _root_.Go.OpenSpec.ofChange s with cond := some uptoSmall }

/-- 'laws.FnMatrices', WHERE WHAT IT READS IS OF BULK AT MOST 1048576: true; the input reads as it did. -/
def fnMatricesUptoRow : OpenClaim := { program := "ytlgijhpjmfllmaa", sum := "053a3731dbc315c0ded00c0021ea70c22a37d82ea31dea085a6447e137e5f2f0", func := "loop.example/g01342/laws.FnMatrices", spec := "fnMatrices", unfollowed := true, recurses := true, plainKeys := false, apart := false, narrowed := true }
def FnMatricesUptoSaid : Prop := fnMatricesUptoRow.holds Try.pinned (OpenSpec.upto fnMatricesSpec)

/-- 'laws.FnExactIsForm', WHERE WHAT IT READS IS OF BULK AT MOST 1048576: true; the input reads as it did. -/
def fnExactIsFormUptoRow : OpenClaim := { program := "ytlgijhpjmfllmaa", sum := "053a3731dbc315c0ded00c0021ea70c22a37d82ea31dea085a6447e137e5f2f0", func := "loop.example/g01342/laws.FnExactIsForm", spec := "fnExactIsForm", plainKeys := false, apart := false, narrowed := true }
def FnExactIsFormUptoSaid : Prop := fnExactIsFormUptoRow.holds Try.pinned (OpenSpec.upto fnExactIsFormSpec)

/-- 'laws.FnExactValueAt', WHERE WHAT IT READS IS OF BULK AT MOST 1048576: true; the input reads as it did. -/
def fnExactValueAtUptoRow : OpenClaim := { program := "ytlgijhpjmfllmaa", sum := "053a3731dbc315c0ded00c0021ea70c22a37d82ea31dea085a6447e137e5f2f0", func := "loop.example/g01342/laws.FnExactValueAt", spec := "fnExactValueAt", plainKeys := false, apart := false, narrowed := true }
def FnExactValueAtUptoSaid : Prop := fnExactValueAtUptoRow.holds Try.pinned (OpenSpec.upto fnExactValueAtSpec)

/-- 'laws.FnExactDiscriminantOf', WHERE WHAT IT READS IS OF BULK AT MOST 1048576: true; the input reads as it did. -/
def fnExactDiscriminantOfUptoRow : OpenClaim := { program := "ytlgijhpjmfllmaa", sum := "053a3731dbc315c0ded00c0021ea70c22a37d82ea31dea085a6447e137e5f2f0", func := "loop.example/g01342/laws.FnExactDiscriminantOf", spec := "fnExactDiscriminantOf", plainKeys := false, apart := false, narrowed := true }
def FnExactDiscriminantOfUptoSaid : Prop := fnExactDiscriminantOfUptoRow.holds Try.pinned (OpenSpec.upto fnExactDiscriminantOfSpec)

/-- 'laws.FnExactContentOf', WHERE WHAT IT READS IS OF BULK AT MOST 1048576: true; the input reads as it did. -/
def fnExactContentOfUptoRow : OpenClaim := { program := "ytlgijhpjmfllmaa", sum := "053a3731dbc315c0ded00c0021ea70c22a37d82ea31dea085a6447e137e5f2f0", func := "loop.example/g01342/laws.FnExactContentOf", spec := "fnExactContentOf", plainKeys := false, apart := false, narrowed := true }
def FnExactContentOfUptoSaid : Prop := fnExactContentOfUptoRow.holds Try.pinned (OpenSpec.upto fnExactContentOfSpec)

/-- 'laws.FnExactPrimitivePart', WHERE WHAT IT READS IS OF BULK AT MOST 1048576: true; the input reads as it did. -/
def fnExactPrimitivePartUptoRow : OpenClaim := { program := "ytlgijhpjmfllmaa", sum := "053a3731dbc315c0ded00c0021ea70c22a37d82ea31dea085a6447e137e5f2f0", func := "loop.example/g01342/laws.FnExactPrimitivePart", spec := "fnExactPrimitivePart", plainKeys := false, apart := false, narrowed := true }
def FnExactPrimitivePartUptoSaid : Prop := fnExactPrimitivePartUptoRow.holds Try.pinned (OpenSpec.upto fnExactPrimitivePartSpec)

/-- 'laws.FnExactIsMatrix', WHERE WHAT IT READS IS OF BULK AT MOST 1048576: true; the input reads as it did. -/
def fnExactIsMatrixUptoRow : OpenClaim := { program := "ytlgijhpjmfllmaa", sum := "053a3731dbc315c0ded00c0021ea70c22a37d82ea31dea085a6447e137e5f2f0", func := "loop.example/g01342/laws.FnExactIsMatrix", spec := "fnExactIsMatrix", plainKeys := false, apart := false, narrowed := true }
def FnExactIsMatrixUptoSaid : Prop := fnExactIsMatrixUptoRow.holds Try.pinned (OpenSpec.upto fnExactIsMatrixSpec)

/-- 'laws.FnExactDeterminantOf', WHERE WHAT IT READS IS OF BULK AT MOST 1048576: true; the input reads as it did. -/
def fnExactDeterminantOfUptoRow : OpenClaim := { program := "ytlgijhpjmfllmaa", sum := "053a3731dbc315c0ded00c0021ea70c22a37d82ea31dea085a6447e137e5f2f0", func := "loop.example/g01342/laws.FnExactDeterminantOf", spec := "fnExactDeterminantOf", plainKeys := false, apart := false, narrowed := true }
def FnExactDeterminantOfUptoSaid : Prop := fnExactDeterminantOfUptoRow.holds Try.pinned (OpenSpec.upto fnExactDeterminantOfSpec)

/-- 'laws.FnExactMultiplyMatrices', WHERE WHAT IT READS IS OF BULK AT MOST 1048576: true; the input reads as it did. -/
def fnExactMultiplyMatricesUptoRow : OpenClaim := { program := "ytlgijhpjmfllmaa", sum := "053a3731dbc315c0ded00c0021ea70c22a37d82ea31dea085a6447e137e5f2f0", func := "loop.example/g01342/laws.FnExactMultiplyMatrices", spec := "fnExactMultiplyMatrices", plainKeys := false, apart := false, narrowed := true }
def FnExactMultiplyMatricesUptoSaid : Prop := fnExactMultiplyMatricesUptoRow.holds Try.pinned (OpenSpec.upto fnExactMultiplyMatricesSpec)

/-- 'laws.FnExactInverseMatrix', WHERE WHAT IT READS IS OF BULK AT MOST 1048576: true; the input reads as it did. -/
def fnExactInverseMatrixUptoRow : OpenClaim := { program := "ytlgijhpjmfllmaa", sum := "053a3731dbc315c0ded00c0021ea70c22a37d82ea31dea085a6447e137e5f2f0", func := "loop.example/g01342/laws.FnExactInverseMatrix", spec := "fnExactInverseMatrix", plainKeys := false, apart := false, narrowed := true }
def FnExactInverseMatrixUptoSaid : Prop := fnExactInverseMatrixUptoRow.holds Try.pinned (OpenSpec.upto fnExactInverseMatrixSpec)

/-- 'laws.FnExactChangeForm', WHERE WHAT IT READS IS OF BULK AT MOST 1048576: true; the input reads as it did. -/
def fnExactChangeFormUptoRow : OpenClaim := { program := "ytlgijhpjmfllmaa", sum := "053a3731dbc315c0ded00c0021ea70c22a37d82ea31dea085a6447e137e5f2f0", func := "loop.example/g01342/laws.FnExactChangeForm", spec := "fnExactChangeForm", unfollowed := true, recurses := true, plainKeys := false, apart := false, narrowed := true }
def FnExactChangeFormUptoSaid : Prop := fnExactChangeFormUptoRow.holds Try.pinned (OpenSpec.upto fnExactChangeFormSpec)

/-- 'laws.FnExactAddForms', WHERE WHAT IT READS IS OF BULK AT MOST 1048576: true; the input reads as it did. -/
def fnExactAddFormsUptoRow : OpenClaim := { program := "ytlgijhpjmfllmaa", sum := "053a3731dbc315c0ded00c0021ea70c22a37d82ea31dea085a6447e137e5f2f0", func := "loop.example/g01342/laws.FnExactAddForms", spec := "fnExactAddForms", plainKeys := false, apart := false, narrowed := true }
def FnExactAddFormsUptoSaid : Prop := fnExactAddFormsUptoRow.holds Try.pinned (OpenSpec.upto fnExactAddFormsSpec)

/-- 'laws.FnExactReverseForm', WHERE WHAT IT READS IS OF BULK AT MOST 1048576: true; the input reads as it did. -/
def fnExactReverseFormUptoRow : OpenClaim := { program := "ytlgijhpjmfllmaa", sum := "053a3731dbc315c0ded00c0021ea70c22a37d82ea31dea085a6447e137e5f2f0", func := "loop.example/g01342/laws.FnExactReverseForm", spec := "fnExactReverseForm", plainKeys := false, apart := false, narrowed := true }
def FnExactReverseFormUptoSaid : Prop := fnExactReverseFormUptoRow.holds Try.pinned (OpenSpec.upto fnExactReverseFormSpec)

/-- 'laws.FnExactSlopesAt', WHERE WHAT IT READS IS OF BULK AT MOST 1048576: true; the input reads as it did. -/
def fnExactSlopesAtUptoRow : OpenClaim := { program := "ytlgijhpjmfllmaa", sum := "053a3731dbc315c0ded00c0021ea70c22a37d82ea31dea085a6447e137e5f2f0", func := "loop.example/g01342/laws.FnExactSlopesAt", spec := "fnExactSlopesAt", plainKeys := false, apart := false, narrowed := true }
def FnExactSlopesAtUptoSaid : Prop := fnExactSlopesAtUptoRow.holds Try.pinned (OpenSpec.upto fnExactSlopesAtSpec)

/-- 'laws.FnExactFormThrough', WHERE WHAT IT READS IS OF BULK AT MOST 1048576: true; the input reads as it did. -/
def fnExactFormThroughUptoRow : OpenClaim := { program := "ytlgijhpjmfllmaa", sum := "053a3731dbc315c0ded00c0021ea70c22a37d82ea31dea085a6447e137e5f2f0", func := "loop.example/g01342/laws.FnExactFormThrough", spec := "fnExactFormThrough", plainKeys := false, apart := false, narrowed := true }
def FnExactFormThroughUptoSaid : Prop := fnExactFormThroughUptoRow.holds Try.pinned (OpenSpec.upto fnExactFormThroughSpec)

end Rows
end Go.Proofs.Ytlgijhpjmfllmaa
