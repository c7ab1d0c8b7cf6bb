/-
  No cell of these rows narrows 'for every input' (looked for: loops, veiled, ifaces, maps, wideKeys, modest, calm, conditions, laid).
  DERIVED. THE GIVEN ROWS OF THIS SEAT. 13 by the template 'for every input the law returns true; each argument reads behind the call as it read before'; 0 by the template 'total and deterministic' (their statements: YtpbkadljclfogaaTotals.lean).
  GIVEN WITH THE SEED: the statements are not yours to turn. If you find one false, say at which input.
  Laid BY PROGRAM, IN A SANDBOX (cutbox-rows.mjs): the forced cells as the released guide's own fill.sh prints them over the translation aa6b4cbe7c560483… (all of the seat's roots in one cut). By AI agents, Wed Nov 11 2026. No macro, syntax, notation, axiom, sorry.
-/
import Derived.Test.YtpbkadljclfogaaChecked
import GoSem.Claim
import GoSem.ClaimJoined
import GoSem.ClaimMapViews
import Derived.JoinedTies
import Derived.KernelRfl
namespace Go.Proofs.Ytpbkadljclfogaa
/- THE CELL 'sum', in the pinned program and in every row, IS THE sha256 OF THE DUMP (.gsa) THAT YtpbkadljclfogaaProg.lean LOADS. Nothing in Lean hashes anything: it is a label: what it is worth is what the hold of that sum in a sandbox is worth. -/
noncomputable def Try.pinned : Pinned := { name := "ytpbkadljclfogaa", sum := "aa6b4cbe7c56048304a84aa2b8154900803fd9d2db017d623ccfc3a93f326c8c", checked := Try.checked }
namespace Rows
def none {H : Type} : Left H := { results := [], args := [] }

/-- 'laws.FnExactIsElem': WHATEVER THE INPUT: true; the input reads as it did. -/
def fnExactIsElemSpec : ChangeSpec := { name := "fnExactIsElem", fn := fun _ => fun
  | [d] => { results := [.lit (.bool true)], args := [d] }
  | _ => none }
def fnExactIsElemRow : OpenClaim := { program := "ytpbkadljclfogaa", sum := "aa6b4cbe7c56048304a84aa2b8154900803fd9d2db017d623ccfc3a93f326c8c", func := "loop.example/g01342/laws.FnExactIsElem", spec := "fnExactIsElem", apart := false }
def FnExactIsElemSaid : Prop := fnExactIsElemRow.holds Try.pinned (OpenSpec.ofChange fnExactIsElemSpec)

/-- ITS FALSE NEIGHBOUR: 'it returns false'. Refute it at one input. -/
def fnExactIsElemWrong : ChangeSpec := { name := "fnExactIsElem", fn := fun _ => fun
  | [d] => { results := [.lit (.bool false)], args := [d] }
  | _ => none }
def FnExactIsElemWrongFalsely : Prop := fnExactIsElemRow.holds Try.pinned (OpenSpec.ofChange fnExactIsElemWrong)

/-- 'laws.FnExactMultiplyElems': WHATEVER THE INPUT: true; the input reads as it did. -/
def fnExactMultiplyElemsSpec : ChangeSpec := { name := "fnExactMultiplyElems", fn := fun _ => fun
  | [d1, d2, d3] => { results := [.lit (.bool true)], args := [d1, d2, d3] }
  | _ => none }
def fnExactMultiplyElemsRow : OpenClaim := { program := "ytpbkadljclfogaa", sum := "aa6b4cbe7c56048304a84aa2b8154900803fd9d2db017d623ccfc3a93f326c8c", func := "loop.example/g01342/laws.FnExactMultiplyElems", spec := "fnExactMultiplyElems", apart := false }
def FnExactMultiplyElemsSaid : Prop := fnExactMultiplyElemsRow.holds Try.pinned (OpenSpec.ofChange fnExactMultiplyElemsSpec)

/-- ITS FALSE NEIGHBOUR: 'it returns false'. Refute it at one input. -/
def fnExactMultiplyElemsWrong : ChangeSpec := { name := "fnExactMultiplyElems", fn := fun _ => fun
  | [d1, d2, d3] => { results := [.lit (.bool false)], args := [d1, d2, d3] }
  | _ => none }
def FnExactMultiplyElemsWrongFalsely : Prop := fnExactMultiplyElemsRow.holds Try.pinned (OpenSpec.ofChange fnExactMultiplyElemsWrong)

/-- 'laws.FnExactAddElems': WHATEVER THE INPUT: true; the input reads as it did. -/
def fnExactAddElemsSpec : ChangeSpec := { name := "fnExactAddElems", fn := fun _ => fun
  | [d1, d2, d3] => { results := [.lit (.bool true)], args := [d1, d2, d3] }
  | _ => none }
def fnExactAddElemsRow : OpenClaim := { program := "ytpbkadljclfogaa", sum := "aa6b4cbe7c56048304a84aa2b8154900803fd9d2db017d623ccfc3a93f326c8c", func := "loop.example/g01342/laws.FnExactAddElems", spec := "fnExactAddElems", apart := false }
def FnExactAddElemsSaid : Prop := fnExactAddElemsRow.holds Try.pinned (OpenSpec.ofChange fnExactAddElemsSpec)

/-- ITS FALSE NEIGHBOUR: 'it returns false'. Refute it at one input. -/
def fnExactAddElemsWrong : ChangeSpec := { name := "fnExactAddElems", fn := fun _ => fun
  | [d1, d2, d3] => { results := [.lit (.bool false)], args := [d1, d2, d3] }
  | _ => none }
def FnExactAddElemsWrongFalsely : Prop := fnExactAddElemsRow.holds Try.pinned (OpenSpec.ofChange fnExactAddElemsWrong)

/-- 'laws.FnExactMatrixOfElem': WHATEVER THE INPUT: true; the input reads as it did. -/
def fnExactMatrixOfElemSpec : ChangeSpec := { name := "fnExactMatrixOfElem", fn := fun _ => fun
  | [d1, d2] => { results := [.lit (.bool true)], args := [d1, d2] }
  | _ => none }
def fnExactMatrixOfElemRow : OpenClaim := { program := "ytpbkadljclfogaa", sum := "aa6b4cbe7c56048304a84aa2b8154900803fd9d2db017d623ccfc3a93f326c8c", func := "loop.example/g01342/laws.FnExactMatrixOfElem", spec := "fnExactMatrixOfElem", apart := false }
def FnExactMatrixOfElemSaid : Prop := fnExactMatrixOfElemRow.holds Try.pinned (OpenSpec.ofChange fnExactMatrixOfElemSpec)

/-- ITS FALSE NEIGHBOUR: 'it returns false'. Refute it at one input. -/
def fnExactMatrixOfElemWrong : ChangeSpec := { name := "fnExactMatrixOfElem", fn := fun _ => fun
  | [d1, d2] => { results := [.lit (.bool false)], args := [d1, d2] }
  | _ => none }
def FnExactMatrixOfElemWrongFalsely : Prop := fnExactMatrixOfElemRow.holds Try.pinned (OpenSpec.ofChange fnExactMatrixOfElemWrong)

/-- 'laws.FnExactTraceOf': WHATEVER THE INPUT: true; the input reads as it did. -/
def fnExactTraceOfSpec : ChangeSpec := { name := "fnExactTraceOf", fn := fun _ => fun
  | [d1, d2] => { results := [.lit (.bool true)], args := [d1, d2] }
  | _ => none }
def fnExactTraceOfRow : OpenClaim := { program := "ytpbkadljclfogaa", sum := "aa6b4cbe7c56048304a84aa2b8154900803fd9d2db017d623ccfc3a93f326c8c", func := "loop.example/g01342/laws.FnExactTraceOf", spec := "fnExactTraceOf", apart := false }
def FnExactTraceOfSaid : Prop := fnExactTraceOfRow.holds Try.pinned (OpenSpec.ofChange fnExactTraceOfSpec)

/-- ITS FALSE NEIGHBOUR: 'it returns false'. Refute it at one input. -/
def fnExactTraceOfWrong : ChangeSpec := { name := "fnExactTraceOf", fn := fun _ => fun
  | [d1, d2] => { results := [.lit (.bool false)], args := [d1, d2] }
  | _ => none }
def FnExactTraceOfWrongFalsely : Prop := fnExactTraceOfRow.holds Try.pinned (OpenSpec.ofChange fnExactTraceOfWrong)

/-- 'laws.FnExactNormOf': WHATEVER THE INPUT: true; the input reads as it did. -/
def fnExactNormOfSpec : ChangeSpec := { name := "fnExactNormOf", fn := fun _ => fun
  | [d1, d2] => { results := [.lit (.bool true)], args := [d1, d2] }
  | _ => none }
def fnExactNormOfRow : OpenClaim := { program := "ytpbkadljclfogaa", sum := "aa6b4cbe7c56048304a84aa2b8154900803fd9d2db017d623ccfc3a93f326c8c", func := "loop.example/g01342/laws.FnExactNormOf", spec := "fnExactNormOf", apart := false }
def FnExactNormOfSaid : Prop := fnExactNormOfRow.holds Try.pinned (OpenSpec.ofChange fnExactNormOfSpec)

/-- ITS FALSE NEIGHBOUR: 'it returns false'. Refute it at one input. -/
def fnExactNormOfWrong : ChangeSpec := { name := "fnExactNormOf", fn := fun _ => fun
  | [d1, d2] => { results := [.lit (.bool false)], args := [d1, d2] }
  | _ => none }
def FnExactNormOfWrongFalsely : Prop := fnExactNormOfRow.holds Try.pinned (OpenSpec.ofChange fnExactNormOfWrong)

/-- 'laws.FnExactPolynomialOf': WHATEVER THE INPUT: true; the input reads as it did. -/
def fnExactPolynomialOfSpec : ChangeSpec := { name := "fnExactPolynomialOf", fn := fun _ => fun
  | [d1, d2] => { results := [.lit (.bool true)], args := [d1, d2] }
  | _ => none }
def fnExactPolynomialOfRow : OpenClaim := { program := "ytpbkadljclfogaa", sum := "aa6b4cbe7c56048304a84aa2b8154900803fd9d2db017d623ccfc3a93f326c8c", func := "loop.example/g01342/laws.FnExactPolynomialOf", spec := "fnExactPolynomialOf", apart := false }
def FnExactPolynomialOfSaid : Prop := fnExactPolynomialOfRow.holds Try.pinned (OpenSpec.ofChange fnExactPolynomialOfSpec)

/-- ITS FALSE NEIGHBOUR: 'it returns false'. Refute it at one input. -/
def fnExactPolynomialOfWrong : ChangeSpec := { name := "fnExactPolynomialOf", fn := fun _ => fun
  | [d1, d2] => { results := [.lit (.bool false)], args := [d1, d2] }
  | _ => none }
def FnExactPolynomialOfWrongFalsely : Prop := fnExactPolynomialOfRow.holds Try.pinned (OpenSpec.ofChange fnExactPolynomialOfWrong)

/-- 'laws.FnExactIndexOf': WHATEVER THE INPUT: true; the input reads as it did. -/
def fnExactIndexOfSpec : ChangeSpec := { name := "fnExactIndexOf", fn := fun _ => fun
  | [d1, d2] => { results := [.lit (.bool true)], args := [d1, d2] }
  | _ => none }
def fnExactIndexOfRow : OpenClaim := { program := "ytpbkadljclfogaa", sum := "aa6b4cbe7c56048304a84aa2b8154900803fd9d2db017d623ccfc3a93f326c8c", func := "loop.example/g01342/laws.FnExactIndexOf", spec := "fnExactIndexOf", apart := false }
def FnExactIndexOfSaid : Prop := fnExactIndexOfRow.holds Try.pinned (OpenSpec.ofChange fnExactIndexOfSpec)

/-- ITS FALSE NEIGHBOUR: 'it returns false'. Refute it at one input. -/
def fnExactIndexOfWrong : ChangeSpec := { name := "fnExactIndexOf", fn := fun _ => fun
  | [d1, d2] => { results := [.lit (.bool false)], args := [d1, d2] }
  | _ => none }
def FnExactIndexOfWrongFalsely : Prop := fnExactIndexOfRow.holds Try.pinned (OpenSpec.ofChange fnExactIndexOfWrong)

/-- 'laws.FnExactDiscriminantOfElem': WHATEVER THE INPUT: true; the input reads as it did. -/
def fnExactDiscriminantOfElemSpec : ChangeSpec := { name := "fnExactDiscriminantOfElem", fn := fun _ => fun
  | [d1, d2] => { results := [.lit (.bool true)], args := [d1, d2] }
  | _ => none }
def fnExactDiscriminantOfElemRow : OpenClaim := { program := "ytpbkadljclfogaa", sum := "aa6b4cbe7c56048304a84aa2b8154900803fd9d2db017d623ccfc3a93f326c8c", func := "loop.example/g01342/laws.FnExactDiscriminantOfElem", spec := "fnExactDiscriminantOfElem", apart := false }
def FnExactDiscriminantOfElemSaid : Prop := fnExactDiscriminantOfElemRow.holds Try.pinned (OpenSpec.ofChange fnExactDiscriminantOfElemSpec)

/-- ITS FALSE NEIGHBOUR: 'it returns false'. Refute it at one input. -/
def fnExactDiscriminantOfElemWrong : ChangeSpec := { name := "fnExactDiscriminantOfElem", fn := fun _ => fun
  | [d1, d2] => { results := [.lit (.bool false)], args := [d1, d2] }
  | _ => none }
def FnExactDiscriminantOfElemWrongFalsely : Prop := fnExactDiscriminantOfElemRow.holds Try.pinned (OpenSpec.ofChange fnExactDiscriminantOfElemWrong)

/-- 'laws.FnExactTableOfForm': WHATEVER THE INPUT: true; the input reads as it did. -/
def fnExactTableOfFormSpec : ChangeSpec := { name := "fnExactTableOfForm", fn := fun _ => fun
  | [d] => { results := [.lit (.bool true)], args := [d] }
  | _ => none }
def fnExactTableOfFormRow : OpenClaim := { program := "ytpbkadljclfogaa", sum := "aa6b4cbe7c56048304a84aa2b8154900803fd9d2db017d623ccfc3a93f326c8c", func := "loop.example/g01342/laws.FnExactTableOfForm", spec := "fnExactTableOfForm", apart := false }
def FnExactTableOfFormSaid : Prop := fnExactTableOfFormRow.holds Try.pinned (OpenSpec.ofChange fnExactTableOfFormSpec)

/-- ITS FALSE NEIGHBOUR: 'it returns false'. Refute it at one input. -/
def fnExactTableOfFormWrong : ChangeSpec := { name := "fnExactTableOfForm", fn := fun _ => fun
  | [d] => { results := [.lit (.bool false)], args := [d] }
  | _ => none }
def FnExactTableOfFormWrongFalsely : Prop := fnExactTableOfFormRow.holds Try.pinned (OpenSpec.ofChange fnExactTableOfFormWrong)

/-- 'laws.FnExactIsRightTable': WHATEVER THE INPUT: true; the input reads as it did. -/
def fnExactIsRightTableSpec : ChangeSpec := { name := "fnExactIsRightTable", fn := fun _ => fun
  | [d] => { results := [.lit (.bool true)], args := [d] }
  | _ => none }
def fnExactIsRightTableRow : OpenClaim := { program := "ytpbkadljclfogaa", sum := "aa6b4cbe7c56048304a84aa2b8154900803fd9d2db017d623ccfc3a93f326c8c", func := "loop.example/g01342/laws.FnExactIsRightTable", spec := "fnExactIsRightTable", apart := false }
def FnExactIsRightTableSaid : Prop := fnExactIsRightTableRow.holds Try.pinned (OpenSpec.ofChange fnExactIsRightTableSpec)

/-- ITS FALSE NEIGHBOUR: 'it returns false'. Refute it at one input. -/
def fnExactIsRightTableWrong : ChangeSpec := { name := "fnExactIsRightTable", fn := fun _ => fun
  | [d] => { results := [.lit (.bool false)], args := [d] }
  | _ => none }
def FnExactIsRightTableWrongFalsely : Prop := fnExactIsRightTableRow.holds Try.pinned (OpenSpec.ofChange fnExactIsRightTableWrong)

/-- 'laws.FnExactFormOfTable': WHATEVER THE INPUT: true; the input reads as it did. -/
def fnExactFormOfTableSpec : ChangeSpec := { name := "fnExactFormOfTable", fn := fun _ => fun
  | [d] => { results := [.lit (.bool true)], args := [d] }
  | _ => none }
def fnExactFormOfTableRow : OpenClaim := { program := "ytpbkadljclfogaa", sum := "aa6b4cbe7c56048304a84aa2b8154900803fd9d2db017d623ccfc3a93f326c8c", func := "loop.example/g01342/laws.FnExactFormOfTable", spec := "fnExactFormOfTable", apart := false }
def FnExactFormOfTableSaid : Prop := fnExactFormOfTableRow.holds Try.pinned (OpenSpec.ofChange fnExactFormOfTableSpec)

/-- ITS FALSE NEIGHBOUR: 'it returns false'. Refute it at one input. -/
def fnExactFormOfTableWrong : ChangeSpec := { name := "fnExactFormOfTable", fn := fun _ => fun
  | [d] => { results := [.lit (.bool false)], args := [d] }
  | _ => none }
def FnExactFormOfTableWrongFalsely : Prop := fnExactFormOfTableRow.holds Try.pinned (OpenSpec.ofChange fnExactFormOfTableWrong)

/-- 'laws.FnExactDiscriminantOf': WHATEVER THE INPUT: true; the input reads as it did. -/
def fnExactDiscriminantOfSpec : ChangeSpec := { name := "fnExactDiscriminantOf", fn := fun _ => fun
  | [d] => { results := [.lit (.bool true)], args := [d] }
  | _ => none }
def fnExactDiscriminantOfRow : OpenClaim := { program := "ytpbkadljclfogaa", sum := "aa6b4cbe7c56048304a84aa2b8154900803fd9d2db017d623ccfc3a93f326c8c", func := "loop.example/g01342/laws.FnExactDiscriminantOf", spec := "fnExactDiscriminantOf", apart := false }
def FnExactDiscriminantOfSaid : Prop := fnExactDiscriminantOfRow.holds Try.pinned (OpenSpec.ofChange fnExactDiscriminantOfSpec)

/-- ITS FALSE NEIGHBOUR: 'it returns false'. Refute it at one input. -/
def fnExactDiscriminantOfWrong : ChangeSpec := { name := "fnExactDiscriminantOf", fn := fun _ => fun
  | [d] => { results := [.lit (.bool false)], args := [d] }
  | _ => none }
def FnExactDiscriminantOfWrongFalsely : Prop := fnExactDiscriminantOfRow.holds Try.pinned (OpenSpec.ofChange fnExactDiscriminantOfWrong)

/- THE SECOND FORM. 'bulk': how many values and letters a reading holds, each counted each time it is reached (what is shared counts as often as it is met; a slice's spare places count too). A statement '..UptoSaid' is the law's where the arguments, and the package variables that the reading takes, are together of bulk at most 1048576: NARROWER than '..Said'. Prove '..Said' where nothing that the law and all that it calls make is longer than what came in: it says more and counts as full. Else prove '..UptoSaid'. A law counts once. -/
mutual
def uptoBulk {H : Type} : DataW H → Nat
  | .lit (.string bytes) => bytes.length + 1
  | .lit _ => 1
  | .nil => 1
  | .ptr d => uptoBulk d + 1
  | .slice elems spare => uptoBulkAll elems + uptoBulkAll spare + 1
  | .agg parts => uptoBulkAll parts + 1
  | .iface _ d => uptoBulk d + 1
  | .map entries => uptoBulkEntries entries + 1
  | .held _ => 1
def uptoBulkAll {H : Type} : List (DataW H) → Nat
  | [] => 0
  | d :: r => uptoBulk d + uptoBulkAll r
def uptoBulkEntries {H : Type} : List (Lit × DataW H) → Nat
  | [] => 0
  | x :: r => uptoBulkEntry x + uptoBulkEntries r
def uptoBulkEntry {H : Type} : Lit × DataW H → Nat
  | (.string bytes, d) => bytes.length + uptoBulk d + 1
  | (_, d) => uptoBulk d + 1
 end
def uptoSmall : (H : Type) → List (DataW H) → Bool := fun _ ds => decide (uptoBulkAll ds ≤ 1048576)
def OpenSpec.upto (s : _root_.Go.ChangeSpec) : _root_.Go.OpenSpec := { _root_.Go.OpenSpec.ofChange s with cond := some uptoSmall }

/-- 'laws.FnExactIsElem', WHERE WHAT IT READS IS OF BULK AT MOST 1048576: true; the input reads as it did. -/
def fnExactIsElemUptoRow : OpenClaim := { program := "ytpbkadljclfogaa", sum := "aa6b4cbe7c56048304a84aa2b8154900803fd9d2db017d623ccfc3a93f326c8c", func := "loop.example/g01342/laws.FnExactIsElem", spec := "fnExactIsElem", apart := false, narrowed := true }
def FnExactIsElemUptoSaid : Prop := fnExactIsElemUptoRow.holds Try.pinned (OpenSpec.upto fnExactIsElemSpec)

/-- 'laws.FnExactMultiplyElems', WHERE WHAT IT READS IS OF BULK AT MOST 1048576: true; the input reads as it did. -/
def fnExactMultiplyElemsUptoRow : OpenClaim := { program := "ytpbkadljclfogaa", sum := "aa6b4cbe7c56048304a84aa2b8154900803fd9d2db017d623ccfc3a93f326c8c", func := "loop.example/g01342/laws.FnExactMultiplyElems", spec := "fnExactMultiplyElems", apart := false, narrowed := true }
def FnExactMultiplyElemsUptoSaid : Prop := fnExactMultiplyElemsUptoRow.holds Try.pinned (OpenSpec.upto fnExactMultiplyElemsSpec)

/-- 'laws.FnExactAddElems', WHERE WHAT IT READS IS OF BULK AT MOST 1048576: true; the input reads as it did. -/
def fnExactAddElemsUptoRow : OpenClaim := { program := "ytpbkadljclfogaa", sum := "aa6b4cbe7c56048304a84aa2b8154900803fd9d2db017d623ccfc3a93f326c8c", func := "loop.example/g01342/laws.FnExactAddElems", spec := "fnExactAddElems", apart := false, narrowed := true }
def FnExactAddElemsUptoSaid : Prop := fnExactAddElemsUptoRow.holds Try.pinned (OpenSpec.upto fnExactAddElemsSpec)

/-- 'laws.FnExactMatrixOfElem', WHERE WHAT IT READS IS OF BULK AT MOST 1048576: true; the input reads as it did. -/
def fnExactMatrixOfElemUptoRow : OpenClaim := { program := "ytpbkadljclfogaa", sum := "aa6b4cbe7c56048304a84aa2b8154900803fd9d2db017d623ccfc3a93f326c8c", func := "loop.example/g01342/laws.FnExactMatrixOfElem", spec := "fnExactMatrixOfElem", apart := false, narrowed := true }
def FnExactMatrixOfElemUptoSaid : Prop := fnExactMatrixOfElemUptoRow.holds Try.pinned (OpenSpec.upto fnExactMatrixOfElemSpec)

/-- 'laws.FnExactTraceOf', WHERE WHAT IT READS IS OF BULK AT MOST 1048576: true; the input reads as it did. -/
def fnExactTraceOfUptoRow : OpenClaim := { program := "ytpbkadljclfogaa", sum := "aa6b4cbe7c56048304a84aa2b8154900803fd9d2db017d623ccfc3a93f326c8c", func := "loop.example/g01342/laws.FnExactTraceOf", spec := "fnExactTraceOf", apart := false, narrowed := true }
def FnExactTraceOfUptoSaid : Prop := fnExactTraceOfUptoRow.holds Try.pinned (OpenSpec.upto fnExactTraceOfSpec)

/-- 'laws.FnExactNormOf', WHERE WHAT IT READS IS OF BULK AT MOST 1048576: true; the input reads as it did. -/
def fnExactNormOfUptoRow : OpenClaim := { program := "ytpbkadljclfogaa", sum := "aa6b4cbe7c56048304a84aa2b8154900803fd9d2db017d623ccfc3a93f326c8c", func := "loop.example/g01342/laws.FnExactNormOf", spec := "fnExactNormOf", apart := false, narrowed := true }
def FnExactNormOfUptoSaid : Prop := fnExactNormOfUptoRow.holds Try.pinned (OpenSpec.upto fnExactNormOfSpec)

/-- 'laws.FnExactPolynomialOf', WHERE WHAT IT READS IS OF BULK AT MOST 1048576: true; the input reads as it did. -/
def fnExactPolynomialOfUptoRow : OpenClaim := { program := "ytpbkadljclfogaa", sum := "aa6b4cbe7c56048304a84aa2b8154900803fd9d2db017d623ccfc3a93f326c8c", func := "loop.example/g01342/laws.FnExactPolynomialOf", spec := "fnExactPolynomialOf", apart := false, narrowed := true }
def FnExactPolynomialOfUptoSaid : Prop := fnExactPolynomialOfUptoRow.holds Try.pinned (OpenSpec.upto fnExactPolynomialOfSpec)

/-- 'laws.FnExactIndexOf', WHERE WHAT IT READS IS OF BULK AT MOST 1048576: true; the input reads as it did. -/
def fnExactIndexOfUptoRow : OpenClaim := { program := "ytpbkadljclfogaa", sum := "aa6b4cbe7c56048304a84aa2b8154900803fd9d2db017d623ccfc3a93f326c8c", func := "loop.example/g01342/laws.FnExactIndexOf", spec := "fnExactIndexOf", apart := false, narrowed := true }
def FnExactIndexOfUptoSaid : Prop := fnExactIndexOfUptoRow.holds Try.pinned (OpenSpec.upto fnExactIndexOfSpec)

/-- 'laws.FnExactDiscriminantOfElem', WHERE WHAT IT READS IS OF BULK AT MOST 1048576: true; the input reads as it did. -/
def fnExactDiscriminantOfElemUptoRow : OpenClaim := { program := "ytpbkadljclfogaa", sum := "aa6b4cbe7c56048304a84aa2b8154900803fd9d2db017d623ccfc3a93f326c8c", func := "loop.example/g01342/laws.FnExactDiscriminantOfElem", spec := "fnExactDiscriminantOfElem", apart := false, narrowed := true }
def FnExactDiscriminantOfElemUptoSaid : Prop := fnExactDiscriminantOfElemUptoRow.holds Try.pinned (OpenSpec.upto fnExactDiscriminantOfElemSpec)

/-- 'laws.FnExactTableOfForm', WHERE WHAT IT READS IS OF BULK AT MOST 1048576: true; the input reads as it did. -/
def fnExactTableOfFormUptoRow : OpenClaim := { program := "ytpbkadljclfogaa", sum := "aa6b4cbe7c56048304a84aa2b8154900803fd9d2db017d623ccfc3a93f326c8c", func := "loop.example/g01342/laws.FnExactTableOfForm", spec := "fnExactTableOfForm", apart := false, narrowed := true }
def FnExactTableOfFormUptoSaid : Prop := fnExactTableOfFormUptoRow.holds Try.pinned (OpenSpec.upto fnExactTableOfFormSpec)

/-- 'laws.FnExactIsRightTable', WHERE WHAT IT READS IS OF BULK AT MOST 1048576: true; the input reads as it did. -/
def fnExactIsRightTableUptoRow : OpenClaim := { program := "ytpbkadljclfogaa", sum := "aa6b4cbe7c56048304a84aa2b8154900803fd9d2db017d623ccfc3a93f326c8c", func := "loop.example/g01342/laws.FnExactIsRightTable", spec := "fnExactIsRightTable", apart := false, narrowed := true }
def FnExactIsRightTableUptoSaid : Prop := fnExactIsRightTableUptoRow.holds Try.pinned (OpenSpec.upto fnExactIsRightTableSpec)

/-- 'laws.FnExactFormOfTable', WHERE WHAT IT READS IS OF BULK AT MOST 1048576: true; the input reads as it did. -/
def fnExactFormOfTableUptoRow : OpenClaim := { program := "ytpbkadljclfogaa", sum := "aa6b4cbe7c56048304a84aa2b8154900803fd9d2db017d623ccfc3a93f326c8c", func := "loop.example/g01342/laws.FnExactFormOfTable", spec := "fnExactFormOfTable", apart := false, narrowed := true }
def FnExactFormOfTableUptoSaid : Prop := fnExactFormOfTableUptoRow.holds Try.pinned (OpenSpec.upto fnExactFormOfTableSpec)

/-- 'laws.FnExactDiscriminantOf', WHERE WHAT IT READS IS OF BULK AT MOST 1048576: true; the input reads as it did. -/
def fnExactDiscriminantOfUptoRow : OpenClaim := { program := "ytpbkadljclfogaa", sum := "aa6b4cbe7c56048304a84aa2b8154900803fd9d2db017d623ccfc3a93f326c8c", func := "loop.example/g01342/laws.FnExactDiscriminantOf", spec := "fnExactDiscriminantOf", apart := false, narrowed := true }
def FnExactDiscriminantOfUptoSaid : Prop := fnExactDiscriminantOfUptoRow.holds Try.pinned (OpenSpec.upto fnExactDiscriminantOfSpec)

end Rows
end Go.Proofs.Ytpbkadljclfogaa
