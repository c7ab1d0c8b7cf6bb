/-
  NARROWER THAN 'FOR EVERY INPUT', by the rows' own cells (each row's printed sentence says how): FnExactSignatureOf: ifaces, laid · FnExactGroupOrder: ifaces, laid · FnExactLeadingForm: ifaces, laid · FnExactIdealNumbers: ifaces, laid · FnExactSumOfIdeals: ifaces, laid · FnExactCountKinds: ifaces, laid · FnExactKindByCharacter: ifaces, laid · FnExactIsPure: ifaces, laid.
  DERIVED. THE GIVEN ROWS OF THIS SEAT. 8 by the template 'for every input the law returns true; each argument reads behind the call as it read before'; 0 by the template 'total and deterministic' (their statements: YtgflkgabofilcaaDoorTotals.lean).
  GIVEN WITH THE SEED: the statements are not yours to turn. If you find one false, say at which input.
  Laid BY PROGRAM, IN A SANDBOX (cutbox-rows.mjs): the forced cells as the released guide's own fill.sh prints them over the translation 00c1ff78dcf48576… (all of the seat's roots in one cut). By AI agents, Wed Nov 11 2026. No macro, syntax, notation, axiom, sorry.
-/
import Derived.Test.YtgflkgabofilcaaDoorChecked
import GoSem.Claim
import GoSem.ClaimJoined
import GoSem.ClaimMapViews
import Derived.JoinedTies
import Derived.KernelRfl
namespace Go.Proofs.YtgflkgabofilcaaDoor
/- THE CELL 'sum', in the pinned program and in every row, IS THE sha256 OF THE DUMP (.gsa) THAT YtgflkgabofilcaaDoorProg.lean LOADS. Nothing in Lean hashes anything: it is a label: what it is worth is what the hold of that sum in a sandbox is worth. -/
noncomputable def Tryd.pinned : Pinned := { name := "ytgflkgabofilcaadoor", sum := "00c1ff78dcf48576579219a5f3c96aba908b047041b41794388e315beef0a11f", checked := Tryd.checked }
namespace Rows
def none {H : Type} : Left H := { results := [], args := [] }

/- WHAT THE LISTED PACKAGE-LEVEL VARIABLES READ AS WHEN THE CALL BEGINS. Each datum BY PROGRAM (the guide's laid-datum.mjs) off the statement by which the dump's own 'gosem.cut.vars' lays the variable. In a bare row this is a premise. The card (YtgflkgabofilcaaDoorCards.lean) ties it to the program's text. -/
def laid_loop_example_g01342_impl_errNoFactors {H : Type} : DataW H := .iface "*errors.errorString" (.ptr (.agg [.lit (.string [116, 104, 101, 32, 102, 111, 114, 109, 32, 105, 115, 32, 48, 32, 97, 110, 100, 32, 104, 97, 115, 32, 110, 111, 32, 102, 97, 99, 116, 111, 114, 115])]))

/-- 'laws.FnExactSignatureOf': WHATEVER THE INPUT: true; the input reads as it did. -/
def fnExactSignatureOfSpec : ChangeSpec := { name := "fnExactSignatureOf", vars := ["loop.example/g01342/impl.errNoFactors"], fn := fun _ => fun
  | [d, g1] => { results := [.lit (.bool true)], args := [d], vars := [g1] }
  | _ => none }
def fnExactSignatureOfRow : OpenClaim := { program := "ytgflkgabofilcaadoor", sum := "00c1ff78dcf48576579219a5f3c96aba908b047041b41794388e315beef0a11f", func := "loop.example/g01342/laws.FnExactSignatureOf", spec := "fnExactSignatureOf", unfollowed := true, recurses := true, named := ["loop.example/g01342/impl.errNoFactors"], ifaces := true, apart := false, laid := [("loop.example/g01342/impl.errNoFactors", laid_loop_example_g01342_impl_errNoFactors)] }
def FnExactSignatureOfSaid : Prop := fnExactSignatureOfRow.holds Tryd.pinned (OpenSpec.ofChange fnExactSignatureOfSpec)

/-- ITS FALSE NEIGHBOUR: 'it returns false'. Refute it at one input. -/
def fnExactSignatureOfWrong : ChangeSpec := { name := "fnExactSignatureOf", vars := ["loop.example/g01342/impl.errNoFactors"], fn := fun _ => fun
  | [d, g1] => { results := [.lit (.bool false)], args := [d], vars := [g1] }
  | _ => none }
def FnExactSignatureOfWrongFalsely : Prop := fnExactSignatureOfRow.holds Tryd.pinned (OpenSpec.ofChange fnExactSignatureOfWrong)

/-- 'laws.FnExactGroupOrder': WHATEVER THE INPUT: true; the input reads as it did. -/
def fnExactGroupOrderSpec : ChangeSpec := { name := "fnExactGroupOrder", vars := ["loop.example/g01342/impl.errNoFactors"], fn := fun _ => fun
  | [d, g1] => { results := [.lit (.bool true)], args := [d], vars := [g1] }
  | _ => none }
def fnExactGroupOrderRow : OpenClaim := { program := "ytgflkgabofilcaadoor", sum := "00c1ff78dcf48576579219a5f3c96aba908b047041b41794388e315beef0a11f", func := "loop.example/g01342/laws.FnExactGroupOrder", spec := "fnExactGroupOrder", unfollowed := true, recurses := true, named := ["loop.example/g01342/impl.errNoFactors"], ifaces := true, apart := false, laid := [("loop.example/g01342/impl.errNoFactors", laid_loop_example_g01342_impl_errNoFactors)] }
def FnExactGroupOrderSaid : Prop := fnExactGroupOrderRow.holds Tryd.pinned (OpenSpec.ofChange fnExactGroupOrderSpec)

/-- ITS FALSE NEIGHBOUR: 'it returns false'. Refute it at one input. -/
def fnExactGroupOrderWrong : ChangeSpec := { name := "fnExactGroupOrder", vars := ["loop.example/g01342/impl.errNoFactors"], fn := fun _ => fun
  | [d, g1] => { results := [.lit (.bool false)], args := [d], vars := [g1] }
  | _ => none }
def FnExactGroupOrderWrongFalsely : Prop := fnExactGroupOrderRow.holds Tryd.pinned (OpenSpec.ofChange fnExactGroupOrderWrong)

/-- 'laws.FnExactLeadingForm': WHATEVER THE INPUT: true; the input reads as it did. -/
def fnExactLeadingFormSpec : ChangeSpec := { name := "fnExactLeadingForm", vars := ["loop.example/g01342/impl.errNoFactors"], fn := fun _ => fun
  | [d, g1] => { results := [.lit (.bool true)], args := [d], vars := [g1] }
  | _ => none }
def fnExactLeadingFormRow : OpenClaim := { program := "ytgflkgabofilcaadoor", sum := "00c1ff78dcf48576579219a5f3c96aba908b047041b41794388e315beef0a11f", func := "loop.example/g01342/laws.FnExactLeadingForm", spec := "fnExactLeadingForm", unfollowed := true, recurses := true, named := ["loop.example/g01342/impl.errNoFactors"], ifaces := true, apart := false, laid := [("loop.example/g01342/impl.errNoFactors", laid_loop_example_g01342_impl_errNoFactors)] }
def FnExactLeadingFormSaid : Prop := fnExactLeadingFormRow.holds Tryd.pinned (OpenSpec.ofChange fnExactLeadingFormSpec)

/-- ITS FALSE NEIGHBOUR: 'it returns false'. Refute it at one input. -/
def fnExactLeadingFormWrong : ChangeSpec := { name := "fnExactLeadingForm", vars := ["loop.example/g01342/impl.errNoFactors"], fn := fun _ => fun
  | [d, g1] => { results := [.lit (.bool false)], args := [d], vars := [g1] }
  | _ => none }
def FnExactLeadingFormWrongFalsely : Prop := fnExactLeadingFormRow.holds Tryd.pinned (OpenSpec.ofChange fnExactLeadingFormWrong)

/-- 'laws.FnExactIdealNumbers': WHATEVER THE INPUT: true; the input reads as it did. -/
def fnExactIdealNumbersSpec : ChangeSpec := { name := "fnExactIdealNumbers", vars := ["loop.example/g01342/impl.errNoFactors"], fn := fun _ => fun
  | [d1, d2, g1] => { results := [.lit (.bool true)], args := [d1, d2], vars := [g1] }
  | _ => none }
def fnExactIdealNumbersRow : OpenClaim := { program := "ytgflkgabofilcaadoor", sum := "00c1ff78dcf48576579219a5f3c96aba908b047041b41794388e315beef0a11f", func := "loop.example/g01342/laws.FnExactIdealNumbers", spec := "fnExactIdealNumbers", unfollowed := true, recurses := true, named := ["loop.example/g01342/impl.errNoFactors"], ifaces := true, apart := false, laid := [("loop.example/g01342/impl.errNoFactors", laid_loop_example_g01342_impl_errNoFactors)] }
def FnExactIdealNumbersSaid : Prop := fnExactIdealNumbersRow.holds Tryd.pinned (OpenSpec.ofChange fnExactIdealNumbersSpec)

/-- ITS FALSE NEIGHBOUR: 'it returns false'. Refute it at one input. -/
def fnExactIdealNumbersWrong : ChangeSpec := { name := "fnExactIdealNumbers", vars := ["loop.example/g01342/impl.errNoFactors"], fn := fun _ => fun
  | [d1, d2, g1] => { results := [.lit (.bool false)], args := [d1, d2], vars := [g1] }
  | _ => none }
def FnExactIdealNumbersWrongFalsely : Prop := fnExactIdealNumbersRow.holds Tryd.pinned (OpenSpec.ofChange fnExactIdealNumbersWrong)

/-- 'laws.FnExactSumOfIdeals': WHATEVER THE INPUT: true; the input reads as it did. -/
def fnExactSumOfIdealsSpec : ChangeSpec := { name := "fnExactSumOfIdeals", vars := ["loop.example/g01342/impl.errNoFactors"], fn := fun _ => fun
  | [d1, d2, g1] => { results := [.lit (.bool true)], args := [d1, d2], vars := [g1] }
  | _ => none }
def fnExactSumOfIdealsRow : OpenClaim := { program := "ytgflkgabofilcaadoor", sum := "00c1ff78dcf48576579219a5f3c96aba908b047041b41794388e315beef0a11f", func := "loop.example/g01342/laws.FnExactSumOfIdeals", spec := "fnExactSumOfIdeals", unfollowed := true, recurses := true, named := ["loop.example/g01342/impl.errNoFactors"], ifaces := true, apart := false, laid := [("loop.example/g01342/impl.errNoFactors", laid_loop_example_g01342_impl_errNoFactors)] }
def FnExactSumOfIdealsSaid : Prop := fnExactSumOfIdealsRow.holds Tryd.pinned (OpenSpec.ofChange fnExactSumOfIdealsSpec)

/-- ITS FALSE NEIGHBOUR: 'it returns false'. Refute it at one input. -/
def fnExactSumOfIdealsWrong : ChangeSpec := { name := "fnExactSumOfIdeals", vars := ["loop.example/g01342/impl.errNoFactors"], fn := fun _ => fun
  | [d1, d2, g1] => { results := [.lit (.bool false)], args := [d1, d2], vars := [g1] }
  | _ => none }
def FnExactSumOfIdealsWrongFalsely : Prop := fnExactSumOfIdealsRow.holds Tryd.pinned (OpenSpec.ofChange fnExactSumOfIdealsWrong)

/-- 'laws.FnExactCountKinds': WHATEVER THE INPUT: true; the input reads as it did. -/
def fnExactCountKindsSpec : ChangeSpec := { name := "fnExactCountKinds", vars := ["loop.example/g01342/impl.errNoFactors"], fn := fun _ => fun
  | [d1, d2, g1] => { results := [.lit (.bool true)], args := [d1, d2], vars := [g1] }
  | _ => none }
def fnExactCountKindsRow : OpenClaim := { program := "ytgflkgabofilcaadoor", sum := "00c1ff78dcf48576579219a5f3c96aba908b047041b41794388e315beef0a11f", func := "loop.example/g01342/laws.FnExactCountKinds", spec := "fnExactCountKinds", unfollowed := true, recurses := true, named := ["loop.example/g01342/impl.errNoFactors"], ifaces := true, apart := false, laid := [("loop.example/g01342/impl.errNoFactors", laid_loop_example_g01342_impl_errNoFactors)] }
def FnExactCountKindsSaid : Prop := fnExactCountKindsRow.holds Tryd.pinned (OpenSpec.ofChange fnExactCountKindsSpec)

/-- ITS FALSE NEIGHBOUR: 'it returns false'. Refute it at one input. -/
def fnExactCountKindsWrong : ChangeSpec := { name := "fnExactCountKinds", vars := ["loop.example/g01342/impl.errNoFactors"], fn := fun _ => fun
  | [d1, d2, g1] => { results := [.lit (.bool false)], args := [d1, d2], vars := [g1] }
  | _ => none }
def FnExactCountKindsWrongFalsely : Prop := fnExactCountKindsRow.holds Tryd.pinned (OpenSpec.ofChange fnExactCountKindsWrong)

/-- 'laws.FnExactKindByCharacter': WHATEVER THE INPUT: true; the input reads as it did. -/
def fnExactKindByCharacterSpec : ChangeSpec := { name := "fnExactKindByCharacter", vars := ["loop.example/g01342/impl.errNoFactors"], fn := fun _ => fun
  | [d1, d2, g1] => { results := [.lit (.bool true)], args := [d1, d2], vars := [g1] }
  | _ => none }
def fnExactKindByCharacterRow : OpenClaim := { program := "ytgflkgabofilcaadoor", sum := "00c1ff78dcf48576579219a5f3c96aba908b047041b41794388e315beef0a11f", func := "loop.example/g01342/laws.FnExactKindByCharacter", spec := "fnExactKindByCharacter", unfollowed := true, recurses := true, named := ["loop.example/g01342/impl.errNoFactors"], ifaces := true, apart := false, laid := [("loop.example/g01342/impl.errNoFactors", laid_loop_example_g01342_impl_errNoFactors)] }
def FnExactKindByCharacterSaid : Prop := fnExactKindByCharacterRow.holds Tryd.pinned (OpenSpec.ofChange fnExactKindByCharacterSpec)

/-- ITS FALSE NEIGHBOUR: 'it returns false'. Refute it at one input. -/
def fnExactKindByCharacterWrong : ChangeSpec := { name := "fnExactKindByCharacter", vars := ["loop.example/g01342/impl.errNoFactors"], fn := fun _ => fun
  | [d1, d2, g1] => { results := [.lit (.bool false)], args := [d1, d2], vars := [g1] }
  | _ => none }
def FnExactKindByCharacterWrongFalsely : Prop := fnExactKindByCharacterRow.holds Tryd.pinned (OpenSpec.ofChange fnExactKindByCharacterWrong)

/-- 'laws.FnExactIsPure': WHATEVER THE INPUT: true; the input reads as it did. -/
def fnExactIsPureSpec : ChangeSpec := { name := "fnExactIsPure", vars := ["loop.example/g01342/impl.errNoFactors"], fn := fun _ => fun
  | [d, g1] => { results := [.lit (.bool true)], args := [d], vars := [g1] }
  | _ => none }
def fnExactIsPureRow : OpenClaim := { program := "ytgflkgabofilcaadoor", sum := "00c1ff78dcf48576579219a5f3c96aba908b047041b41794388e315beef0a11f", func := "loop.example/g01342/laws.FnExactIsPure", spec := "fnExactIsPure", unfollowed := true, recurses := true, named := ["loop.example/g01342/impl.errNoFactors"], ifaces := true, apart := false, laid := [("loop.example/g01342/impl.errNoFactors", laid_loop_example_g01342_impl_errNoFactors)] }
def FnExactIsPureSaid : Prop := fnExactIsPureRow.holds Tryd.pinned (OpenSpec.ofChange fnExactIsPureSpec)

/-- ITS FALSE NEIGHBOUR: 'it returns false'. Refute it at one input. -/
def fnExactIsPureWrong : ChangeSpec := { name := "fnExactIsPure", vars := ["loop.example/g01342/impl.errNoFactors"], fn := fun _ => fun
  | [d, g1] => { results := [.lit (.bool false)], args := [d], vars := [g1] }
  | _ => none }
def FnExactIsPureWrongFalsely : Prop := fnExactIsPureRow.holds Tryd.pinned (OpenSpec.ofChange fnExactIsPureWrong)

/- THE SECOND FORM. 'bulk': how many values and letters a reading holds, each counted each time it is reached (what is shared counts as often as it is met; a slice's spare places count too). A statement '..UptoSaid' is the law's where the arguments, and the package variables that the reading takes, are together of bulk at most 1048576: NARROWER than '..Said'. Prove '..Said' where nothing that the law and all that it calls make is longer than what came in: it says more and counts as full. Else prove '..UptoSaid'. A law counts once. -/
mutual
def uptoBulk {H : Type} : DataW H → Nat
  | .lit (.string bytes) => bytes.length + 1
  | .lit _ => 1
  | .nil => 1
  | .ptr d => uptoBulk d + 1
  | .slice elems spare => uptoBulkAll elems + uptoBulkAll spare + 1
  | .agg parts => uptoBulkAll parts + 1
  | .iface _ d => uptoBulk d + 1
  | .map entries => uptoBulkEntries entries + 1
  | .held _ => 1
def uptoBulkAll {H : Type} : List (DataW H) → Nat
  | [] => 0
  | d :: r => uptoBulk d + uptoBulkAll r
def uptoBulkEntries {H : Type} : List (Lit × DataW H) → Nat
  | [] => 0
  | x :: r => uptoBulkEntry x + uptoBulkEntries r
def uptoBulkEntry {H : Type} : Lit × DataW H → Nat
  | (.string bytes, d) => bytes.length + uptoBulk d + 1
  | (_, d) => uptoBulk d + 1
 end
def uptoSmall : (H : Type) → List (DataW H) → Bool := fun _ ds => decide (uptoBulkAll ds ≤ 1048576)
def OpenSpec.upto (s : _root_.Go.ChangeSpec) : _root_.Go.OpenSpec := { _root_.Go.OpenSpec.ofChange s with cond := some uptoSmall }

/-- 'laws.FnExactSignatureOf', WHERE WHAT IT READS IS OF BULK AT MOST 1048576: true; the input reads as it did. -/
def fnExactSignatureOfUptoRow : OpenClaim := { program := "ytgflkgabofilcaadoor", sum := "00c1ff78dcf48576579219a5f3c96aba908b047041b41794388e315beef0a11f", func := "loop.example/g01342/laws.FnExactSignatureOf", spec := "fnExactSignatureOf", unfollowed := true, recurses := true, named := ["loop.example/g01342/impl.errNoFactors"], ifaces := true, apart := false, laid := [("loop.example/g01342/impl.errNoFactors", laid_loop_example_g01342_impl_errNoFactors)], narrowed := true }
def FnExactSignatureOfUptoSaid : Prop := fnExactSignatureOfUptoRow.holds Tryd.pinned (OpenSpec.upto fnExactSignatureOfSpec)

/-- 'laws.FnExactGroupOrder', WHERE WHAT IT READS IS OF BULK AT MOST 1048576: true; the input reads as it did. -/
def fnExactGroupOrderUptoRow : OpenClaim := { program := "ytgflkgabofilcaadoor", sum := "00c1ff78dcf48576579219a5f3c96aba908b047041b41794388e315beef0a11f", func := "loop.example/g01342/laws.FnExactGroupOrder", spec := "fnExactGroupOrder", unfollowed := true, recurses := true, named := ["loop.example/g01342/impl.errNoFactors"], ifaces := true, apart := false, laid := [("loop.example/g01342/impl.errNoFactors", laid_loop_example_g01342_impl_errNoFactors)], narrowed := true }
def FnExactGroupOrderUptoSaid : Prop := fnExactGroupOrderUptoRow.holds Tryd.pinned (OpenSpec.upto fnExactGroupOrderSpec)

/-- 'laws.FnExactLeadingForm', WHERE WHAT IT READS IS OF BULK AT MOST 1048576: true; the input reads as it did. -/
def fnExactLeadingFormUptoRow : OpenClaim := { program := "ytgflkgabofilcaadoor", sum := "00c1ff78dcf48576579219a5f3c96aba908b047041b41794388e315beef0a11f", func := "loop.example/g01342/laws.FnExactLeadingForm", spec := "fnExactLeadingForm", unfollowed := true, recurses := true, named := ["loop.example/g01342/impl.errNoFactors"], ifaces := true, apart := false, laid := [("loop.example/g01342/impl.errNoFactors", laid_loop_example_g01342_impl_errNoFactors)], narrowed := true }
def FnExactLeadingFormUptoSaid : Prop := fnExactLeadingFormUptoRow.holds Tryd.pinned (OpenSpec.upto fnExactLeadingFormSpec)

/-- 'laws.FnExactIdealNumbers', WHERE WHAT IT READS IS OF BULK AT MOST 1048576: true; the input reads as it did. -/
def fnExactIdealNumbersUptoRow : OpenClaim := { program := "ytgflkgabofilcaadoor", sum := "00c1ff78dcf48576579219a5f3c96aba908b047041b41794388e315beef0a11f", func := "loop.example/g01342/laws.FnExactIdealNumbers", spec := "fnExactIdealNumbers", unfollowed := true, recurses := true, named := ["loop.example/g01342/impl.errNoFactors"], ifaces := true, apart := false, laid := [("loop.example/g01342/impl.errNoFactors", laid_loop_example_g01342_impl_errNoFactors)], narrowed := true }
def FnExactIdealNumbersUptoSaid : Prop := fnExactIdealNumbersUptoRow.holds Tryd.pinned (OpenSpec.upto fnExactIdealNumbersSpec)

/-- 'laws.FnExactSumOfIdeals', WHERE WHAT IT READS IS OF BULK AT MOST 1048576: true; the input reads as it did. -/
def fnExactSumOfIdealsUptoRow : OpenClaim := { program := "ytgflkgabofilcaadoor", sum := "00c1ff78dcf48576579219a5f3c96aba908b047041b41794388e315beef0a11f", func := "loop.example/g01342/laws.FnExactSumOfIdeals", spec := "fnExactSumOfIdeals", unfollowed := true, recurses := true, named := ["loop.example/g01342/impl.errNoFactors"], ifaces := true, apart := false, laid := [("loop.example/g01342/impl.errNoFactors", laid_loop_example_g01342_impl_errNoFactors)], narrowed := true }
def FnExactSumOfIdealsUptoSaid : Prop := fnExactSumOfIdealsUptoRow.holds Tryd.pinned (OpenSpec.upto fnExactSumOfIdealsSpec)

/-- 'laws.FnExactCountKinds', WHERE WHAT IT READS IS OF BULK AT MOST 1048576: true; the input reads as it did. -/
def fnExactCountKindsUptoRow : OpenClaim := { program := "ytgflkgabofilcaadoor", sum := "00c1ff78dcf48576579219a5f3c96aba908b047041b41794388e315beef0a11f", func := "loop.example/g01342/laws.FnExactCountKinds", spec := "fnExactCountKinds", unfollowed := true, recurses := true, named := ["loop.example/g01342/impl.errNoFactors"], ifaces := true, apart := false, laid := [("loop.example/g01342/impl.errNoFactors", laid_loop_example_g01342_impl_errNoFactors)], narrowed := true }
def FnExactCountKindsUptoSaid : Prop := fnExactCountKindsUptoRow.holds Tryd.pinned (OpenSpec.upto fnExactCountKindsSpec)

/-- 'laws.FnExactKindByCharacter', WHERE WHAT IT READS IS OF BULK AT MOST 1048576: true; the input reads as it did. -/
def fnExactKindByCharacterUptoRow : OpenClaim := { program := "ytgflkgabofilcaadoor", sum := "00c1ff78dcf48576579219a5f3c96aba908b047041b41794388e315beef0a11f", func := "loop.example/g01342/laws.FnExactKindByCharacter", spec := "fnExactKindByCharacter", unfollowed := true, recurses := true, named := ["loop.example/g01342/impl.errNoFactors"], ifaces := true, apart := false, laid := [("loop.example/g01342/impl.errNoFactors", laid_loop_example_g01342_impl_errNoFactors)], narrowed := true }
def FnExactKindByCharacterUptoSaid : Prop := fnExactKindByCharacterUptoRow.holds Tryd.pinned (OpenSpec.upto fnExactKindByCharacterSpec)

/-- 'laws.FnExactIsPure', WHERE WHAT IT READS IS OF BULK AT MOST 1048576: true; the input reads as it did. -/
def fnExactIsPureUptoRow : OpenClaim := { program := "ytgflkgabofilcaadoor", sum := "00c1ff78dcf48576579219a5f3c96aba908b047041b41794388e315beef0a11f", func := "loop.example/g01342/laws.FnExactIsPure", spec := "fnExactIsPure", unfollowed := true, recurses := true, named := ["loop.example/g01342/impl.errNoFactors"], ifaces := true, apart := false, laid := [("loop.example/g01342/impl.errNoFactors", laid_loop_example_g01342_impl_errNoFactors)], narrowed := true }
def FnExactIsPureUptoSaid : Prop := fnExactIsPureUptoRow.holds Tryd.pinned (OpenSpec.upto fnExactIsPureSpec)

end Rows
end Go.Proofs.YtgflkgabofilcaaDoor
