/-
  NARROWER THAN 'FOR EVERY INPUT', by the rows' own cells (each row's printed sentence says how): FnExactRootsModulo: ifaces, laid · FnExactKindModulo: ifaces, laid · FnExactRationalRoots: ifaces, laid · FnExactIsIrreducible: ifaces, laid · FnExactFactorForm: ifaces, laid · FnExactKindsUpTo: ifaces, laid · FnExactCountRoots: ifaces, laid · FnExactInverseElem: ifaces, laid.
  DERIVED. THE GIVEN ROWS OF THIS SEAT. 8 by the template 'for every input the law returns true; each argument reads behind the call as it read before'; 0 by the template 'total and deterministic' (their statements: YtfompkidjfnjnaaDoorTotals.lean).
  GIVEN WITH THE SEED: the statements are not yours to turn. If you find one false, say at which input.
  Laid BY PROGRAM, IN A SANDBOX (cutbox-rows.mjs): the forced cells as the released guide's own fill.sh prints them over the translation 1260f06e2c8ec2b5… (all of the seat's roots in one cut). By AI agents, Wed Nov 11 2026. No macro, syntax, notation, axiom, sorry.
-/
import Derived.Test.YtfompkidjfnjnaaDoorChecked
import GoSem.Claim
import GoSem.ClaimJoined
import GoSem.ClaimMapViews
import Derived.JoinedTies
import Derived.KernelRfl
namespace Go.Proofs.YtfompkidjfnjnaaDoor
/- THE CELL 'sum', in the pinned program and in every row, IS THE sha256 OF THE DUMP (.gsa) THAT YtfompkidjfnjnaaDoorProg.lean LOADS. Nothing in Lean hashes anything: it is a label: what it is worth is what the hold of that sum in a sandbox is worth. -/
noncomputable def Tryd.pinned : Pinned := { name := "ytfompkidjfnjnaadoor", sum := "1260f06e2c8ec2b585b990cc79fe5ad6ccc941cd61aaf156b860205d20393923", checked := Tryd.checked }
namespace Rows
def none {H : Type} : Left H := { results := [], args := [] }

/- WHAT THE LISTED PACKAGE-LEVEL VARIABLES READ AS WHEN THE CALL BEGINS. Each datum BY PROGRAM (the guide's laid-datum.mjs) off the statement by which the dump's own 'gosem.cut.vars' lays the variable. In a bare row this is a premise. The card (YtfompkidjfnjnaaDoorCards.lean) ties it to the program's text. -/
def laid_loop_example_g01342_impl_errNoFactors {H : Type} : DataW H := .iface "*errors.errorString" (.ptr (.agg [.lit (.string [116, 104, 101, 32, 102, 111, 114, 109, 32, 105, 115, 32, 48, 32, 97, 110, 100, 32, 104, 97, 115, 32, 110, 111, 32, 102, 97, 99, 116, 111, 114, 115])]))
def laid_loop_example_g01342_impl_errNoUnit {H : Type} : DataW H := .iface "*errors.errorString" (.ptr (.agg [.lit (.string [116, 104, 101, 32, 101, 108, 101, 109, 101, 110, 116, 32, 105, 115, 32, 110, 111, 32, 117, 110, 105, 116])]))

/-- 'laws.FnExactRootsModulo': WHATEVER THE INPUT: true; the input reads as it did. -/
def fnExactRootsModuloSpec : ChangeSpec := { name := "fnExactRootsModulo", vars := ["loop.example/g01342/impl.errNoFactors"], fn := fun _ => fun
  | [d1, d2, g1] => { results := [.lit (.bool true)], args := [d1, d2], vars := [g1] }
  | _ => none }
def fnExactRootsModuloRow : OpenClaim := { program := "ytfompkidjfnjnaadoor", sum := "1260f06e2c8ec2b585b990cc79fe5ad6ccc941cd61aaf156b860205d20393923", func := "loop.example/g01342/laws.FnExactRootsModulo", spec := "fnExactRootsModulo", unfollowed := true, recurses := true, named := ["loop.example/g01342/impl.errNoFactors"], ifaces := true, apart := false, laid := [("loop.example/g01342/impl.errNoFactors", laid_loop_example_g01342_impl_errNoFactors)] }
def FnExactRootsModuloSaid : Prop := fnExactRootsModuloRow.holds Tryd.pinned (OpenSpec.ofChange fnExactRootsModuloSpec)

/-- ITS FALSE NEIGHBOUR: 'it returns false'. Refute it at one input. -/
def fnExactRootsModuloWrong : ChangeSpec := { name := "fnExactRootsModulo", vars := ["loop.example/g01342/impl.errNoFactors"], fn := fun _ => fun
  | [d1, d2, g1] => { results := [.lit (.bool false)], args := [d1, d2], vars := [g1] }
  | _ => none }
def FnExactRootsModuloWrongFalsely : Prop := fnExactRootsModuloRow.holds Tryd.pinned (OpenSpec.ofChange fnExactRootsModuloWrong)

/-- 'laws.FnExactKindModulo': WHATEVER THE INPUT: true; the input reads as it did. -/
def fnExactKindModuloSpec : ChangeSpec := { name := "fnExactKindModulo", vars := ["loop.example/g01342/impl.errNoFactors"], fn := fun _ => fun
  | [d1, d2, g1] => { results := [.lit (.bool true)], args := [d1, d2], vars := [g1] }
  | _ => none }
def fnExactKindModuloRow : OpenClaim := { program := "ytfompkidjfnjnaadoor", sum := "1260f06e2c8ec2b585b990cc79fe5ad6ccc941cd61aaf156b860205d20393923", func := "loop.example/g01342/laws.FnExactKindModulo", spec := "fnExactKindModulo", unfollowed := true, recurses := true, named := ["loop.example/g01342/impl.errNoFactors"], ifaces := true, apart := false, laid := [("loop.example/g01342/impl.errNoFactors", laid_loop_example_g01342_impl_errNoFactors)] }
def FnExactKindModuloSaid : Prop := fnExactKindModuloRow.holds Tryd.pinned (OpenSpec.ofChange fnExactKindModuloSpec)

/-- ITS FALSE NEIGHBOUR: 'it returns false'. Refute it at one input. -/
def fnExactKindModuloWrong : ChangeSpec := { name := "fnExactKindModulo", vars := ["loop.example/g01342/impl.errNoFactors"], fn := fun _ => fun
  | [d1, d2, g1] => { results := [.lit (.bool false)], args := [d1, d2], vars := [g1] }
  | _ => none }
def FnExactKindModuloWrongFalsely : Prop := fnExactKindModuloRow.holds Tryd.pinned (OpenSpec.ofChange fnExactKindModuloWrong)

/-- 'laws.FnExactRationalRoots': WHATEVER THE INPUT: true; the input reads as it did. -/
def fnExactRationalRootsSpec : ChangeSpec := { name := "fnExactRationalRoots", vars := ["loop.example/g01342/impl.errNoFactors"], fn := fun _ => fun
  | [d, g1] => { results := [.lit (.bool true)], args := [d], vars := [g1] }
  | _ => none }
def fnExactRationalRootsRow : OpenClaim := { program := "ytfompkidjfnjnaadoor", sum := "1260f06e2c8ec2b585b990cc79fe5ad6ccc941cd61aaf156b860205d20393923", func := "loop.example/g01342/laws.FnExactRationalRoots", spec := "fnExactRationalRoots", unfollowed := true, recurses := true, named := ["loop.example/g01342/impl.errNoFactors"], ifaces := true, apart := false, laid := [("loop.example/g01342/impl.errNoFactors", laid_loop_example_g01342_impl_errNoFactors)] }
def FnExactRationalRootsSaid : Prop := fnExactRationalRootsRow.holds Tryd.pinned (OpenSpec.ofChange fnExactRationalRootsSpec)

/-- ITS FALSE NEIGHBOUR: 'it returns false'. Refute it at one input. -/
def fnExactRationalRootsWrong : ChangeSpec := { name := "fnExactRationalRoots", vars := ["loop.example/g01342/impl.errNoFactors"], fn := fun _ => fun
  | [d, g1] => { results := [.lit (.bool false)], args := [d], vars := [g1] }
  | _ => none }
def FnExactRationalRootsWrongFalsely : Prop := fnExactRationalRootsRow.holds Tryd.pinned (OpenSpec.ofChange fnExactRationalRootsWrong)

/-- 'laws.FnExactIsIrreducible': WHATEVER THE INPUT: true; the input reads as it did. -/
def fnExactIsIrreducibleSpec : ChangeSpec := { name := "fnExactIsIrreducible", vars := ["loop.example/g01342/impl.errNoFactors"], fn := fun _ => fun
  | [d, g1] => { results := [.lit (.bool true)], args := [d], vars := [g1] }
  | _ => none }
def fnExactIsIrreducibleRow : OpenClaim := { program := "ytfompkidjfnjnaadoor", sum := "1260f06e2c8ec2b585b990cc79fe5ad6ccc941cd61aaf156b860205d20393923", func := "loop.example/g01342/laws.FnExactIsIrreducible", spec := "fnExactIsIrreducible", unfollowed := true, recurses := true, named := ["loop.example/g01342/impl.errNoFactors"], ifaces := true, apart := false, laid := [("loop.example/g01342/impl.errNoFactors", laid_loop_example_g01342_impl_errNoFactors)] }
def FnExactIsIrreducibleSaid : Prop := fnExactIsIrreducibleRow.holds Tryd.pinned (OpenSpec.ofChange fnExactIsIrreducibleSpec)

/-- ITS FALSE NEIGHBOUR: 'it returns false'. Refute it at one input. -/
def fnExactIsIrreducibleWrong : ChangeSpec := { name := "fnExactIsIrreducible", vars := ["loop.example/g01342/impl.errNoFactors"], fn := fun _ => fun
  | [d, g1] => { results := [.lit (.bool false)], args := [d], vars := [g1] }
  | _ => none }
def FnExactIsIrreducibleWrongFalsely : Prop := fnExactIsIrreducibleRow.holds Tryd.pinned (OpenSpec.ofChange fnExactIsIrreducibleWrong)

/-- 'laws.FnExactFactorForm': WHATEVER THE INPUT: true; the input reads as it did. -/
def fnExactFactorFormSpec : ChangeSpec := { name := "fnExactFactorForm", vars := ["loop.example/g01342/impl.errNoFactors"], fn := fun _ => fun
  | [d, g1] => { results := [.lit (.bool true)], args := [d], vars := [g1] }
  | _ => none }
def fnExactFactorFormRow : OpenClaim := { program := "ytfompkidjfnjnaadoor", sum := "1260f06e2c8ec2b585b990cc79fe5ad6ccc941cd61aaf156b860205d20393923", func := "loop.example/g01342/laws.FnExactFactorForm", spec := "fnExactFactorForm", unfollowed := true, recurses := true, named := ["loop.example/g01342/impl.errNoFactors"], ifaces := true, apart := false, laid := [("loop.example/g01342/impl.errNoFactors", laid_loop_example_g01342_impl_errNoFactors)] }
def FnExactFactorFormSaid : Prop := fnExactFactorFormRow.holds Tryd.pinned (OpenSpec.ofChange fnExactFactorFormSpec)

/-- ITS FALSE NEIGHBOUR: 'it returns false'. Refute it at one input. -/
def fnExactFactorFormWrong : ChangeSpec := { name := "fnExactFactorForm", vars := ["loop.example/g01342/impl.errNoFactors"], fn := fun _ => fun
  | [d, g1] => { results := [.lit (.bool false)], args := [d], vars := [g1] }
  | _ => none }
def FnExactFactorFormWrongFalsely : Prop := fnExactFactorFormRow.holds Tryd.pinned (OpenSpec.ofChange fnExactFactorFormWrong)

/-- 'laws.FnExactKindsUpTo': WHATEVER THE INPUT: true; the input reads as it did. -/
def fnExactKindsUpToSpec : ChangeSpec := { name := "fnExactKindsUpTo", vars := ["loop.example/g01342/impl.errNoFactors"], fn := fun _ => fun
  | [d1, d2, g1] => { results := [.lit (.bool true)], args := [d1, d2], vars := [g1] }
  | _ => none }
def fnExactKindsUpToRow : OpenClaim := { program := "ytfompkidjfnjnaadoor", sum := "1260f06e2c8ec2b585b990cc79fe5ad6ccc941cd61aaf156b860205d20393923", func := "loop.example/g01342/laws.FnExactKindsUpTo", spec := "fnExactKindsUpTo", unfollowed := true, recurses := true, named := ["loop.example/g01342/impl.errNoFactors"], ifaces := true, apart := false, laid := [("loop.example/g01342/impl.errNoFactors", laid_loop_example_g01342_impl_errNoFactors)] }
def FnExactKindsUpToSaid : Prop := fnExactKindsUpToRow.holds Tryd.pinned (OpenSpec.ofChange fnExactKindsUpToSpec)

/-- ITS FALSE NEIGHBOUR: 'it returns false'. Refute it at one input. -/
def fnExactKindsUpToWrong : ChangeSpec := { name := "fnExactKindsUpTo", vars := ["loop.example/g01342/impl.errNoFactors"], fn := fun _ => fun
  | [d1, d2, g1] => { results := [.lit (.bool false)], args := [d1, d2], vars := [g1] }
  | _ => none }
def FnExactKindsUpToWrongFalsely : Prop := fnExactKindsUpToRow.holds Tryd.pinned (OpenSpec.ofChange fnExactKindsUpToWrong)

/-- 'laws.FnExactCountRoots': WHATEVER THE INPUT: true; the input reads as it did. -/
def fnExactCountRootsSpec : ChangeSpec := { name := "fnExactCountRoots", vars := ["loop.example/g01342/impl.errNoFactors"], fn := fun _ => fun
  | [d1, d2, g1] => { results := [.lit (.bool true)], args := [d1, d2], vars := [g1] }
  | _ => none }
def fnExactCountRootsRow : OpenClaim := { program := "ytfompkidjfnjnaadoor", sum := "1260f06e2c8ec2b585b990cc79fe5ad6ccc941cd61aaf156b860205d20393923", func := "loop.example/g01342/laws.FnExactCountRoots", spec := "fnExactCountRoots", unfollowed := true, recurses := true, named := ["loop.example/g01342/impl.errNoFactors"], ifaces := true, apart := false, laid := [("loop.example/g01342/impl.errNoFactors", laid_loop_example_g01342_impl_errNoFactors)] }
def FnExactCountRootsSaid : Prop := fnExactCountRootsRow.holds Tryd.pinned (OpenSpec.ofChange fnExactCountRootsSpec)

/-- ITS FALSE NEIGHBOUR: 'it returns false'. Refute it at one input. -/
def fnExactCountRootsWrong : ChangeSpec := { name := "fnExactCountRoots", vars := ["loop.example/g01342/impl.errNoFactors"], fn := fun _ => fun
  | [d1, d2, g1] => { results := [.lit (.bool false)], args := [d1, d2], vars := [g1] }
  | _ => none }
def FnExactCountRootsWrongFalsely : Prop := fnExactCountRootsRow.holds Tryd.pinned (OpenSpec.ofChange fnExactCountRootsWrong)

/-- 'laws.FnExactInverseElem': WHATEVER THE INPUT: true; the input reads as it did. -/
def fnExactInverseElemSpec : ChangeSpec := { name := "fnExactInverseElem", vars := ["loop.example/g01342/impl.errNoUnit"], fn := fun _ => fun
  | [d1, d2, g1] => { results := [.lit (.bool true)], args := [d1, d2], vars := [g1] }
  | _ => none }
def fnExactInverseElemRow : OpenClaim := { program := "ytfompkidjfnjnaadoor", sum := "1260f06e2c8ec2b585b990cc79fe5ad6ccc941cd61aaf156b860205d20393923", func := "loop.example/g01342/laws.FnExactInverseElem", spec := "fnExactInverseElem", unfollowed := true, recurses := true, named := ["loop.example/g01342/impl.errNoUnit"], ifaces := true, apart := false, laid := [("loop.example/g01342/impl.errNoUnit", laid_loop_example_g01342_impl_errNoUnit)] }
def FnExactInverseElemSaid : Prop := fnExactInverseElemRow.holds Tryd.pinned (OpenSpec.ofChange fnExactInverseElemSpec)

/-- ITS FALSE NEIGHBOUR: 'it returns false'. Refute it at one input. -/
def fnExactInverseElemWrong : ChangeSpec := { name := "fnExactInverseElem", vars := ["loop.example/g01342/impl.errNoUnit"], fn := fun _ => fun
  | [d1, d2, g1] => { results := [.lit (.bool false)], args := [d1, d2], vars := [g1] }
  | _ => none }
def FnExactInverseElemWrongFalsely : Prop := fnExactInverseElemRow.holds Tryd.pinned (OpenSpec.ofChange fnExactInverseElemWrong)

/- THE SECOND FORM. 'bulk': how many values and letters a reading holds, each counted each time it is reached (what is shared counts as often as it is met; a slice's spare places count too). A statement '..UptoSaid' is the law's where the arguments, and the package variables that the reading takes, are together of bulk at most 1048576: NARROWER than '..Said'. Prove '..Said' where nothing that the law and all that it calls make is longer than what came in: it says more and counts as full. Else prove '..UptoSaid'. A law counts once. -/
mutual
def uptoBulk {H : Type} : DataW H → Nat
  | .lit (.string bytes) => bytes.length + 1
  | .lit _ => 1
  | .nil => 1
  | .ptr d => uptoBulk d + 1
  | .slice elems spare => uptoBulkAll elems + uptoBulkAll spare + 1
  | .agg parts => uptoBulkAll parts + 1
  | .iface _ d => uptoBulk d + 1
  | .map entries => uptoBulkEntries entries + 1
  | .held _ => 1
def uptoBulkAll {H : Type} : List (DataW H) → Nat
  | [] => 0
  | d :: r => uptoBulk d + uptoBulkAll r
def uptoBulkEntries {H : Type} : List (Lit × DataW H) → Nat
  | [] => 0
  | x :: r => uptoBulkEntry x + uptoBulkEntries r
def uptoBulkEntry {H : Type} : Lit × DataW H → Nat
  | (.string bytes, d) => bytes.length + uptoBulk d + 1
  | (_, d) => uptoBulk d + 1
 end
def uptoSmall : (H : Type) → List (DataW H) → Bool := fun _ ds => decide (uptoBulkAll ds ≤ 1048576)
def OpenSpec.upto (s : _root_.Go.ChangeSpec) : _root_.Go.OpenSpec := { _root_.Go.OpenSpec.ofChange s with cond := some uptoSmall }

/-- 'laws.FnExactRootsModulo', WHERE WHAT IT READS IS OF BULK AT MOST 1048576: true; the input reads as it did. -/
def fnExactRootsModuloUptoRow : OpenClaim := { program := "ytfompkidjfnjnaadoor", sum := "1260f06e2c8ec2b585b990cc79fe5ad6ccc941cd61aaf156b860205d20393923", func := "loop.example/g01342/laws.FnExactRootsModulo", spec := "fnExactRootsModulo", unfollowed := true, recurses := true, named := ["loop.example/g01342/impl.errNoFactors"], ifaces := true, apart := false, laid := [("loop.example/g01342/impl.errNoFactors", laid_loop_example_g01342_impl_errNoFactors)], narrowed := true }
def FnExactRootsModuloUptoSaid : Prop := fnExactRootsModuloUptoRow.holds Tryd.pinned (OpenSpec.upto fnExactRootsModuloSpec)

/-- 'laws.FnExactKindModulo', WHERE WHAT IT READS IS OF BULK AT MOST 1048576: true; the input reads as it did. -/
def fnExactKindModuloUptoRow : OpenClaim := { program := "ytfompkidjfnjnaadoor", sum := "1260f06e2c8ec2b585b990cc79fe5ad6ccc941cd61aaf156b860205d20393923", func := "loop.example/g01342/laws.FnExactKindModulo", spec := "fnExactKindModulo", unfollowed := true, recurses := true, named := ["loop.example/g01342/impl.errNoFactors"], ifaces := true, apart := false, laid := [("loop.example/g01342/impl.errNoFactors", laid_loop_example_g01342_impl_errNoFactors)], narrowed := true }
def FnExactKindModuloUptoSaid : Prop := fnExactKindModuloUptoRow.holds Tryd.pinned (OpenSpec.upto fnExactKindModuloSpec)

/-- 'laws.FnExactRationalRoots', WHERE WHAT IT READS IS OF BULK AT MOST 1048576: true; the input reads as it did. -/
def fnExactRationalRootsUptoRow : OpenClaim := { program := "ytfompkidjfnjnaadoor", sum := "1260f06e2c8ec2b585b990cc79fe5ad6ccc941cd61aaf156b860205d20393923", func := "loop.example/g01342/laws.FnExactRationalRoots", spec := "fnExactRationalRoots", unfollowed := true, recurses := true, named := ["loop.example/g01342/impl.errNoFactors"], ifaces := true, apart := false, laid := [("loop.example/g01342/impl.errNoFactors", laid_loop_example_g01342_impl_errNoFactors)], narrowed := true }
def FnExactRationalRootsUptoSaid : Prop := fnExactRationalRootsUptoRow.holds Tryd.pinned (OpenSpec.upto fnExactRationalRootsSpec)

/-- 'laws.FnExactIsIrreducible', WHERE WHAT IT READS IS OF BULK AT MOST 1048576: true; the input reads as it did. -/
def fnExactIsIrreducibleUptoRow : OpenClaim := { program := "ytfompkidjfnjnaadoor", sum := "1260f06e2c8ec2b585b990cc79fe5ad6ccc941cd61aaf156b860205d20393923", func := "loop.example/g01342/laws.FnExactIsIrreducible", spec := "fnExactIsIrreducible", unfollowed := true, recurses := true, named := ["loop.example/g01342/impl.errNoFactors"], ifaces := true, apart := false, laid := [("loop.example/g01342/impl.errNoFactors", laid_loop_example_g01342_impl_errNoFactors)], narrowed := true }
def FnExactIsIrreducibleUptoSaid : Prop := fnExactIsIrreducibleUptoRow.holds Tryd.pinned (OpenSpec.upto fnExactIsIrreducibleSpec)

/-- 'laws.FnExactFactorForm', WHERE WHAT IT READS IS OF BULK AT MOST 1048576: true; the input reads as it did. -/
def fnExactFactorFormUptoRow : OpenClaim := { program := "ytfompkidjfnjnaadoor", sum := "1260f06e2c8ec2b585b990cc79fe5ad6ccc941cd61aaf156b860205d20393923", func := "loop.example/g01342/laws.FnExactFactorForm", spec := "fnExactFactorForm", unfollowed := true, recurses := true, named := ["loop.example/g01342/impl.errNoFactors"], ifaces := true, apart := false, laid := [("loop.example/g01342/impl.errNoFactors", laid_loop_example_g01342_impl_errNoFactors)], narrowed := true }
def FnExactFactorFormUptoSaid : Prop := fnExactFactorFormUptoRow.holds Tryd.pinned (OpenSpec.upto fnExactFactorFormSpec)

/-- 'laws.FnExactKindsUpTo', WHERE WHAT IT READS IS OF BULK AT MOST 1048576: true; the input reads as it did. -/
def fnExactKindsUpToUptoRow : OpenClaim := { program := "ytfompkidjfnjnaadoor", sum := "1260f06e2c8ec2b585b990cc79fe5ad6ccc941cd61aaf156b860205d20393923", func := "loop.example/g01342/laws.FnExactKindsUpTo", spec := "fnExactKindsUpTo", unfollowed := true, recurses := true, named := ["loop.example/g01342/impl.errNoFactors"], ifaces := true, apart := false, laid := [("loop.example/g01342/impl.errNoFactors", laid_loop_example_g01342_impl_errNoFactors)], narrowed := true }
def FnExactKindsUpToUptoSaid : Prop := fnExactKindsUpToUptoRow.holds Tryd.pinned (OpenSpec.upto fnExactKindsUpToSpec)

/-- 'laws.FnExactCountRoots', WHERE WHAT IT READS IS OF BULK AT MOST 1048576: true; the input reads as it did. -/
def fnExactCountRootsUptoRow : OpenClaim := { program := "ytfompkidjfnjnaadoor", sum := "1260f06e2c8ec2b585b990cc79fe5ad6ccc941cd61aaf156b860205d20393923", func := "loop.example/g01342/laws.FnExactCountRoots", spec := "fnExactCountRoots", unfollowed := true, recurses := true, named := ["loop.example/g01342/impl.errNoFactors"], ifaces := true, apart := false, laid := [("loop.example/g01342/impl.errNoFactors", laid_loop_example_g01342_impl_errNoFactors)], narrowed := true }
def FnExactCountRootsUptoSaid : Prop := fnExactCountRootsUptoRow.holds Tryd.pinned (OpenSpec.upto fnExactCountRootsSpec)

/-- 'laws.FnExactInverseElem', WHERE WHAT IT READS IS OF BULK AT MOST 1048576: true; the input reads as it did. -/
def fnExactInverseElemUptoRow : OpenClaim := { program := "ytfompkidjfnjnaadoor", sum := "1260f06e2c8ec2b585b990cc79fe5ad6ccc941cd61aaf156b860205d20393923", func := "loop.example/g01342/laws.FnExactInverseElem", spec := "fnExactInverseElem", unfollowed := true, recurses := true, named := ["loop.example/g01342/impl.errNoUnit"], ifaces := true, apart := false, laid := [("loop.example/g01342/impl.errNoUnit", laid_loop_example_g01342_impl_errNoUnit)], narrowed := true }
def FnExactInverseElemUptoSaid : Prop := fnExactInverseElemUptoRow.holds Tryd.pinned (OpenSpec.upto fnExactInverseElemSpec)

end Rows
end Go.Proofs.YtfompkidjfnjnaaDoor
