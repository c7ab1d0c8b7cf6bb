/-
  NARROWER THAN 'FOR EVERY INPUT', by the rows' own cells (each row's printed sentence says how): FnExactRootsModulo: ifaces, laid · FnExactKindModulo: ifaces, laid · FnExactCountRoots: ifaces, laid · FnExactKindsUpTo: ifaces, laid · FnExactKindByCharacter: ifaces, laid.
  DERIVED. THE GIVEN ROWS OF THIS SEAT. 5 by the template 'for every input the law returns true; each argument reads behind the call as it read before'; 0 by the template 'total and deterministic' (their statements: YtmhlolimaeejfaaDoorTotals.lean).
  GIVEN WITH THE SEED: the statements are not yours to turn. If you find one false, say at which input.
  Laid BY PROGRAM, IN A SANDBOX (cutbox-rows.mjs): the forced cells as the released guide's own fill.sh prints them over the translation 4fe3bbc1297e92ea… (all of the seat's roots in one cut). By AI agents, Wed Nov 11 2026. No macro, syntax, notation, axiom, sorry.
-/
import Derived.Test.YtmhlolimaeejfaaDoorChecked
import GoSem.Claim
import GoSem.ClaimJoined
import GoSem.ClaimMapViews
import Derived.JoinedTies
import Derived.KernelRfl
namespace Go.Proofs.YtmhlolimaeejfaaDoor
/- THE CELL 'sum', in the pinned program and in every row, IS THE sha256 OF THE DUMP (.gsa) THAT YtmhlolimaeejfaaDoorProg.lean LOADS. Nothing in Lean hashes anything: it is a label: what it is worth is what the hold of that sum in a sandbox is worth. -/
noncomputable def Tryd.pinned : Pinned := { name := "ytmhlolimaeejfaadoor", sum := "4fe3bbc1297e92eae06fcd8f030077f2e643bd6205e84035d6f3cb13190bc909", checked := Tryd.checked }
namespace Rows
def none {H : Type} : Left H := { results := [], args := [] }

/- WHAT THE LISTED PACKAGE-LEVEL VARIABLES READ AS WHEN THE CALL BEGINS. Each datum BY PROGRAM (the guide's laid-datum.mjs) off the statement by which the dump's own 'gosem.cut.vars' lays the variable. In a bare row this is a premise. The card (YtmhlolimaeejfaaDoorCards.lean) ties it to the program's text. -/
def laid_loop_example_g01342_impl_errNoFactors {H : Type} : DataW H := .iface "*errors.errorString" (.ptr (.agg [.lit (.string [116, 104, 101, 32, 102, 111, 114, 109, 32, 105, 115, 32, 48, 32, 97, 110, 100, 32, 104, 97, 115, 32, 110, 111, 32, 102, 97, 99, 116, 111, 114, 115])]))

/-- 'laws.FnExactRootsModulo': WHATEVER THE INPUT: true; the input reads as it did. -/
def fnExactRootsModuloSpec : ChangeSpec := { name := "fnExactRootsModulo", vars := ["loop.example/g01342/impl.errNoFactors"], fn := fun _ => fun
  | [d1, d2, g1] => { results := [.lit (.bool true)], args := [d1, d2], vars := [g1] }
  | _ => none }
def fnExactRootsModuloRow : OpenClaim := { program := "ytmhlolimaeejfaadoor", sum := "4fe3bbc1297e92eae06fcd8f030077f2e643bd6205e84035d6f3cb13190bc909", func := "loop.example/g01342/laws.FnExactRootsModulo", spec := "fnExactRootsModulo", unfollowed := true, recurses := true, named := ["loop.example/g01342/impl.errNoFactors"], ifaces := true, apart := false, laid := [("loop.example/g01342/impl.errNoFactors", laid_loop_example_g01342_impl_errNoFactors)] }
def FnExactRootsModuloSaid : Prop := fnExactRootsModuloRow.holds Tryd.pinned (OpenSpec.ofChange fnExactRootsModuloSpec)

/-- ITS FALSE NEIGHBOUR: 'it returns false'. Refute it at one input. -/
def fnExactRootsModuloWrong : ChangeSpec := { name := "fnExactRootsModulo", vars := ["loop.example/g01342/impl.errNoFactors"], fn := fun _ => fun
  | [d1, d2, g1] => { results := [.lit (.bool false)], args := [d1, d2], vars := [g1] }
  | _ => none }
def FnExactRootsModuloWrongFalsely : Prop := fnExactRootsModuloRow.holds Tryd.pinned (OpenSpec.ofChange fnExactRootsModuloWrong)

/-- 'laws.FnExactKindModulo': WHATEVER THE INPUT: true; the input reads as it did. -/
def fnExactKindModuloSpec : ChangeSpec := { name := "fnExactKindModulo", vars := ["loop.example/g01342/impl.errNoFactors"], fn := fun _ => fun
  | [d1, d2, g1] => { results := [.lit (.bool true)], args := [d1, d2], vars := [g1] }
  | _ => none }
def fnExactKindModuloRow : OpenClaim := { program := "ytmhlolimaeejfaadoor", sum := "4fe3bbc1297e92eae06fcd8f030077f2e643bd6205e84035d6f3cb13190bc909", func := "loop.example/g01342/laws.FnExactKindModulo", spec := "fnExactKindModulo", unfollowed := true, recurses := true, named := ["loop.example/g01342/impl.errNoFactors"], ifaces := true, apart := false, laid := [("loop.example/g01342/impl.errNoFactors", laid_loop_example_g01342_impl_errNoFactors)] }
def FnExactKindModuloSaid : Prop := fnExactKindModuloRow.holds Tryd.pinned (OpenSpec.ofChange fnExactKindModuloSpec)

/-- ITS FALSE NEIGHBOUR: 'it returns false'. Refute it at one input. -/
def fnExactKindModuloWrong : ChangeSpec := { name := "fnExactKindModulo", vars := ["loop.example/g01342/impl.errNoFactors"], fn := fun _ => fun
  | [d1, d2, g1] => { results := [.lit (.bool false)], args := [d1, d2], vars := [g1] }
  | _ => none }
def FnExactKindModuloWrongFalsely : Prop := fnExactKindModuloRow.holds Tryd.pinned (OpenSpec.ofChange fnExactKindModuloWrong)

/-- 'laws.FnExactCountRoots': WHATEVER THE INPUT: true; the input reads as it did. -/
def fnExactCountRootsSpec : ChangeSpec := { name := "fnExactCountRoots", vars := ["loop.example/g01342/impl.errNoFactors"], fn := fun _ => fun
  | [d1, d2, g1] => { results := [.lit (.bool true)], args := [d1, d2], vars := [g1] }
  | _ => none }
def fnExactCountRootsRow : OpenClaim := { program := "ytmhlolimaeejfaadoor", sum := "4fe3bbc1297e92eae06fcd8f030077f2e643bd6205e84035d6f3cb13190bc909", func := "loop.example/g01342/laws.FnExactCountRoots", spec := "fnExactCountRoots", unfollowed := true, recurses := true, named := ["loop.example/g01342/impl.errNoFactors"], ifaces := true, apart := false, laid := [("loop.example/g01342/impl.errNoFactors", laid_loop_example_g01342_impl_errNoFactors)] }
def FnExactCountRootsSaid : Prop := fnExactCountRootsRow.holds Tryd.pinned (OpenSpec.ofChange fnExactCountRootsSpec)

/-- ITS FALSE NEIGHBOUR: 'it returns false'. Refute it at one input. -/
def fnExactCountRootsWrong : ChangeSpec := { name := "fnExactCountRoots", vars := ["loop.example/g01342/impl.errNoFactors"], fn := fun _ => fun
  | [d1, d2, g1] => { results := [.lit (.bool false)], args := [d1, d2], vars := [g1] }
  | _ => none }
def FnExactCountRootsWrongFalsely : Prop := fnExactCountRootsRow.holds Tryd.pinned (OpenSpec.ofChange fnExactCountRootsWrong)

/-- 'laws.FnExactKindsUpTo': WHATEVER THE INPUT: true; the input reads as it did. -/
def fnExactKindsUpToSpec : ChangeSpec := { name := "fnExactKindsUpTo", vars := ["loop.example/g01342/impl.errNoFactors"], fn := fun _ => fun
  | [d1, d2, g1] => { results := [.lit (.bool true)], args := [d1, d2], vars := [g1] }
  | _ => none }
def fnExactKindsUpToRow : OpenClaim := { program := "ytmhlolimaeejfaadoor", sum := "4fe3bbc1297e92eae06fcd8f030077f2e643bd6205e84035d6f3cb13190bc909", func := "loop.example/g01342/laws.FnExactKindsUpTo", spec := "fnExactKindsUpTo", unfollowed := true, recurses := true, named := ["loop.example/g01342/impl.errNoFactors"], ifaces := true, apart := false, laid := [("loop.example/g01342/impl.errNoFactors", laid_loop_example_g01342_impl_errNoFactors)] }
def FnExactKindsUpToSaid : Prop := fnExactKindsUpToRow.holds Tryd.pinned (OpenSpec.ofChange fnExactKindsUpToSpec)

/-- ITS FALSE NEIGHBOUR: 'it returns false'. Refute it at one input. -/
def fnExactKindsUpToWrong : ChangeSpec := { name := "fnExactKindsUpTo", vars := ["loop.example/g01342/impl.errNoFactors"], fn := fun _ => fun
  | [d1, d2, g1] => { results := [.lit (.bool false)], args := [d1, d2], vars := [g1] }
  | _ => none }
def FnExactKindsUpToWrongFalsely : Prop := fnExactKindsUpToRow.holds Tryd.pinned (OpenSpec.ofChange fnExactKindsUpToWrong)

/-- 'laws.FnExactKindByCharacter': WHATEVER THE INPUT: true; the input reads as it did. -/
def fnExactKindByCharacterSpec : ChangeSpec := { name := "fnExactKindByCharacter", vars := ["loop.example/g01342/impl.errNoFactors"], fn := fun _ => fun
  | [d1, d2, g1] => { results := [.lit (.bool true)], args := [d1, d2], vars := [g1] }
  | _ => none }
def fnExactKindByCharacterRow : OpenClaim := { program := "ytmhlolimaeejfaadoor", sum := "4fe3bbc1297e92eae06fcd8f030077f2e643bd6205e84035d6f3cb13190bc909", func := "loop.example/g01342/laws.FnExactKindByCharacter", spec := "fnExactKindByCharacter", unfollowed := true, recurses := true, named := ["loop.example/g01342/impl.errNoFactors"], ifaces := true, apart := false, laid := [("loop.example/g01342/impl.errNoFactors", laid_loop_example_g01342_impl_errNoFactors)] }
def FnExactKindByCharacterSaid : Prop := fnExactKindByCharacterRow.holds Tryd.pinned (OpenSpec.ofChange fnExactKindByCharacterSpec)

/-- ITS FALSE NEIGHBOUR: 'it returns false'. Refute it at one input. -/
def fnExactKindByCharacterWrong : ChangeSpec := { name := "fnExactKindByCharacter", vars := ["loop.example/g01342/impl.errNoFactors"], fn := fun _ => fun
  | [d1, d2, g1] => { results := [.lit (.bool false)], args := [d1, d2], vars := [g1] }
  | _ => none }
def FnExactKindByCharacterWrongFalsely : Prop := fnExactKindByCharacterRow.holds Tryd.pinned (OpenSpec.ofChange fnExactKindByCharacterWrong)

/- THE SECOND FORM. 'bulk': how many values and letters a reading holds, each counted each time it is reached (what is shared counts as often as it is met; a slice's spare places count too). A statement '..UptoSaid' is the law's where the arguments, and the package variables that the reading takes, are together of bulk at most 1048576: NARROWER than '..Said'. Prove '..Said' where nothing that the law and all that it calls make is longer than what came in: it says more and counts as full. Else prove '..UptoSaid'. A law counts once. -/
mutual
def uptoBulk {H : Type} : DataW H → Nat
  | .lit (.string bytes) => bytes.length + 1
  | .lit _ => 1
  | .nil => 1
  | .ptr d => uptoBulk d + 1
  | .slice elems spare => uptoBulkAll elems + uptoBulkAll spare + 1
  | .agg parts => uptoBulkAll parts + 1
  | .iface _ d => uptoBulk d + 1
  | .map entries => uptoBulkEntries entries + 1
  | .held _ => 1
def uptoBulkAll {H : Type} : List (DataW H) → Nat
  | [] => 0
  | d :: r => uptoBulk d + uptoBulkAll r
def uptoBulkEntries {H : Type} : List (Lit × DataW H) → Nat
  | [] => 0
  | x :: r => uptoBulkEntry x + uptoBulkEntries r
def uptoBulkEntry {H : Type} : Lit × DataW H → Nat
  | (.string bytes, d) => bytes.length + uptoBulk d + 1
  | (_, d) => uptoBulk d + 1
 end
def uptoSmall : (H : Type) → List (DataW H) → Bool := fun _ ds => decide (uptoBulkAll ds ≤ 1048576)
def OpenSpec.upto (s : _root_.Go.ChangeSpec) : _root_.Go.OpenSpec := { _root_.Go.OpenSpec.ofChange s with cond := some uptoSmall }

/-- 'laws.FnExactRootsModulo', WHERE WHAT IT READS IS OF BULK AT MOST 1048576: true; the input reads as it did. -/
def fnExactRootsModuloUptoRow : OpenClaim := { program := "ytmhlolimaeejfaadoor", sum := "4fe3bbc1297e92eae06fcd8f030077f2e643bd6205e84035d6f3cb13190bc909", func := "loop.example/g01342/laws.FnExactRootsModulo", spec := "fnExactRootsModulo", unfollowed := true, recurses := true, named := ["loop.example/g01342/impl.errNoFactors"], ifaces := true, apart := false, laid := [("loop.example/g01342/impl.errNoFactors", laid_loop_example_g01342_impl_errNoFactors)], narrowed := true }
def FnExactRootsModuloUptoSaid : Prop := fnExactRootsModuloUptoRow.holds Tryd.pinned (OpenSpec.upto fnExactRootsModuloSpec)

/-- 'laws.FnExactKindModulo', WHERE WHAT IT READS IS OF BULK AT MOST 1048576: true; the input reads as it did. -/
def fnExactKindModuloUptoRow : OpenClaim := { program := "ytmhlolimaeejfaadoor", sum := "4fe3bbc1297e92eae06fcd8f030077f2e643bd6205e84035d6f3cb13190bc909", func := "loop.example/g01342/laws.FnExactKindModulo", spec := "fnExactKindModulo", unfollowed := true, recurses := true, named := ["loop.example/g01342/impl.errNoFactors"], ifaces := true, apart := false, laid := [("loop.example/g01342/impl.errNoFactors", laid_loop_example_g01342_impl_errNoFactors)], narrowed := true }
def FnExactKindModuloUptoSaid : Prop := fnExactKindModuloUptoRow.holds Tryd.pinned (OpenSpec.upto fnExactKindModuloSpec)

/-- 'laws.FnExactCountRoots', WHERE WHAT IT READS IS OF BULK AT MOST 1048576: true; the input reads as it did. -/
def fnExactCountRootsUptoRow : OpenClaim := { program := "ytmhlolimaeejfaadoor", sum := "4fe3bbc1297e92eae06fcd8f030077f2e643bd6205e84035d6f3cb13190bc909", func := "loop.example/g01342/laws.FnExactCountRoots", spec := "fnExactCountRoots", unfollowed := true, recurses := true, named := ["loop.example/g01342/impl.errNoFactors"], ifaces := true, apart := false, laid := [("loop.example/g01342/impl.errNoFactors", laid_loop_example_g01342_impl_errNoFactors)], narrowed := true }
def FnExactCountRootsUptoSaid : Prop := fnExactCountRootsUptoRow.holds Tryd.pinned (OpenSpec.upto fnExactCountRootsSpec)

/-- 'laws.FnExactKindsUpTo', WHERE WHAT IT READS IS OF BULK AT MOST 1048576: true; the input reads as it did. -/
def fnExactKindsUpToUptoRow : OpenClaim := { program := "ytmhlolimaeejfaadoor", sum := "4fe3bbc1297e92eae06fcd8f030077f2e643bd6205e84035d6f3cb13190bc909", func := "loop.example/g01342/laws.FnExactKindsUpTo", spec := "fnExactKindsUpTo", unfollowed := true, recurses := true, named := ["loop.example/g01342/impl.errNoFactors"], ifaces := true, apart := false, laid := [("loop.example/g01342/impl.errNoFactors", laid_loop_example_g01342_impl_errNoFactors)], narrowed := true }
def FnExactKindsUpToUptoSaid : Prop := fnExactKindsUpToUptoRow.holds Tryd.pinned (OpenSpec.upto fnExactKindsUpToSpec)

/-- 'laws.FnExactKindByCharacter', WHERE WHAT IT READS IS OF BULK AT MOST 1048576: true; the input reads as it did. -/
def fnExactKindByCharacterUptoRow : OpenClaim := { program := "ytmhlolimaeejfaadoor", sum := "4fe3bbc1297e92eae06fcd8f030077f2e643bd6205e84035d6f3cb13190bc909", func := "loop.example/g01342/laws.FnExactKindByCharacter", spec := "fnExactKindByCharacter", unfollowed := true, recurses := true, named := ["loop.example/g01342/impl.errNoFactors"], ifaces := true, apart := false, laid := [("loop.example/g01342/impl.errNoFactors", laid_loop_example_g01342_impl_errNoFactors)], narrowed := true }
def FnExactKindByCharacterUptoSaid : Prop := fnExactKindByCharacterUptoRow.holds Tryd.pinned (OpenSpec.upto fnExactKindByCharacterSpec)

end Rows
end Go.Proofs.YtmhlolimaeejfaaDoor
