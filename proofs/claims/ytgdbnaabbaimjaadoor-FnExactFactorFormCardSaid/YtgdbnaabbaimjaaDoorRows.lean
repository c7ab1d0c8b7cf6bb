/-
  NARROWER THAN 'FOR EVERY INPUT', by the rows' own cells (each row's printed sentence says how): FnPromiseOfAll: ifaces, laid · FnFactors: ifaces, laid · FnExactFactorForm: ifaces, laid.
  DERIVED. THE GIVEN ROWS OF THIS SEAT. 3 by the template 'for every input the law returns true; each argument reads behind the call as it read before'; 0 by the template 'total and deterministic' (their statements: YtgdbnaabbaimjaaDoorTotals.lean).
  GIVEN WITH THE SEED: the statements are not yours to turn. If you find one false, say at which input.
  Laid BY PROGRAM, IN A SANDBOX (cutbox-rows.mjs): the forced cells as the released guide's own fill.sh prints them over the translation 02cbbc3024af5592… (all of the seat's roots in one cut). By AI agents, Wed Nov 11 2026. No macro, syntax, notation, axiom, sorry.
-/
import Derived.Test.YtgdbnaabbaimjaaDoorChecked
import GoSem.Claim
import GoSem.ClaimJoined
import GoSem.ClaimMapViews
import Derived.JoinedTies
import Derived.KernelRfl
namespace Go.Proofs.YtgdbnaabbaimjaaDoor
/- THE CELL 'sum', in the pinned program and in every row, IS THE sha256 OF THE DUMP (.gsa) THAT YtgdbnaabbaimjaaDoorProg.lean LOADS. Nothing in Lean hashes anything: it is a label: what it is worth is what the hold of that sum in a sandbox is worth. -/
noncomputable def Tryd.pinned : Pinned := { name := "ytgdbnaabbaimjaadoor", sum := "02cbbc3024af559213978cb2d210ddef07f8f8e154ddba28f2ada083fde4896b", checked := Tryd.checked }
namespace Rows
def none {H : Type} : Left H := { results := [], args := [] }

/- WHAT THE LISTED PACKAGE-LEVEL VARIABLES READ AS WHEN THE CALL BEGINS. Each datum BY PROGRAM (the guide's laid-datum.mjs) off the statement by which the dump's own 'gosem.cut.vars' lays the variable. In a bare row this is a premise. The card (YtgdbnaabbaimjaaDoorCards.lean) ties it to the program's text. -/
def laid_loop_example_g01342_impl_errNoFactors {H : Type} : DataW H := .iface "*errors.errorString" (.ptr (.agg [.lit (.string [116, 104, 101, 32, 102, 111, 114, 109, 32, 105, 115, 32, 48, 32, 97, 110, 100, 32, 104, 97, 115, 32, 110, 111, 32, 102, 97, 99, 116, 111, 114, 115])]))

/-- 'laws.FnPromiseOfAll': WHATEVER THE INPUT: true; the input reads as it did. -/
def fnPromiseOfAllSpec : ChangeSpec := { name := "fnPromiseOfAll", vars := ["loop.example/g01342/impl.errNoFactors"], fn := fun _ => fun
  | [d1, d2, d3, d4, d5, g1] => { results := [.lit (.bool true)], args := [d1, d2, d3, d4, d5], vars := [g1] }
  | _ => none }
def fnPromiseOfAllRow : OpenClaim := { program := "ytgdbnaabbaimjaadoor", sum := "02cbbc3024af559213978cb2d210ddef07f8f8e154ddba28f2ada083fde4896b", func := "loop.example/g01342/laws.FnPromiseOfAll", spec := "fnPromiseOfAll", unfollowed := true, recurses := true, named := ["loop.example/g01342/impl.errNoFactors"], ifaces := true, plainKeys := false, apart := false, laid := [("loop.example/g01342/impl.errNoFactors", laid_loop_example_g01342_impl_errNoFactors)] }
def FnPromiseOfAllSaid : Prop := fnPromiseOfAllRow.holds Tryd.pinned (OpenSpec.ofChange fnPromiseOfAllSpec)

/-- ITS FALSE NEIGHBOUR: 'it returns false'. Refute it at one input. -/
def fnPromiseOfAllWrong : ChangeSpec := { name := "fnPromiseOfAll", vars := ["loop.example/g01342/impl.errNoFactors"], fn := fun _ => fun
  | [d1, d2, d3, d4, d5, g1] => { results := [.lit (.bool false)], args := [d1, d2, d3, d4, d5], vars := [g1] }
  | _ => none }
def FnPromiseOfAllWrongFalsely : Prop := fnPromiseOfAllRow.holds Tryd.pinned (OpenSpec.ofChange fnPromiseOfAllWrong)

/-- 'laws.FnFactors': WHATEVER THE INPUT: true; the input reads as it did. -/
def fnFactorsSpec : ChangeSpec := { name := "fnFactors", vars := ["loop.example/g01342/impl.errNoFactors"], fn := fun _ => fun
  | [d, g1] => { results := [.lit (.bool true)], args := [d], vars := [g1] }
  | _ => none }
def fnFactorsRow : OpenClaim := { program := "ytgdbnaabbaimjaadoor", sum := "02cbbc3024af559213978cb2d210ddef07f8f8e154ddba28f2ada083fde4896b", func := "loop.example/g01342/laws.FnFactors", spec := "fnFactors", unfollowed := true, recurses := true, named := ["loop.example/g01342/impl.errNoFactors"], ifaces := true, plainKeys := false, apart := false, laid := [("loop.example/g01342/impl.errNoFactors", laid_loop_example_g01342_impl_errNoFactors)] }
def FnFactorsSaid : Prop := fnFactorsRow.holds Tryd.pinned (OpenSpec.ofChange fnFactorsSpec)

/-- ITS FALSE NEIGHBOUR: 'it returns false'. Refute it at one input. -/
def fnFactorsWrong : ChangeSpec := { name := "fnFactors", vars := ["loop.example/g01342/impl.errNoFactors"], fn := fun _ => fun
  | [d, g1] => { results := [.lit (.bool false)], args := [d], vars := [g1] }
  | _ => none }
def FnFactorsWrongFalsely : Prop := fnFactorsRow.holds Tryd.pinned (OpenSpec.ofChange fnFactorsWrong)

/-- 'laws.FnExactFactorForm': WHATEVER THE INPUT: true; the input reads as it did. -/
def fnExactFactorFormSpec : ChangeSpec := { name := "fnExactFactorForm", vars := ["loop.example/g01342/impl.errNoFactors"], fn := fun _ => fun
  | [d, g1] => { results := [.lit (.bool true)], args := [d], vars := [g1] }
  | _ => none }
def fnExactFactorFormRow : OpenClaim := { program := "ytgdbnaabbaimjaadoor", sum := "02cbbc3024af559213978cb2d210ddef07f8f8e154ddba28f2ada083fde4896b", func := "loop.example/g01342/laws.FnExactFactorForm", spec := "fnExactFactorForm", unfollowed := true, recurses := true, named := ["loop.example/g01342/impl.errNoFactors"], ifaces := true, plainKeys := false, apart := false, laid := [("loop.example/g01342/impl.errNoFactors", laid_loop_example_g01342_impl_errNoFactors)] }
def FnExactFactorFormSaid : Prop := fnExactFactorFormRow.holds Tryd.pinned (OpenSpec.ofChange fnExactFactorFormSpec)

/-- ITS FALSE NEIGHBOUR: 'it returns false'. Refute it at one input. -/
def fnExactFactorFormWrong : ChangeSpec := { name := "fnExactFactorForm", vars := ["loop.example/g01342/impl.errNoFactors"], fn := fun _ => fun
  | [d, g1] => { results := [.lit (.bool false)], args := [d], vars := [g1] }
  | _ => none }
def FnExactFactorFormWrongFalsely : Prop := fnExactFactorFormRow.holds Tryd.pinned (OpenSpec.ofChange fnExactFactorFormWrong)

/- THE SECOND FORM. 'bulk': how many values and letters a reading holds, each counted each time it is reached (what is shared counts as often as it is met; a slice's spare places count too). A statement '..UptoSaid' is the law's where the arguments, and the package variables that the reading takes, are together of bulk at most 1048576: NARROWER than '..Said'. Prove '..Said' where nothing that the law and all that it calls make is longer than what came in: it says more and counts as full. Else prove '..UptoSaid'. A law counts once. -/
mutual
def uptoBulk {H : Type} : DataW H → Nat
  | .lit (.string bytes) => bytes.length + 1
  | .lit _ => 1
  | .nil => 1
  | .ptr d => uptoBulk d + 1
  | .slice elems spare => uptoBulkAll elems + uptoBulkAll spare + 1
  | .agg parts => uptoBulkAll parts + 1
  | .iface _ d => uptoBulk d + 1
  | .map entries => uptoBulkEntries entries + 1
  | .held _ => 1
def uptoBulkAll {H : Type} : List (DataW H) → Nat
  | [] => 0
  | d :: r => uptoBulk d + uptoBulkAll r
def uptoBulkEntries {H : Type} : List (Lit × DataW H) → Nat
  | [] => 0
  | x :: r => uptoBulkEntry x + uptoBulkEntries r
def uptoBulkEntry {H : Type} : Lit × DataW H → Nat
  | (.string bytes, d) => bytes.length + uptoBulk d + 1
  | (_, d) => uptoBulk d + 1
 end
def uptoSmall : (H : Type) → List (DataW H) → Bool := fun _ ds => decide (uptoBulkAll ds ≤ 1048576)
def OpenSpec.upto (s : _root_.Go.ChangeSpec) : _root_.Go.OpenSpec := { _root_.Go.OpenSpec.ofChange s with cond := some uptoSmall }

/-- 'laws.FnPromiseOfAll', WHERE WHAT IT READS IS OF BULK AT MOST 1048576: true; the input reads as it did. -/
def fnPromiseOfAllUptoRow : OpenClaim := { program := "ytgdbnaabbaimjaadoor", sum := "02cbbc3024af559213978cb2d210ddef07f8f8e154ddba28f2ada083fde4896b", func := "loop.example/g01342/laws.FnPromiseOfAll", spec := "fnPromiseOfAll", unfollowed := true, recurses := true, named := ["loop.example/g01342/impl.errNoFactors"], ifaces := true, plainKeys := false, apart := false, laid := [("loop.example/g01342/impl.errNoFactors", laid_loop_example_g01342_impl_errNoFactors)], narrowed := true }
def FnPromiseOfAllUptoSaid : Prop := fnPromiseOfAllUptoRow.holds Tryd.pinned (OpenSpec.upto fnPromiseOfAllSpec)

/-- 'laws.FnFactors', WHERE WHAT IT READS IS OF BULK AT MOST 1048576: true; the input reads as it did. -/
def fnFactorsUptoRow : OpenClaim := { program := "ytgdbnaabbaimjaadoor", sum := "02cbbc3024af559213978cb2d210ddef07f8f8e154ddba28f2ada083fde4896b", func := "loop.example/g01342/laws.FnFactors", spec := "fnFactors", unfollowed := true, recurses := true, named := ["loop.example/g01342/impl.errNoFactors"], ifaces := true, plainKeys := false, apart := false, laid := [("loop.example/g01342/impl.errNoFactors", laid_loop_example_g01342_impl_errNoFactors)], narrowed := true }
def FnFactorsUptoSaid : Prop := fnFactorsUptoRow.holds Tryd.pinned (OpenSpec.upto fnFactorsSpec)

/-- 'laws.FnExactFactorForm', WHERE WHAT IT READS IS OF BULK AT MOST 1048576: true; the input reads as it did. -/
def fnExactFactorFormUptoRow : OpenClaim := { program := "ytgdbnaabbaimjaadoor", sum := "02cbbc3024af559213978cb2d210ddef07f8f8e154ddba28f2ada083fde4896b", func := "loop.example/g01342/laws.FnExactFactorForm", spec := "fnExactFactorForm", unfollowed := true, recurses := true, named := ["loop.example/g01342/impl.errNoFactors"], ifaces := true, plainKeys := false, apart := false, laid := [("loop.example/g01342/impl.errNoFactors", laid_loop_example_g01342_impl_errNoFactors)], narrowed := true }
def FnExactFactorFormUptoSaid : Prop := fnExactFactorFormUptoRow.holds Tryd.pinned (OpenSpec.upto fnExactFactorFormSpec)

end Rows
end Go.Proofs.YtgdbnaabbaimjaaDoor
