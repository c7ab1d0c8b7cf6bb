/-
  NARROWER THAN 'FOR EVERY INPUT', by the rows' own cells (each row's printed sentence says how): FnFieldKinds: ifaces, laid · FnIdeals: ifaces, laid.
  DERIVED. THE GIVEN ROWS OF THIS SEAT. 2 by the template 'for every input the law returns true; each argument reads behind the call as it read before'; 0 by the template 'total and deterministic' (their statements: YtihcmgjfkiaelaaDoorTotals.lean).
  GIVEN WITH THE SEED: the statements are not yours to turn. If you find one false, say at which input.
  Laid BY PROGRAM, IN A SANDBOX (cutbox-rows.mjs): the forced cells as the released guide's own fill.sh prints them over the translation 23effbfb18424c16… (all of the seat's roots in one cut). By AI agents, Wed Nov 11 2026. No macro, syntax, notation, axiom, sorry.
-/
import Derived.Test.YtihcmgjfkiaelaaDoorChecked
import GoSem.Claim
import GoSem.ClaimJoined
import GoSem.ClaimMapViews
import Derived.JoinedTies
import Derived.KernelRfl
namespace Go.Proofs.YtihcmgjfkiaelaaDoor
/- THE CELL 'sum', in the pinned program and in every row, IS THE sha256 OF THE DUMP (.gsa) THAT YtihcmgjfkiaelaaDoorProg.lean LOADS. Nothing in Lean hashes anything: it is a label: what it is worth is what the hold of that sum in a sandbox is worth. -/
noncomputable def Tryd.pinned : Pinned := { name := "ytihcmgjfkiaelaadoor", sum := "23effbfb18424c16a3c8199622a7d9f802def1a1035539219f99870ee6f5c1e5", checked := Tryd.checked }
namespace Rows
def none {H : Type} : Left H := { results := [], args := [] }

/- WHAT THE LISTED PACKAGE-LEVEL VARIABLES READ AS WHEN THE CALL BEGINS. Each datum BY PROGRAM (the guide's laid-datum.mjs) off the statement by which the dump's own 'gosem.cut.vars' lays the variable. In a bare row this is a premise. The card (YtihcmgjfkiaelaaDoorCards.lean) ties it to the program's text. -/
def laid_loop_example_g01342_impl_errNoFactors {H : Type} : DataW H := .iface "*errors.errorString" (.ptr (.agg [.lit (.string [116, 104, 101, 32, 102, 111, 114, 109, 32, 105, 115, 32, 48, 32, 97, 110, 100, 32, 104, 97, 115, 32, 110, 111, 32, 102, 97, 99, 116, 111, 114, 115])]))

/-- 'laws.FnFieldKinds': WHATEVER THE INPUT: true; the input reads as it did. -/
def fnFieldKindsSpec : ChangeSpec := { name := "fnFieldKinds", vars := ["loop.example/g01342/impl.errNoFactors"], fn := fun _ => fun
  | [d, g1] => { results := [.lit (.bool true)], args := [d], vars := [g1] }
  | _ => none }
def fnFieldKindsRow : OpenClaim := { program := "ytihcmgjfkiaelaadoor", sum := "23effbfb18424c16a3c8199622a7d9f802def1a1035539219f99870ee6f5c1e5", func := "loop.example/g01342/laws.FnFieldKinds", spec := "fnFieldKinds", unfollowed := true, recurses := true, named := ["loop.example/g01342/impl.errNoFactors"], ifaces := true, apart := false, laid := [("loop.example/g01342/impl.errNoFactors", laid_loop_example_g01342_impl_errNoFactors)] }
def FnFieldKindsSaid : Prop := fnFieldKindsRow.holds Tryd.pinned (OpenSpec.ofChange fnFieldKindsSpec)

/-- ITS FALSE NEIGHBOUR: 'it returns false'. Refute it at one input. -/
def fnFieldKindsWrong : ChangeSpec := { name := "fnFieldKinds", vars := ["loop.example/g01342/impl.errNoFactors"], fn := fun _ => fun
  | [d, g1] => { results := [.lit (.bool false)], args := [d], vars := [g1] }
  | _ => none }
def FnFieldKindsWrongFalsely : Prop := fnFieldKindsRow.holds Tryd.pinned (OpenSpec.ofChange fnFieldKindsWrong)

/-- 'laws.FnIdeals': WHATEVER THE INPUT: true; the input reads as it did. -/
def fnIdealsSpec : ChangeSpec := { name := "fnIdeals", vars := ["loop.example/g01342/impl.errNoFactors"], fn := fun _ => fun
  | [d, g1] => { results := [.lit (.bool true)], args := [d], vars := [g1] }
  | _ => none }
def fnIdealsRow : OpenClaim := { program := "ytihcmgjfkiaelaadoor", sum := "23effbfb18424c16a3c8199622a7d9f802def1a1035539219f99870ee6f5c1e5", func := "loop.example/g01342/laws.FnIdeals", spec := "fnIdeals", unfollowed := true, recurses := true, named := ["loop.example/g01342/impl.errNoFactors"], ifaces := true, apart := false, laid := [("loop.example/g01342/impl.errNoFactors", laid_loop_example_g01342_impl_errNoFactors)] }
def FnIdealsSaid : Prop := fnIdealsRow.holds Tryd.pinned (OpenSpec.ofChange fnIdealsSpec)

/-- ITS FALSE NEIGHBOUR: 'it returns false'. Refute it at one input. -/
def fnIdealsWrong : ChangeSpec := { name := "fnIdeals", vars := ["loop.example/g01342/impl.errNoFactors"], fn := fun _ => fun
  | [d, g1] => { results := [.lit (.bool false)], args := [d], vars := [g1] }
  | _ => none }
def FnIdealsWrongFalsely : Prop := fnIdealsRow.holds Tryd.pinned (OpenSpec.ofChange fnIdealsWrong)

/- THE SECOND FORM. 'bulk': how many values and letters a reading holds, each counted each time it is reached (what is shared counts as often as it is met; a slice's spare places count too). A statement '..UptoSaid' is the law's where the arguments, and the package variables that the reading takes, are together of bulk at most 1048576: NARROWER than '..Said'. Prove '..Said' where nothing that the law and all that it calls make is longer than what came in: it says more and counts as full. Else prove '..UptoSaid'. A law counts once. -/
mutual
def uptoBulk {H : Type} : DataW H → Nat
  | .lit (.string bytes) => bytes.length + 1
  | .lit _ => 1
  | .nil => 1
  | .ptr d => uptoBulk d + 1
  | .slice elems spare => uptoBulkAll elems + uptoBulkAll spare + 1
  | .agg parts => uptoBulkAll parts + 1
  | .iface _ d => uptoBulk d + 1
  | .map entries => uptoBulkEntries entries + 1
  | .held _ => 1
def uptoBulkAll {H : Type} : List (DataW H) → Nat
  | [] => 0
  | d :: r => uptoBulk d + uptoBulkAll r
def uptoBulkEntries {H : Type} : List (Lit × DataW H) → Nat
  | [] => 0
  | x :: r => uptoBulkEntry x + uptoBulkEntries r
def uptoBulkEntry {H : Type} : Lit × DataW H → Nat
  | (.string bytes, d) => bytes.length + uptoBulk d + 1
  | (_, d) => uptoBulk d + 1
 end
def uptoSmall : (H : Type) → List (DataW H) → Bool := fun _ ds => decide (uptoBulkAll ds ≤ 1048576)
def OpenSpec.upto (s : _root_.Go.ChangeSpec) : _root_.Go.OpenSpec := { _root_.Go.OpenSpec.ofChange s with cond := some uptoSmall }

/-- 'laws.FnFieldKinds', WHERE WHAT IT READS IS OF BULK AT MOST 1048576: true; the input reads as it did. -/
def fnFieldKindsUptoRow : OpenClaim := { program := "ytihcmgjfkiaelaadoor", sum := "23effbfb18424c16a3c8199622a7d9f802def1a1035539219f99870ee6f5c1e5", func := "loop.example/g01342/laws.FnFieldKinds", spec := "fnFieldKinds", unfollowed := true, recurses := true, named := ["loop.example/g01342/impl.errNoFactors"], ifaces := true, apart := false, laid := [("loop.example/g01342/impl.errNoFactors", laid_loop_example_g01342_impl_errNoFactors)], narrowed := true }
def FnFieldKindsUptoSaid : Prop := fnFieldKindsUptoRow.holds Tryd.pinned (OpenSpec.upto fnFieldKindsSpec)

/-- 'laws.FnIdeals', WHERE WHAT IT READS IS OF BULK AT MOST 1048576: true; the input reads as it did. -/
def fnIdealsUptoRow : OpenClaim := { program := "ytihcmgjfkiaelaadoor", sum := "23effbfb18424c16a3c8199622a7d9f802def1a1035539219f99870ee6f5c1e5", func := "loop.example/g01342/laws.FnIdeals", spec := "fnIdeals", unfollowed := true, recurses := true, named := ["loop.example/g01342/impl.errNoFactors"], ifaces := true, apart := false, laid := [("loop.example/g01342/impl.errNoFactors", laid_loop_example_g01342_impl_errNoFactors)], narrowed := true }
def FnIdealsUptoSaid : Prop := fnIdealsUptoRow.holds Tryd.pinned (OpenSpec.upto fnIdealsSpec)

end Rows
end Go.Proofs.YtihcmgjfkiaelaaDoor
