/-
  NARROWER THAN 'FOR EVERY INPUT', by the rows' own cells (each row's printed sentence says how): FnRingTables: ifaces, laid · FnPromiseOfAll: ifaces, laid.
  DERIVED. THE GIVEN ROWS OF THIS SEAT. 2 by the template 'for every input the law returns true; each argument reads behind the call as it read before'; 0 by the template 'total and deterministic' (their statements: YtdogkkmdccieiaaDoorTotals.lean).
  GIVEN WITH THE SEED: the statements are not yours to turn. If you find one false, say at which input.
  Laid BY PROGRAM, IN A SANDBOX (cutbox-rows.mjs): the forced cells as the released guide's own fill.sh prints them over the translation df0db33a0e702c90… (all of the seat's roots in one cut). By AI agents, Wed Nov 11 2026. No macro, syntax, notation, axiom, sorry.
-/
import Derived.Test.YtdogkkmdccieiaaDoorChecked
import GoSem.Claim
import GoSem.ClaimJoined
import GoSem.ClaimMapViews
import Derived.JoinedTies
import Derived.KernelRfl
namespace Go.Proofs.YtdogkkmdccieiaaDoor
/- THE CELL 'sum', in the pinned program and in every row, IS THE sha256 OF THE DUMP (.gsa) THAT YtdogkkmdccieiaaDoorProg.lean LOADS. Nothing in Lean hashes anything: it is a label: what it is worth is what the hold of that sum in a sandbox is worth. -/
noncomputable def Tryd.pinned : Pinned := { name := "ytdogkkmdccieiaadoor", sum := "df0db33a0e702c90bcdf818e5c36a2131a40026b75ead78e75eff1eb53a1e480", checked := Tryd.checked }
namespace Rows
def none {H : Type} : Left H := { results := [], args := [] }

/- WHAT THE LISTED PACKAGE-LEVEL VARIABLES READ AS WHEN THE CALL BEGINS. Each datum BY PROGRAM (the guide's laid-datum.mjs) off the statement by which the dump's own 'gosem.cut.vars' lays the variable. In a bare row this is a premise. The card (YtdogkkmdccieiaaDoorCards.lean) ties it to the program's text. -/
def laid_loop_example_g01342_impl_errNoUnit {H : Type} : DataW H := .iface "*errors.errorString" (.ptr (.agg [.lit (.string [116, 104, 101, 32, 101, 108, 101, 109, 101, 110, 116, 32, 105, 115, 32, 110, 111, 32, 117, 110, 105, 116])]))
def laid_loop_example_g01342_impl_errNoFactors {H : Type} : DataW H := .iface "*errors.errorString" (.ptr (.agg [.lit (.string [116, 104, 101, 32, 102, 111, 114, 109, 32, 105, 115, 32, 48, 32, 97, 110, 100, 32, 104, 97, 115, 32, 110, 111, 32, 102, 97, 99, 116, 111, 114, 115])]))

/-- 'laws.FnRingTables': WHATEVER THE INPUT: true; the input reads as it did. -/
def fnRingTablesSpec : ChangeSpec := { name := "fnRingTables", vars := ["loop.example/g01342/impl.errNoUnit"], fn := fun _ => fun
  | [d, g1] => { results := [.lit (.bool true)], args := [d], vars := [g1] }
  | _ => none }
def fnRingTablesRow : OpenClaim := { program := "ytdogkkmdccieiaadoor", sum := "df0db33a0e702c90bcdf818e5c36a2131a40026b75ead78e75eff1eb53a1e480", func := "loop.example/g01342/laws.FnRingTables", spec := "fnRingTables", unfollowed := true, recurses := true, named := ["loop.example/g01342/impl.errNoUnit"], ifaces := true, plainKeys := false, apart := false, laid := [("loop.example/g01342/impl.errNoUnit", laid_loop_example_g01342_impl_errNoUnit)] }
def FnRingTablesSaid : Prop := fnRingTablesRow.holds Tryd.pinned (OpenSpec.ofChange fnRingTablesSpec)

/-- ITS FALSE NEIGHBOUR: 'it returns false'. Refute it at one input. -/
def fnRingTablesWrong : ChangeSpec := { name := "fnRingTables", vars := ["loop.example/g01342/impl.errNoUnit"], fn := fun _ => fun
  | [d, g1] => { results := [.lit (.bool false)], args := [d], vars := [g1] }
  | _ => none }
def FnRingTablesWrongFalsely : Prop := fnRingTablesRow.holds Tryd.pinned (OpenSpec.ofChange fnRingTablesWrong)

/-- 'laws.FnPromiseOfAll': WHATEVER THE INPUT: true; the input reads as it did. -/
def fnPromiseOfAllSpec : ChangeSpec := { name := "fnPromiseOfAll", vars := ["loop.example/g01342/impl.errNoFactors"], fn := fun _ => fun
  | [d1, d2, d3, d4, d5, g1] => { results := [.lit (.bool true)], args := [d1, d2, d3, d4, d5], vars := [g1] }
  | _ => none }
def fnPromiseOfAllRow : OpenClaim := { program := "ytdogkkmdccieiaadoor", sum := "df0db33a0e702c90bcdf818e5c36a2131a40026b75ead78e75eff1eb53a1e480", func := "loop.example/g01342/laws.FnPromiseOfAll", spec := "fnPromiseOfAll", unfollowed := true, recurses := true, named := ["loop.example/g01342/impl.errNoFactors"], ifaces := true, plainKeys := false, apart := false, laid := [("loop.example/g01342/impl.errNoFactors", laid_loop_example_g01342_impl_errNoFactors)] }
def FnPromiseOfAllSaid : Prop := fnPromiseOfAllRow.holds Tryd.pinned (OpenSpec.ofChange fnPromiseOfAllSpec)

/-- ITS FALSE NEIGHBOUR: 'it returns false'. Refute it at one input. -/
def fnPromiseOfAllWrong : ChangeSpec := { name := "fnPromiseOfAll", vars := ["loop.example/g01342/impl.errNoFactors"], fn := fun _ => fun
  | [d1, d2, d3, d4, d5, g1] => { results := [.lit (.bool false)], args := [d1, d2, d3, d4, d5], vars := [g1] }
  | _ => none }
def FnPromiseOfAllWrongFalsely : Prop := fnPromiseOfAllRow.holds Tryd.pinned (OpenSpec.ofChange fnPromiseOfAllWrong)

/- THE SECOND FORM. 'bulk': how many values and letters a reading holds, each counted each time it is reached (what is shared counts as often as it is met; a slice's spare places count too). A statement '..UptoSaid' is the law's where the arguments, and the package variables that the reading takes, are together of bulk at most 1048576: NARROWER than '..Said'. Prove '..Said' where nothing that the law and all that it calls make is longer than what came in: it says more and counts as full. Else prove '..UptoSaid'. A law counts once. -/
mutual
def uptoBulk {H : Type} : DataW H → Nat
  | .lit (.string bytes) => bytes.length + 1
  | .lit _ => 1
  | .nil => 1
  | .ptr d => uptoBulk d + 1
  | .slice elems spare => uptoBulkAll elems + uptoBulkAll spare + 1
  | .agg parts => uptoBulkAll parts + 1
  | .iface _ d => uptoBulk d + 1
  | .map entries => uptoBulkEntries entries + 1
  | .held _ => 1
def uptoBulkAll {H : Type} : List (DataW H) → Nat
  | [] => 0
  | d :: r => uptoBulk d + uptoBulkAll r
def uptoBulkEntries {H : Type} : List (Lit × DataW H) → Nat
  | [] => 0
  | x :: r => uptoBulkEntry x + uptoBulkEntries r
def uptoBulkEntry {H : Type} : Lit × DataW H → Nat
  | (.string bytes, d) => bytes.length + uptoBulk d + 1
  | (_, d) => uptoBulk d + 1
 end
def uptoSmall : (H : Type) → List (DataW H) → Bool := fun _ ds => decide (uptoBulkAll ds ≤ 1048576)
def OpenSpec.upto (s : _root_.Go.ChangeSpec) : _root_.Go.OpenSpec := { _root_.Go.OpenSpec.ofChange s with cond := some uptoSmall }

/-- 'laws.FnRingTables', WHERE WHAT IT READS IS OF BULK AT MOST 1048576: true; the input reads as it did. -/
def fnRingTablesUptoRow : OpenClaim := { program := "ytdogkkmdccieiaadoor", sum := "df0db33a0e702c90bcdf818e5c36a2131a40026b75ead78e75eff1eb53a1e480", func := "loop.example/g01342/laws.FnRingTables", spec := "fnRingTables", unfollowed := true, recurses := true, named := ["loop.example/g01342/impl.errNoUnit"], ifaces := true, plainKeys := false, apart := false, laid := [("loop.example/g01342/impl.errNoUnit", laid_loop_example_g01342_impl_errNoUnit)], narrowed := true }
def FnRingTablesUptoSaid : Prop := fnRingTablesUptoRow.holds Tryd.pinned (OpenSpec.upto fnRingTablesSpec)

/-- 'laws.FnPromiseOfAll', WHERE WHAT IT READS IS OF BULK AT MOST 1048576: true; the input reads as it did. -/
def fnPromiseOfAllUptoRow : OpenClaim := { program := "ytdogkkmdccieiaadoor", sum := "df0db33a0e702c90bcdf818e5c36a2131a40026b75ead78e75eff1eb53a1e480", func := "loop.example/g01342/laws.FnPromiseOfAll", spec := "fnPromiseOfAll", unfollowed := true, recurses := true, named := ["loop.example/g01342/impl.errNoFactors"], ifaces := true, plainKeys := false, apart := false, laid := [("loop.example/g01342/impl.errNoFactors", laid_loop_example_g01342_impl_errNoFactors)], narrowed := true }
def FnPromiseOfAllUptoSaid : Prop := fnPromiseOfAllUptoRow.holds Tryd.pinned (OpenSpec.upto fnPromiseOfAllSpec)

end Rows
end Go.Proofs.YtdogkkmdccieiaaDoor
