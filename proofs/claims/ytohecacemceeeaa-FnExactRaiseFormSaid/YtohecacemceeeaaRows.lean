/-
  No cell of these rows narrows 'for every input' (looked for: loops, veiled, ifaces, maps, wideKeys, modest, calm, conditions, laid).
  DERIVED. THE GIVEN ROWS OF THIS SEAT. 8 by the template 'for every input the law returns true; each argument reads behind the call as it read before'; 0 by the template 'total and deterministic' (their statements: YtohecacemceeeaaTotals.lean).
  GIVEN WITH THE SEED: the statements are not yours to turn. If you find one false, say at which input.
  Laid BY PROGRAM, IN A SANDBOX (cutbox-rows.mjs): the forced cells as the released guide's own fill.sh prints them over the translation f08cb2d56f851819… (all of the seat's roots in one cut). By AI agents, Wed Nov 11 2026. No macro, syntax, notation, axiom, sorry.
-/
import Derived.Test.YtohecacemceeeaaChecked
import GoSem.Claim
import GoSem.ClaimJoined
import GoSem.ClaimMapViews
import Derived.JoinedTies
import Derived.KernelRfl
namespace Go.Proofs.Ytohecacemceeeaa
/- THE CELL 'sum', in the pinned program and in every row, IS THE sha256 OF THE DUMP (.gsa) THAT YtohecacemceeeaaProg.lean LOADS. Nothing in Lean hashes anything: it is a label: what it is worth is what the hold of that sum in a sandbox is worth. -/
noncomputable def Try.pinned : Pinned := { name := "ytohecacemceeeaa", sum := "f08cb2d56f851819673ff5aa3a62a26133a2d3620c76b319333a59e46cfddab7", checked := Try.checked }
namespace Rows
def none {H : Type} : Left H := { results := [], args := [] }

/-- 'laws.FnExactPrimitivePart': WHATEVER THE INPUT: true; the input reads as it did. -/
def fnExactPrimitivePartSpec : ChangeSpec := { name := "fnExactPrimitivePart", fn := fun _ => fun
  | [d] => { results := [.lit (.bool true)], args := [d] }
  | _ => none }
def fnExactPrimitivePartRow : OpenClaim := { program := "ytohecacemceeeaa", sum := "f08cb2d56f851819673ff5aa3a62a26133a2d3620c76b319333a59e46cfddab7", func := "loop.example/g01342/laws.FnExactPrimitivePart", spec := "fnExactPrimitivePart", plainKeys := false, apart := false }
def FnExactPrimitivePartSaid : Prop := fnExactPrimitivePartRow.holds Try.pinned (OpenSpec.ofChange fnExactPrimitivePartSpec)

/-- ITS FALSE NEIGHBOUR: 'it returns false'. Refute it at one input. -/
def fnExactPrimitivePartWrong : ChangeSpec := { name := "fnExactPrimitivePart", fn := fun _ => fun
  | [d] => { results := [.lit (.bool false)], args := [d] }
  | _ => none }
def FnExactPrimitivePartWrongFalsely : Prop := fnExactPrimitivePartRow.holds Try.pinned (OpenSpec.ofChange fnExactPrimitivePartWrong)

/-- 'laws.FnExactIsReduced': WHATEVER THE INPUT: true; the input reads as it did. -/
def fnExactIsReducedSpec : ChangeSpec := { name := "fnExactIsReduced", fn := fun _ => fun
  | [d] => { results := [.lit (.bool true)], args := [d] }
  | _ => none }
def fnExactIsReducedRow : OpenClaim := { program := "ytohecacemceeeaa", sum := "f08cb2d56f851819673ff5aa3a62a26133a2d3620c76b319333a59e46cfddab7", func := "loop.example/g01342/laws.FnExactIsReduced", spec := "fnExactIsReduced", plainKeys := false, apart := false }
def FnExactIsReducedSaid : Prop := fnExactIsReducedRow.holds Try.pinned (OpenSpec.ofChange fnExactIsReducedSpec)

/-- ITS FALSE NEIGHBOUR: 'it returns false'. Refute it at one input. -/
def fnExactIsReducedWrong : ChangeSpec := { name := "fnExactIsReduced", fn := fun _ => fun
  | [d] => { results := [.lit (.bool false)], args := [d] }
  | _ => none }
def FnExactIsReducedWrongFalsely : Prop := fnExactIsReducedRow.holds Try.pinned (OpenSpec.ofChange fnExactIsReducedWrong)

/-- 'laws.FnExactPointsToRaise': WHATEVER THE INPUT: true; the input reads as it did. -/
def fnExactPointsToRaiseSpec : ChangeSpec := { name := "fnExactPointsToRaise", fn := fun _ => fun
  | [d1, d2] => { results := [.lit (.bool true)], args := [d1, d2] }
  | _ => none }
def fnExactPointsToRaiseRow : OpenClaim := { program := "ytohecacemceeeaa", sum := "f08cb2d56f851819673ff5aa3a62a26133a2d3620c76b319333a59e46cfddab7", func := "loop.example/g01342/laws.FnExactPointsToRaise", spec := "fnExactPointsToRaise", unfollowed := true, recurses := true, plainKeys := false, apart := false }
def FnExactPointsToRaiseSaid : Prop := fnExactPointsToRaiseRow.holds Try.pinned (OpenSpec.ofChange fnExactPointsToRaiseSpec)

/-- ITS FALSE NEIGHBOUR: 'it returns false'. Refute it at one input. -/
def fnExactPointsToRaiseWrong : ChangeSpec := { name := "fnExactPointsToRaise", fn := fun _ => fun
  | [d1, d2] => { results := [.lit (.bool false)], args := [d1, d2] }
  | _ => none }
def FnExactPointsToRaiseWrongFalsely : Prop := fnExactPointsToRaiseRow.holds Try.pinned (OpenSpec.ofChange fnExactPointsToRaiseWrong)

/-- 'laws.FnExactRaiseForm': WHATEVER THE INPUT: true; the input reads as it did. -/
def fnExactRaiseFormSpec : ChangeSpec := { name := "fnExactRaiseForm", fn := fun _ => fun
  | [d1, d2, d3] => { results := [.lit (.bool true)], args := [d1, d2, d3] }
  | _ => none }
def fnExactRaiseFormRow : OpenClaim := { program := "ytohecacemceeeaa", sum := "f08cb2d56f851819673ff5aa3a62a26133a2d3620c76b319333a59e46cfddab7", func := "loop.example/g01342/laws.FnExactRaiseForm", spec := "fnExactRaiseForm", unfollowed := true, recurses := true, plainKeys := false, apart := false }
def FnExactRaiseFormSaid : Prop := fnExactRaiseFormRow.holds Try.pinned (OpenSpec.ofChange fnExactRaiseFormSpec)

/-- ITS FALSE NEIGHBOUR: 'it returns false'. Refute it at one input. -/
def fnExactRaiseFormWrong : ChangeSpec := { name := "fnExactRaiseForm", fn := fun _ => fun
  | [d1, d2, d3] => { results := [.lit (.bool false)], args := [d1, d2, d3] }
  | _ => none }
def FnExactRaiseFormWrongFalsely : Prop := fnExactRaiseFormRow.holds Try.pinned (OpenSpec.ofChange fnExactRaiseFormWrong)

/-- 'laws.FnExactDivideForm': WHATEVER THE INPUT: true; the input reads as it did. -/
def fnExactDivideFormSpec : ChangeSpec := { name := "fnExactDivideForm", fn := fun _ => fun
  | [d1, d2] => { results := [.lit (.bool true)], args := [d1, d2] }
  | _ => none }
def fnExactDivideFormRow : OpenClaim := { program := "ytohecacemceeeaa", sum := "f08cb2d56f851819673ff5aa3a62a26133a2d3620c76b319333a59e46cfddab7", func := "loop.example/g01342/laws.FnExactDivideForm", spec := "fnExactDivideForm", plainKeys := false, apart := false }
def FnExactDivideFormSaid : Prop := fnExactDivideFormRow.holds Try.pinned (OpenSpec.ofChange fnExactDivideFormSpec)

/-- ITS FALSE NEIGHBOUR: 'it returns false'. Refute it at one input. -/
def fnExactDivideFormWrong : ChangeSpec := { name := "fnExactDivideForm", fn := fun _ => fun
  | [d1, d2] => { results := [.lit (.bool false)], args := [d1, d2] }
  | _ => none }
def FnExactDivideFormWrongFalsely : Prop := fnExactDivideFormRow.holds Try.pinned (OpenSpec.ofChange fnExactDivideFormWrong)

/-- 'laws.FnExactLowerForm': WHATEVER THE INPUT: true; the input reads as it did. -/
def fnExactLowerFormSpec : ChangeSpec := { name := "fnExactLowerForm", fn := fun _ => fun
  | [d1, d2, d3] => { results := [.lit (.bool true)], args := [d1, d2, d3] }
  | _ => none }
def fnExactLowerFormRow : OpenClaim := { program := "ytohecacemceeeaa", sum := "f08cb2d56f851819673ff5aa3a62a26133a2d3620c76b319333a59e46cfddab7", func := "loop.example/g01342/laws.FnExactLowerForm", spec := "fnExactLowerForm", unfollowed := true, recurses := true, plainKeys := false, apart := false }
def FnExactLowerFormSaid : Prop := fnExactLowerFormRow.holds Try.pinned (OpenSpec.ofChange fnExactLowerFormSpec)

/-- ITS FALSE NEIGHBOUR: 'it returns false'. Refute it at one input. -/
def fnExactLowerFormWrong : ChangeSpec := { name := "fnExactLowerForm", fn := fun _ => fun
  | [d1, d2, d3] => { results := [.lit (.bool false)], args := [d1, d2, d3] }
  | _ => none }
def FnExactLowerFormWrongFalsely : Prop := fnExactLowerFormRow.holds Try.pinned (OpenSpec.ofChange fnExactLowerFormWrong)

/-- 'laws.FnExactIsMaximalAt': WHATEVER THE INPUT: true; the input reads as it did. -/
def fnExactIsMaximalAtSpec : ChangeSpec := { name := "fnExactIsMaximalAt", fn := fun _ => fun
  | [d1, d2] => { results := [.lit (.bool true)], args := [d1, d2] }
  | _ => none }
def fnExactIsMaximalAtRow : OpenClaim := { program := "ytohecacemceeeaa", sum := "f08cb2d56f851819673ff5aa3a62a26133a2d3620c76b319333a59e46cfddab7", func := "loop.example/g01342/laws.FnExactIsMaximalAt", spec := "fnExactIsMaximalAt", unfollowed := true, recurses := true, plainKeys := false, apart := false }
def FnExactIsMaximalAtSaid : Prop := fnExactIsMaximalAtRow.holds Try.pinned (OpenSpec.ofChange fnExactIsMaximalAtSpec)

/-- ITS FALSE NEIGHBOUR: 'it returns false'. Refute it at one input. -/
def fnExactIsMaximalAtWrong : ChangeSpec := { name := "fnExactIsMaximalAt", fn := fun _ => fun
  | [d1, d2] => { results := [.lit (.bool false)], args := [d1, d2] }
  | _ => none }
def FnExactIsMaximalAtWrongFalsely : Prop := fnExactIsMaximalAtRow.holds Try.pinned (OpenSpec.ofChange fnExactIsMaximalAtWrong)

/-- 'laws.FnExactFormsBelow': WHATEVER THE INPUT: true; the input reads as it did. -/
def fnExactFormsBelowSpec : ChangeSpec := { name := "fnExactFormsBelow", fn := fun _ => fun
  | [d1, d2] => { results := [.lit (.bool true)], args := [d1, d2] }
  | _ => none }
def fnExactFormsBelowRow : OpenClaim := { program := "ytohecacemceeeaa", sum := "f08cb2d56f851819673ff5aa3a62a26133a2d3620c76b319333a59e46cfddab7", func := "loop.example/g01342/laws.FnExactFormsBelow", spec := "fnExactFormsBelow", unfollowed := true, recurses := true, plainKeys := false, apart := false }
def FnExactFormsBelowSaid : Prop := fnExactFormsBelowRow.holds Try.pinned (OpenSpec.ofChange fnExactFormsBelowSpec)

/-- ITS FALSE NEIGHBOUR: 'it returns false'. Refute it at one input. -/
def fnExactFormsBelowWrong : ChangeSpec := { name := "fnExactFormsBelow", fn := fun _ => fun
  | [d1, d2] => { results := [.lit (.bool false)], args := [d1, d2] }
  | _ => none }
def FnExactFormsBelowWrongFalsely : Prop := fnExactFormsBelowRow.holds Try.pinned (OpenSpec.ofChange fnExactFormsBelowWrong)

/- THE SECOND FORM. 'bulk': how many values and letters a reading holds, each counted each time it is reached (what is shared counts as often as it is met; a slice's spare places count too). A statement '..UptoSaid' is the law's where the arguments, and the package variables that the reading takes, are together of bulk at most 1048576: NARROWER than '..Said'. Prove '..Said' where nothing that the law and all that it calls make is longer than what came in: it says more and counts as full. Else prove '..UptoSaid'. A law counts once. -/
mutual
def uptoBulk {H : Type} : DataW H → Nat
  | .lit (.string bytes) => bytes.length + 1
  | .lit _ => 1
  | .nil => 1
  | .ptr d => uptoBulk d + 1
  | .slice elems spare => uptoBulkAll elems + uptoBulkAll spare + 1
  | .agg parts => uptoBulkAll parts + 1
  | .iface _ d => uptoBulk d + 1
  | .map entries => uptoBulkEntries entries + 1
  | .held _ => 1
def uptoBulkAll {H : Type} : List (DataW H) → Nat
  | [] => 0
  | d :: r => uptoBulk d + uptoBulkAll r
def uptoBulkEntries {H : Type} : List (Lit × DataW H) → Nat
  | [] => 0
  | x :: r => uptoBulkEntry x + uptoBulkEntries r
def uptoBulkEntry {H : Type} : Lit × DataW H → Nat
  | (.string bytes, d) => bytes.length + uptoBulk d + 1
  | (_, d) => uptoBulk d + 1
 end
def uptoSmall : (H : Type) → List (DataW H) → Bool := fun _ ds => decide (uptoBulkAll ds ≤ 1048576)
def OpenSpec.upto (s : _root_.Go.ChangeSpec) : _root_.Go.OpenSpec := { _root_.Go.OpenSpec.ofChange s with cond := some uptoSmall }

/-- 'laws.FnExactPrimitivePart', WHERE WHAT IT READS IS OF BULK AT MOST 1048576: true; the input reads as it did. -/
def fnExactPrimitivePartUptoRow : OpenClaim := { program := "ytohecacemceeeaa", sum := "f08cb2d56f851819673ff5aa3a62a26133a2d3620c76b319333a59e46cfddab7", func := "loop.example/g01342/laws.FnExactPrimitivePart", spec := "fnExactPrimitivePart", plainKeys := false, apart := false, narrowed := true }
def FnExactPrimitivePartUptoSaid : Prop := fnExactPrimitivePartUptoRow.holds Try.pinned (OpenSpec.upto fnExactPrimitivePartSpec)

/-- 'laws.FnExactIsReduced', WHERE WHAT IT READS IS OF BULK AT MOST 1048576: true; the input reads as it did. -/
def fnExactIsReducedUptoRow : OpenClaim := { program := "ytohecacemceeeaa", sum := "f08cb2d56f851819673ff5aa3a62a26133a2d3620c76b319333a59e46cfddab7", func := "loop.example/g01342/laws.FnExactIsReduced", spec := "fnExactIsReduced", plainKeys := false, apart := false, narrowed := true }
def FnExactIsReducedUptoSaid : Prop := fnExactIsReducedUptoRow.holds Try.pinned (OpenSpec.upto fnExactIsReducedSpec)

/-- 'laws.FnExactPointsToRaise', WHERE WHAT IT READS IS OF BULK AT MOST 1048576: true; the input reads as it did. -/
def fnExactPointsToRaiseUptoRow : OpenClaim := { program := "ytohecacemceeeaa", sum := "f08cb2d56f851819673ff5aa3a62a26133a2d3620c76b319333a59e46cfddab7", func := "loop.example/g01342/laws.FnExactPointsToRaise", spec := "fnExactPointsToRaise", unfollowed := true, recurses := true, plainKeys := false, apart := false, narrowed := true }
def FnExactPointsToRaiseUptoSaid : Prop := fnExactPointsToRaiseUptoRow.holds Try.pinned (OpenSpec.upto fnExactPointsToRaiseSpec)

/-- 'laws.FnExactRaiseForm', WHERE WHAT IT READS IS OF BULK AT MOST 1048576: true; the input reads as it did. -/
def fnExactRaiseFormUptoRow : OpenClaim := { program := "ytohecacemceeeaa", sum := "f08cb2d56f851819673ff5aa3a62a26133a2d3620c76b319333a59e46cfddab7", func := "loop.example/g01342/laws.FnExactRaiseForm", spec := "fnExactRaiseForm", unfollowed := true, recurses := true, plainKeys := false, apart := false, narrowed := true }
def FnExactRaiseFormUptoSaid : Prop := fnExactRaiseFormUptoRow.holds Try.pinned (OpenSpec.upto fnExactRaiseFormSpec)

/-- 'laws.FnExactDivideForm', WHERE WHAT IT READS IS OF BULK AT MOST 1048576: true; the input reads as it did. -/
def fnExactDivideFormUptoRow : OpenClaim := { program := "ytohecacemceeeaa", sum := "f08cb2d56f851819673ff5aa3a62a26133a2d3620c76b319333a59e46cfddab7", func := "loop.example/g01342/laws.FnExactDivideForm", spec := "fnExactDivideForm", plainKeys := false, apart := false, narrowed := true }
def FnExactDivideFormUptoSaid : Prop := fnExactDivideFormUptoRow.holds Try.pinned (OpenSpec.upto fnExactDivideFormSpec)

/-- 'laws.FnExactLowerForm', WHERE WHAT IT READS IS OF BULK AT MOST 1048576: true; the input reads as it did. -/
def fnExactLowerFormUptoRow : OpenClaim := { program := "ytohecacemceeeaa", sum := "f08cb2d56f851819673ff5aa3a62a26133a2d3620c76b319333a59e46cfddab7", func := "loop.example/g01342/laws.FnExactLowerForm", spec := "fnExactLowerForm", unfollowed := true, recurses := true, plainKeys := false, apart := false, narrowed := true }
def FnExactLowerFormUptoSaid : Prop := fnExactLowerFormUptoRow.holds Try.pinned (OpenSpec.upto fnExactLowerFormSpec)

/-- 'laws.FnExactIsMaximalAt', WHERE WHAT IT READS IS OF BULK AT MOST 1048576: true; the input reads as it did. -/
def fnExactIsMaximalAtUptoRow : OpenClaim := { program := "ytohecacemceeeaa", sum := "f08cb2d56f851819673ff5aa3a62a26133a2d3620c76b319333a59e46cfddab7", func := "loop.example/g01342/laws.FnExactIsMaximalAt", spec := "fnExactIsMaximalAt", unfollowed := true, recurses := true, plainKeys := false, apart := false, narrowed := true }
def FnExactIsMaximalAtUptoSaid : Prop := fnExactIsMaximalAtUptoRow.holds Try.pinned (OpenSpec.upto fnExactIsMaximalAtSpec)

/-- 'laws.FnExactFormsBelow', WHERE WHAT IT READS IS OF BULK AT MOST 1048576: true; the input reads as it did. -/
def fnExactFormsBelowUptoRow : OpenClaim := { program := "ytohecacemceeeaa", sum := "f08cb2d56f851819673ff5aa3a62a26133a2d3620c76b319333a59e46cfddab7", func := "loop.example/g01342/laws.FnExactFormsBelow", spec := "fnExactFormsBelow", unfollowed := true, recurses := true, plainKeys := false, apart := false, narrowed := true }
def FnExactFormsBelowUptoSaid : Prop := fnExactFormsBelowUptoRow.holds Try.pinned (OpenSpec.upto fnExactFormsBelowSpec)

end Rows
end Go.Proofs.Ytohecacemceeeaa
