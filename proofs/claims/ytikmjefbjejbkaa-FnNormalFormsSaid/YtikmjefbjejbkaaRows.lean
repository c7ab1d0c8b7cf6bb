/-
  No cell of these rows narrows 'for every input' (looked for: loops, veiled, ifaces, maps, wideKeys, modest, calm, conditions, laid).
  DERIVED. THE GIVEN ROWS OF THIS SEAT. 8 by the template 'for every input the law returns true; each argument reads behind the call as it read before'; 0 by the template 'total and deterministic' (their statements: YtikmjefbjejbkaaTotals.lean).
  GIVEN WITH THE SEED: the statements are not yours to turn. If you find one false, say at which input.
  Laid BY PROGRAM, IN A SANDBOX (cutbox-rows.mjs): the forced cells as the released guide's own fill.sh prints them over the translation 64aa33c0faf89e0e… (all of the seat's roots in one cut). By AI agents, Wed Nov 11 2026. No macro, syntax, notation, axiom, sorry.
-/
import Derived.Test.YtikmjefbjejbkaaChecked
import GoSem.Claim
import GoSem.ClaimJoined
import GoSem.ClaimMapViews
import Derived.JoinedTies
import Derived.KernelRfl
namespace Go.Proofs.Ytikmjefbjejbkaa
/- THE CELL 'sum', in the pinned program and in every row, IS THE sha256 OF THE DUMP (.gsa) THAT YtikmjefbjejbkaaProg.lean LOADS. Nothing in Lean hashes anything: it is a label: what it is worth is what the hold of that sum in a sandbox is worth. -/
noncomputable def Try.pinned : Pinned := { name := "ytikmjefbjejbkaa", sum := "64aa33c0faf89e0e90e02075b105482bb8808c81a445fee75c7e0007af934fca", checked := Try.checked }
namespace Rows
def none {H : Type} : Left H := { results := [], args := [] }

/-- 'laws.FnExactMatricesBetween': WHATEVER THE INPUT: true; the input reads as it did. -/
def fnExactMatricesBetweenSpec : ChangeSpec := { name := "fnExactMatricesBetween", fn := fun _ => fun
  | [d1, d2] => { results := [.lit (.bool true)], args := [d1, d2] }
  | _ => none }
def fnExactMatricesBetweenRow : OpenClaim := { program := "ytikmjefbjejbkaa", sum := "64aa33c0faf89e0e90e02075b105482bb8808c81a445fee75c7e0007af934fca", func := "loop.example/g01342/laws.FnExactMatricesBetween", spec := "fnExactMatricesBetween", unfollowed := true, recurses := true, plainKeys := false, apart := false }
def FnExactMatricesBetweenSaid : Prop := fnExactMatricesBetweenRow.holds Try.pinned (OpenSpec.ofChange fnExactMatricesBetweenSpec)

/-- ITS FALSE NEIGHBOUR: 'it returns false'. Refute it at one input. -/
def fnExactMatricesBetweenWrong : ChangeSpec := { name := "fnExactMatricesBetween", fn := fun _ => fun
  | [d1, d2] => { results := [.lit (.bool false)], args := [d1, d2] }
  | _ => none }
def FnExactMatricesBetweenWrongFalsely : Prop := fnExactMatricesBetweenRow.holds Try.pinned (OpenSpec.ofChange fnExactMatricesBetweenWrong)

/-- 'laws.FnExactAutomorphismsOf': WHATEVER THE INPUT: true; the input reads as it did. -/
def fnExactAutomorphismsOfSpec : ChangeSpec := { name := "fnExactAutomorphismsOf", fn := fun _ => fun
  | [d] => { results := [.lit (.bool true)], args := [d] }
  | _ => none }
def fnExactAutomorphismsOfRow : OpenClaim := { program := "ytikmjefbjejbkaa", sum := "64aa33c0faf89e0e90e02075b105482bb8808c81a445fee75c7e0007af934fca", func := "loop.example/g01342/laws.FnExactAutomorphismsOf", spec := "fnExactAutomorphismsOf", unfollowed := true, recurses := true, plainKeys := false, apart := false }
def FnExactAutomorphismsOfSaid : Prop := fnExactAutomorphismsOfRow.holds Try.pinned (OpenSpec.ofChange fnExactAutomorphismsOfSpec)

/-- ITS FALSE NEIGHBOUR: 'it returns false'. Refute it at one input. -/
def fnExactAutomorphismsOfWrong : ChangeSpec := { name := "fnExactAutomorphismsOf", fn := fun _ => fun
  | [d] => { results := [.lit (.bool false)], args := [d] }
  | _ => none }
def FnExactAutomorphismsOfWrongFalsely : Prop := fnExactAutomorphismsOfRow.holds Try.pinned (OpenSpec.ofChange fnExactAutomorphismsOfWrong)

/-- 'laws.FnNormalForms': WHATEVER THE INPUT: true; the input reads as it did. -/
def fnNormalFormsSpec : ChangeSpec := { name := "fnNormalForms", fn := fun _ => fun
  | [d] => { results := [.lit (.bool true)], args := [d] }
  | _ => none }
def fnNormalFormsRow : OpenClaim := { program := "ytikmjefbjejbkaa", sum := "64aa33c0faf89e0e90e02075b105482bb8808c81a445fee75c7e0007af934fca", func := "loop.example/g01342/laws.FnNormalForms", spec := "fnNormalForms", unfollowed := true, recurses := true, plainKeys := false, apart := false }
def FnNormalFormsSaid : Prop := fnNormalFormsRow.holds Try.pinned (OpenSpec.ofChange fnNormalFormsSpec)

/-- ITS FALSE NEIGHBOUR: 'it returns false'. Refute it at one input. -/
def fnNormalFormsWrong : ChangeSpec := { name := "fnNormalForms", fn := fun _ => fun
  | [d] => { results := [.lit (.bool false)], args := [d] }
  | _ => none }
def FnNormalFormsWrongFalsely : Prop := fnNormalFormsRow.holds Try.pinned (OpenSpec.ofChange fnNormalFormsWrong)

/-- 'laws.FnEquivalence': WHATEVER THE INPUT: true; the input reads as it did. -/
def fnEquivalenceSpec : ChangeSpec := { name := "fnEquivalence", fn := fun _ => fun
  | [d] => { results := [.lit (.bool true)], args := [d] }
  | _ => none }
def fnEquivalenceRow : OpenClaim := { program := "ytikmjefbjejbkaa", sum := "64aa33c0faf89e0e90e02075b105482bb8808c81a445fee75c7e0007af934fca", func := "loop.example/g01342/laws.FnEquivalence", spec := "fnEquivalence", unfollowed := true, recurses := true, plainKeys := false, apart := false }
def FnEquivalenceSaid : Prop := fnEquivalenceRow.holds Try.pinned (OpenSpec.ofChange fnEquivalenceSpec)

/-- ITS FALSE NEIGHBOUR: 'it returns false'. Refute it at one input. -/
def fnEquivalenceWrong : ChangeSpec := { name := "fnEquivalence", fn := fun _ => fun
  | [d] => { results := [.lit (.bool false)], args := [d] }
  | _ => none }
def FnEquivalenceWrongFalsely : Prop := fnEquivalenceRow.holds Try.pinned (OpenSpec.ofChange fnEquivalenceWrong)

/-- 'laws.FnExactMaximalForm': WHATEVER THE INPUT: true; the input reads as it did. -/
def fnExactMaximalFormSpec : ChangeSpec := { name := "fnExactMaximalForm", fn := fun _ => fun
  | [d] => { results := [.lit (.bool true)], args := [d] }
  | _ => none }
def fnExactMaximalFormRow : OpenClaim := { program := "ytikmjefbjejbkaa", sum := "64aa33c0faf89e0e90e02075b105482bb8808c81a445fee75c7e0007af934fca", func := "loop.example/g01342/laws.FnExactMaximalForm", spec := "fnExactMaximalForm", unfollowed := true, recurses := true, plainKeys := false, apart := false }
def FnExactMaximalFormSaid : Prop := fnExactMaximalFormRow.holds Try.pinned (OpenSpec.ofChange fnExactMaximalFormSpec)

/-- ITS FALSE NEIGHBOUR: 'it returns false'. Refute it at one input. -/
def fnExactMaximalFormWrong : ChangeSpec := { name := "fnExactMaximalForm", fn := fun _ => fun
  | [d] => { results := [.lit (.bool false)], args := [d] }
  | _ => none }
def FnExactMaximalFormWrongFalsely : Prop := fnExactMaximalFormRow.holds Try.pinned (OpenSpec.ofChange fnExactMaximalFormWrong)

/-- 'laws.FnExactIndexInMaximal': WHATEVER THE INPUT: true; the input reads as it did. -/
def fnExactIndexInMaximalSpec : ChangeSpec := { name := "fnExactIndexInMaximal", fn := fun _ => fun
  | [d] => { results := [.lit (.bool true)], args := [d] }
  | _ => none }
def fnExactIndexInMaximalRow : OpenClaim := { program := "ytikmjefbjejbkaa", sum := "64aa33c0faf89e0e90e02075b105482bb8808c81a445fee75c7e0007af934fca", func := "loop.example/g01342/laws.FnExactIndexInMaximal", spec := "fnExactIndexInMaximal", unfollowed := true, recurses := true, plainKeys := false, apart := false }
def FnExactIndexInMaximalSaid : Prop := fnExactIndexInMaximalRow.holds Try.pinned (OpenSpec.ofChange fnExactIndexInMaximalSpec)

/-- ITS FALSE NEIGHBOUR: 'it returns false'. Refute it at one input. -/
def fnExactIndexInMaximalWrong : ChangeSpec := { name := "fnExactIndexInMaximal", fn := fun _ => fun
  | [d] => { results := [.lit (.bool false)], args := [d] }
  | _ => none }
def FnExactIndexInMaximalWrongFalsely : Prop := fnExactIndexInMaximalRow.holds Try.pinned (OpenSpec.ofChange fnExactIndexInMaximalWrong)

/-- 'laws.FnExactIsMaximal': WHATEVER THE INPUT: true; the input reads as it did. -/
def fnExactIsMaximalSpec : ChangeSpec := { name := "fnExactIsMaximal", fn := fun _ => fun
  | [d] => { results := [.lit (.bool true)], args := [d] }
  | _ => none }
def fnExactIsMaximalRow : OpenClaim := { program := "ytikmjefbjejbkaa", sum := "64aa33c0faf89e0e90e02075b105482bb8808c81a445fee75c7e0007af934fca", func := "loop.example/g01342/laws.FnExactIsMaximal", spec := "fnExactIsMaximal", unfollowed := true, recurses := true, plainKeys := false, apart := false }
def FnExactIsMaximalSaid : Prop := fnExactIsMaximalRow.holds Try.pinned (OpenSpec.ofChange fnExactIsMaximalSpec)

/-- ITS FALSE NEIGHBOUR: 'it returns false'. Refute it at one input. -/
def fnExactIsMaximalWrong : ChangeSpec := { name := "fnExactIsMaximal", fn := fun _ => fun
  | [d] => { results := [.lit (.bool false)], args := [d] }
  | _ => none }
def FnExactIsMaximalWrongFalsely : Prop := fnExactIsMaximalRow.holds Try.pinned (OpenSpec.ofChange fnExactIsMaximalWrong)

/-- 'laws.FnMaximalForms': WHATEVER THE INPUT: true; the input reads as it did. -/
def fnMaximalFormsSpec : ChangeSpec := { name := "fnMaximalForms", fn := fun _ => fun
  | [d] => { results := [.lit (.bool true)], args := [d] }
  | _ => none }
def fnMaximalFormsRow : OpenClaim := { program := "ytikmjefbjejbkaa", sum := "64aa33c0faf89e0e90e02075b105482bb8808c81a445fee75c7e0007af934fca", func := "loop.example/g01342/laws.FnMaximalForms", spec := "fnMaximalForms", unfollowed := true, recurses := true, plainKeys := false, apart := false }
def FnMaximalFormsSaid : Prop := fnMaximalFormsRow.holds Try.pinned (OpenSpec.ofChange fnMaximalFormsSpec)

/-- ITS FALSE NEIGHBOUR: 'it returns false'. Refute it at one input. -/
def fnMaximalFormsWrong : ChangeSpec := { name := "fnMaximalForms", fn := fun _ => fun
  | [d] => { results := [.lit (.bool false)], args := [d] }
  | _ => none }
def FnMaximalFormsWrongFalsely : Prop := fnMaximalFormsRow.holds Try.pinned (OpenSpec.ofChange fnMaximalFormsWrong)

/- THE SECOND FORM. 'bulk': how many values and letters a reading holds, each counted each time it is reached (what is shared counts as often as it is met; a slice's spare places count too). A statement '..UptoSaid' is the law's where the arguments, and the package variables that the reading takes, are together of bulk at most 1048576: NARROWER than '..Said'. Prove '..Said' where nothing that the law and all that it calls make is longer than what came in: it says more and counts as full. Else prove '..UptoSaid'. A law counts once. -/
mutual
def uptoBulk {H : Type} : DataW H → Nat
  | .lit (.string bytes) => bytes.length + 1
  | .lit _ => 1
  | .nil => 1
  | .ptr d => uptoBulk d + 1
  | .slice elems spare => uptoBulkAll elems + uptoBulkAll spare + 1
  | .agg parts => uptoBulkAll parts + 1
  | .iface _ d => uptoBulk d + 1
  | .map entries => uptoBulkEntries entries + 1
  | .held _ => 1
def uptoBulkAll {H : Type} : List (DataW H) → Nat
  | [] => 0
  | d :: r => uptoBulk d + uptoBulkAll r
def uptoBulkEntries {H : Type} : List (Lit × DataW H) → Nat
  | [] => 0
  | x :: r => uptoBulkEntry x + uptoBulkEntries r
def uptoBulkEntry {H : Type} : Lit × DataW H → Nat
  | (.string bytes, d) => bytes.length + uptoBulk d + 1
  | (_, d) => uptoBulk d + 1
 end
def uptoSmall : (H : Type) → List (DataW H) → Bool := fun _ ds => decide (uptoBulkAll ds ≤ 1048576)
def OpenSpec.upto (s : _root_.Go.ChangeSpec) : _root_.Go.OpenSpec := { _root_.Go.OpenSpec.ofChange s with cond := some uptoSmall }

/-- 'laws.FnExactMatricesBetween', WHERE WHAT IT READS IS OF BULK AT MOST 1048576: true; the input reads as it did. -/
def fnExactMatricesBetweenUptoRow : OpenClaim := { program := "ytikmjefbjejbkaa", sum := "64aa33c0faf89e0e90e02075b105482bb8808c81a445fee75c7e0007af934fca", func := "loop.example/g01342/laws.FnExactMatricesBetween", spec := "fnExactMatricesBetween", unfollowed := true, recurses := true, plainKeys := false, apart := false, narrowed := true }
def FnExactMatricesBetweenUptoSaid : Prop := fnExactMatricesBetweenUptoRow.holds Try.pinned (OpenSpec.upto fnExactMatricesBetweenSpec)

/-- 'laws.FnExactAutomorphismsOf', WHERE WHAT IT READS IS OF BULK AT MOST 1048576: true; the input reads as it did. -/
def fnExactAutomorphismsOfUptoRow : OpenClaim := { program := "ytikmjefbjejbkaa", sum := "64aa33c0faf89e0e90e02075b105482bb8808c81a445fee75c7e0007af934fca", func := "loop.example/g01342/laws.FnExactAutomorphismsOf", spec := "fnExactAutomorphismsOf", unfollowed := true, recurses := true, plainKeys := false, apart := false, narrowed := true }
def FnExactAutomorphismsOfUptoSaid : Prop := fnExactAutomorphismsOfUptoRow.holds Try.pinned (OpenSpec.upto fnExactAutomorphismsOfSpec)

/-- 'laws.FnNormalForms', WHERE WHAT IT READS IS OF BULK AT MOST 1048576: true; the input reads as it did. -/
def fnNormalFormsUptoRow : OpenClaim := { program := "ytikmjefbjejbkaa", sum := "64aa33c0faf89e0e90e02075b105482bb8808c81a445fee75c7e0007af934fca", func := "loop.example/g01342/laws.FnNormalForms", spec := "fnNormalForms", unfollowed := true, recurses := true, plainKeys := false, apart := false, narrowed := true }
def FnNormalFormsUptoSaid : Prop := fnNormalFormsUptoRow.holds Try.pinned (OpenSpec.upto fnNormalFormsSpec)

/-- 'laws.FnEquivalence', WHERE WHAT IT READS IS OF BULK AT MOST 1048576: true; the input reads as it did. -/
def fnEquivalenceUptoRow : OpenClaim := { program := "ytikmjefbjejbkaa", sum := "64aa33c0faf89e0e90e02075b105482bb8808c81a445fee75c7e0007af934fca", func := "loop.example/g01342/laws.FnEquivalence", spec := "fnEquivalence", unfollowed := true, recurses := true, plainKeys := false, apart := false, narrowed := true }
def FnEquivalenceUptoSaid : Prop := fnEquivalenceUptoRow.holds Try.pinned (OpenSpec.upto fnEquivalenceSpec)

/-- 'laws.FnExactMaximalForm', WHERE WHAT IT READS IS OF BULK AT MOST 1048576: true; the input reads as it did. -/
def fnExactMaximalFormUptoRow : OpenClaim := { program := "ytikmjefbjejbkaa", sum := "64aa33c0faf89e0e90e02075b105482bb8808c81a445fee75c7e0007af934fca", func := "loop.example/g01342/laws.FnExactMaximalForm", spec := "fnExactMaximalForm", unfollowed := true, recurses := true, plainKeys := false, apart := false, narrowed := true }
def FnExactMaximalFormUptoSaid : Prop := fnExactMaximalFormUptoRow.holds Try.pinned (OpenSpec.upto fnExactMaximalFormSpec)

/-- 'laws.FnExactIndexInMaximal', WHERE WHAT IT READS IS OF BULK AT MOST 1048576: true; the input reads as it did. -/
def fnExactIndexInMaximalUptoRow : OpenClaim := { program := "ytikmjefbjejbkaa", sum := "64aa33c0faf89e0e90e02075b105482bb8808c81a445fee75c7e0007af934fca", func := "loop.example/g01342/laws.FnExactIndexInMaximal", spec := "fnExactIndexInMaximal", unfollowed := true, recurses := true, plainKeys := false, apart := false, narrowed := true }
def FnExactIndexInMaximalUptoSaid : Prop := fnExactIndexInMaximalUptoRow.holds Try.pinned (OpenSpec.upto fnExactIndexInMaximalSpec)

/-- 'laws.FnExactIsMaximal', WHERE WHAT IT READS IS OF BULK AT MOST 1048576: true; the input reads as it did. -/
def fnExactIsMaximalUptoRow : OpenClaim := { program := "ytikmjefbjejbkaa", sum := "64aa33c0faf89e0e90e02075b105482bb8808c81a445fee75c7e0007af934fca", func := "loop.example/g01342/laws.FnExactIsMaximal", spec := "fnExactIsMaximal", unfollowed := true, recurses := true, plainKeys := false, apart := false, narrowed := true }
def FnExactIsMaximalUptoSaid : Prop := fnExactIsMaximalUptoRow.holds Try.pinned (OpenSpec.upto fnExactIsMaximalSpec)

/-- 'laws.FnMaximalForms', WHERE WHAT IT READS IS OF BULK AT MOST 1048576: true; the input reads as it did. -/
def fnMaximalFormsUptoRow : OpenClaim := { program := "ytikmjefbjejbkaa", sum := "64aa33c0faf89e0e90e02075b105482bb8808c81a445fee75c7e0007af934fca", func := "loop.example/g01342/laws.FnMaximalForms", spec := "fnMaximalForms", unfollowed := true, recurses := true, plainKeys := false, apart := false, narrowed := true }
def FnMaximalFormsUptoSaid : Prop := fnMaximalFormsUptoRow.holds Try.pinned (OpenSpec.upto fnMaximalFormsSpec)

end Rows
end Go.Proofs.Ytikmjefbjejbkaa
