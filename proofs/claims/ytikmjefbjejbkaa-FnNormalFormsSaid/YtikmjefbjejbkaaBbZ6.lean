/- Several texts in one: XC1q, XEq, XMapK. -/
import Derived.Test.YtikmjefbjejbkaaBbZ5
import Derived.Test.YtikmjefbjejbkaaBbZ1

/- Chapter 1: inverse matrices of the model, whole. -/
namespace Go.Proofs.Ytikmjefbjejbkaa
open Go.RowKit



end Go.Proofs.Ytikmjefbjejbkaa

/- '==' between two arrays of four numbers. -/
namespace Go.Proofs.Ytikmjefbjejbkaa
open Go.RowKit

theorem eqForm_run (a b c d p q r s : Int) (w : World) : (Op.equalIn 10000 26 (.agg #[.int .i64 a, .int .i64 b, .int .i64 c, .int .i64 d]) (.agg #[.int .i64 p, .int .i64 q, .int .i64 r, .int .i64 s])).run Try.prog w = .ok (a == p && b == q && c == r && d == s) w := by
  have u := Try.underlying2
  have ia := Try.isAgg2
  have z := Try.sizeOf2
  rw [show (10000 : Nat) = 9999 + 1 from rfl, Op.equalIn]
  simp only [Sem.run_bind, run_underlying Try.underlying26, Result.andThen_ok]
  simp only [Std.Legacy.Range.forIn_eq_forIn_range', Std.Legacy.Range.size, Nat.sub_zero, Nat.add_sub_cancel, Nat.div_one, List.range'_succ, List.range'_zero, List.forIn_cons, List.forIn_nil]
  go_simp
  by_cases h1 : a = p <;> by_cases h2 : b = q <;> by_cases h3 : c = r <;> by_cases h4 : d = s <;> simp [h1, h2, h3, h4]

theorem eqMatrix_run (a b c d p q r s : Int) (w : World) : (Op.equalIn 10000 44 (.agg #[.int .i64 a, .int .i64 b, .int .i64 c, .int .i64 d]) (.agg #[.int .i64 p, .int .i64 q, .int .i64 r, .int .i64 s])).run Try.prog w = .ok (a == p && b == q && c == r && d == s) w := by
  have u := Try.underlying2
  have ia := Try.isAgg2
  have z := Try.sizeOf2
  rw [show (10000 : Nat) = 9999 + 1 from rfl, Op.equalIn]
  simp only [Sem.run_bind, run_underlying Try.underlying44, Result.andThen_ok]
  simp only [Std.Legacy.Range.forIn_eq_forIn_range', Std.Legacy.Range.size, Nat.sub_zero, Nat.add_sub_cancel, Nat.div_one, List.range'_succ, List.range'_zero, List.forIn_cons, List.forIn_nil]
  go_simp
  by_cases h1 : a = p <;> by_cases h2 : b = q <;> by_cases h3 : c = r <;> by_cases h4 : d = s <;> simp [h1, h2, h3, h4]

end Go.Proofs.Ytikmjefbjejbkaa

/- Maps whose keys are arrays of four numbers: what a store and a look-up come to, entry by entry. -/
namespace Go.Proofs.Ytikmjefbjejbkaa
open Go.RowKit

theorem checkInt_run (e : Bool) (n : Nat) (x : Int) (w : World) : (Instr.checkKey e (n + 1) 2 (.int .i64 x)).run Try.prog w = .ok () w := by
  unfold Instr.checkKey
  simp only [Sem.run_bind, run_underlying Try.underlying2, Result.andThen_ok]
  rfl

theorem checkMatrix_run (e : Bool) (a b c d : Int) (w : World) : (Instr.checkKey e 10000 44 (.agg #[.int .i64 a, .int .i64 b, .int .i64 c, .int .i64 d])).run Try.prog w = .ok () w := by
  have ia := Try.isAgg2
  have z := Try.sizeOf2
  have ck := fun x w => checkInt_run e 9998 x w
  rw [show (10000 : Nat) = 9999 + 1 from rfl, Instr.checkKey]
  simp only [Sem.run_bind, run_underlying Try.underlying44, Result.andThen_ok]
  simp only [Std.Legacy.Range.forIn_eq_forIn_range', Std.Legacy.Range.size, Nat.sub_zero, Nat.add_sub_cancel, Nat.div_one, List.range'_succ, List.range'_zero, List.forIn_cons, List.forIn_nil]
  go_simp

/-- An entry whose key is an array of four numbers. -/
def ent (a b c d v : Int) (t : Nat) : MapEntry := { key := .agg #[.int .i64 a, .int .i64 b, .int .i64 c, .int .i64 d], val := .int .i64 v, born := t }

theorem find0 (k : Value) (w : World) : (Instr.findKey 44 k []).run Try.prog w = .ok none w := by
  unfold Instr.findKey
  simp only [Sem.run_bind, run_underlying Try.underlying44, Result.andThen_ok]
  rfl
theorem find1 (p q r s a b c d v : Int) (t : Nat) (w : World) : (Instr.findKey 44 (.agg #[.int .i64 p, .int .i64 q, .int .i64 r, .int .i64 s]) [ent a b c d v t]).run Try.prog w = .ok (if (p == a && q == b && r == c && s == d) = true then some (0, .int .i64 v) else none) w := by
  unfold Instr.findKey
  simp only [Sem.run_bind, run_underlying Try.underlying44, Result.andThen_ok, Instr.findNow, Instr.sameNow]
  simp only [Instr.findAsking, Op.equal, Op.maxDepth, ent, Sem.run_bind, eqMatrix_run, Result.andThen_ok]
  by_cases h : (p == a && q == b && r == c && s == d) = true
  · simp [h]
  · simp only [h]; simp
theorem find2 (p q r s a b c d v a' b' c' d' v' : Int) (t t' : Nat) (w : World) : (Instr.findKey 44 (.agg #[.int .i64 p, .int .i64 q, .int .i64 r, .int .i64 s]) [ent a b c d v t, ent a' b' c' d' v' t']).run Try.prog w =
    .ok (if (p == a && q == b && r == c && s == d) = true then some (0, .int .i64 v) else if (p == a' && q == b' && r == c' && s == d') = true then some (1, .int .i64 v') else none) w := by
  unfold Instr.findKey
  simp only [Sem.run_bind, run_underlying Try.underlying44, Result.andThen_ok, Instr.findNow, Instr.sameNow]
  simp only [Instr.findAsking, Op.equal, Op.maxDepth, ent, Sem.run_bind, eqMatrix_run, Result.andThen_ok]
  by_cases h : (p == a && q == b && r == c && s == d) = true
  · simp [h]
  · simp only [h]
    by_cases h' : (p == a' && q == b' && r == c' && s == d') = true
    · simp [h', Sem.run_bind, eqMatrix_run]
    · simp only [h']; simp [Sem.run_bind, eqMatrix_run]; simpa using h'

theorem getM {w : World} {b : Nat} {es : Array MapEntry} {clock : Nat} (hb : w.heap[b]? = some (.map es clock)) : (getObj b).run Try.prog w = .ok (.map es clock) w := by
  simp [getObj, Sem.run, hb]
theorem setM {w : World} {b : Nat} {es : Array MapEntry} {clock : Nat} (o : Obj) (hb : w.heap[b]? = some (.map es clock)) : (setObj b o).run Try.prog w = .ok () { w with heap := w.heap.setIfInBounds b o } := by
  simp [setObj, Sem.run, hb]

/-- 'm[k] = v' at a key that is not there. -/
theorem put_run {w : World} {b : Nat} {es : Array MapEntry} {clock : Nat} {a p q r v : Int} (hb : w.heap[b]? = some (.map es clock)) (hf : (Instr.findKey 44 (.agg #[.int .i64 a, .int .i64 p, .int .i64 q, .int .i64 r]) es.toList).run Try.prog w = .ok none w) :
    (Instr.mapUpdate 105 (.map (some b)) (.agg #[.int .i64 a, .int .i64 p, .int .i64 q, .int .i64 r]) (.int .i64 v)).run Try.prog w = .ok () { w with heap := w.heap.setIfInBounds b (.map (es.push (ent a p q r v clock)) (clock + 1)) } := by
  unfold Instr.mapUpdate
  simp only [Sem.run_bind, run_underlying Try.underlying105, Result.andThen_ok, getM hb, checkMatrix_run, hf, setM _ hb, ent]

theorem set_alloc (w : World) (o o' : Obj) : ({ w.alloc o with heap := (w.alloc o).heap.setIfInBounds w.heap.size o' } : World) = w.alloc o' := by
  have h : (w.alloc o).heap.setIfInBounds w.heap.size o' = (w.alloc o').heap := by
    show (w.heap.push o).setIfInBounds w.heap.size o' = w.heap.push o'
    generalize w.heap = h
    obtain ⟨l⟩ := h
    simp
  rw [h]; rfl

def lookRes : Option (Nat × Value) → Value
  | some (_, v) => .tuple #[v, .bool true]
  | none => .tuple #[.int .i64 0, .bool false]

theorem look_run {w : World} {b : Nat} {es : Array MapEntry} {clock : Nat} {a p q r : Int} {res : Option (Nat × Value)} (hb : w.heap[b]? = some (.map es clock)) (hf : (Instr.findKey 44 (.agg #[.int .i64 a, .int .i64 p, .int .i64 q, .int .i64 r]) es.toList).run Try.prog w = .ok res w) :
    (Instr.lookup 105 (.map (some b)) (.agg #[.int .i64 a, .int .i64 p, .int .i64 q, .int .i64 r]) true).run Try.prog w = .ok (lookRes res) w := by
  have hz : (zeroValue 2).run Try.prog w = .ok (.int .i64 0) w := by kernel_rfl
  unfold Instr.lookup
  simp only [Sem.run_bind, run_underlying Try.underlying105, Result.andThen_ok, getM hb, checkMatrix_run, Sem.run_pure, hf]
  cases res with
  | none => simp [hz, Result.andThen, lookRes]
  | some x => obtain ⟨i, v⟩ := x; simp [lookRes]

end Go.Proofs.Ytikmjefbjejbkaa
