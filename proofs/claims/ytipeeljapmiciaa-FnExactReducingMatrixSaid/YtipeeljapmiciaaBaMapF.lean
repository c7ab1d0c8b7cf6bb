/- The map of formWithValues: four keys, laid in whichever order. -/
import Derived.Test.YtipeeljapmiciaaBaZ2
namespace Go.Proofs.Ytipeeljapmiciaa
open Go.RowKit

theorem checkForm_run (e : Bool) (a b c d : Int) (w : World) : (Instr.checkKey e 10000 23 (.agg #[.int .i64 a, .int .i64 b, .int .i64 c, .int .i64 d])).run Try.prog w = .ok () w := by
  have ia := Try.isAgg2
  have z := Try.sizeOf2
  have ck := fun x w => checkInt_run e 9998 x w
  rw [show (10000 : Nat) = 9999 + 1 from rfl, Instr.checkKey]
  simp only [Sem.run_bind, run_underlying Try.underlying23, Result.andThen_ok]
  simp only [Std.Legacy.Range.forIn_eq_forIn_range', Std.Legacy.Range.size, Nat.sub_zero, Nat.add_sub_cancel, Nat.div_one, List.range'_succ, List.range'_zero, List.forIn_cons, List.forIn_nil]
  go_simp

/-- The four keys, the entry at key i. -/
def bk : Nat → Int × Int × Int × Int
  | 0 => (2, 0, -2, 0)
  | 1 => (0, -2, 0, 2)
  | 2 => (0, 1, 1, 0)
  | _ => (0, -1, 1, 0)
def bent (V : Nat → Int) (i t : Nat) : MapEntry := ent (bk i).1 (bk i).2.1 (bk i).2.2.1 (bk i).2.2.2 (V i) t
/-- The entries, in the order in which they were laid: key and stamp. -/
def mapOf (V : Nat → Int) (l : List (Nat × Nat)) : Array MapEntry := (l.map fun p => bent V p.1 p.2).toArray
def fresh (i : Nat) (l : List (Nat × Nat)) : Bool := l.all fun p => decide (p.1 < 4) && decide (p.1 ≠ i)

theorem bk_ne {i j : Nat} (hi : i < 4) (hj : j < 4) (h : j ≠ i) : ((bk i).1 == (bk j).1 && (bk i).2.1 == (bk j).2.1 && (bk i).2.2.1 == (bk j).2.2.1 && (bk i).2.2.2 == (bk j).2.2.2) = false := by
  rcases (show i = 0 ∨ i = 1 ∨ i = 2 ∨ i = 3 by omega) with rfl | rfl | rfl | rfl <;>
  rcases (show j = 0 ∨ j = 1 ∨ j = 2 ∨ j = 3 by omega) with rfl | rfl | rfl | rfl <;>
  first | rfl | exact absurd rfl h

theorem ask_none {V : Nat → Int} {i : Nat} (hi : i < 4) (w : World) : ∀ (l : List (Nat × Nat)) (n : Nat), fresh i l = true →
    (Instr.findAsking 23 (.agg #[.int .i64 ((bk i).1), .int .i64 ((bk i).2.1), .int .i64 ((bk i).2.2.1), .int .i64 ((bk i).2.2.2)]) (l.map fun p => bent V p.1 p.2) n).run Try.prog w = .ok none w
  | [], _, _ => rfl
  | p :: l, n, h => by
    simp only [fresh, List.all_cons, Bool.and_eq_true, decide_eq_true_eq] at h
    simp only [List.map_cons, Instr.findAsking, Op.equal, Op.maxDepth, bent, ent, Sem.run_bind, eqForm_run, Result.andThen_ok, bk_ne hi h.1.1 h.1.2]
    exact ask_none hi w l (n + 1) h.2
theorem find_none {V : Nat → Int} {i : Nat} (hi : i < 4) (w : World) (l : List (Nat × Nat)) (h : fresh i l = true) :
    (Instr.findKey 23 (.agg #[.int .i64 ((bk i).1), .int .i64 ((bk i).2.1), .int .i64 ((bk i).2.2.1), .int .i64 ((bk i).2.2.2)]) (mapOf V l).toList).run Try.prog w = .ok none w := by
  unfold Instr.findKey mapOf
  simp only [Sem.run_bind, run_underlying Try.underlying23, Result.andThen_ok]
  cases l with
  | nil => rfl
  | cons p l =>
    simp only [List.map_cons, Instr.findNow, Instr.sameNow]
    exact ask_none hi w (p :: l) 0 h

theorem putF_run {w : World} {b : Nat} {es : Array MapEntry} {clock : Nat} {a p q r v : Int} (hb : w.heap[b]? = some (.map es clock)) (hf : (Instr.findKey 23 (.agg #[.int .i64 a, .int .i64 p, .int .i64 q, .int .i64 r]) es.toList).run Try.prog w = .ok none w) :
    (Instr.mapUpdate 140 (.map (some b)) (.agg #[.int .i64 a, .int .i64 p, .int .i64 q, .int .i64 r]) (.int .i64 v)).run Try.prog w = .ok () { w with heap := w.heap.setIfInBounds b (.map (es.push (ent a p q r v clock)) (clock + 1)) } := by
  unfold Instr.mapUpdate
  simp only [Sem.run_bind, run_underlying Try.underlying140, Result.andThen_ok, getM hb, checkForm_run, hf, setM _ hb, ent]

theorem new_map (W : World) (es : Array MapEntry) (c : Nat) : (W.alloc (.map es c)).drew.heap[W.heap.size]? = some (.map es c) := heap_alloc_new W _
theorem push_mapOf (V : Nat → Int) (l : List (Nat × Nat)) (i n : Nat) : (mapOf V l).push (bent V i n) = mapOf V (l ++ [(i, n)]) := by
  simp [mapOf]
theorem layF (V : Nat → Int) (W : World) (l : List (Nat × Nat)) (n i : Nat) (hi : i < 4) (h : fresh i l = true) :
    (Instr.mapUpdate 140 (.map (some W.heap.size)) (.agg #[.int .i64 ((bk i).1), .int .i64 ((bk i).2.1), .int .i64 ((bk i).2.2.1), .int .i64 ((bk i).2.2.2)]) (.int .i64 (V i))).run Try.prog (W.alloc (.map (mapOf V l) n)).drew = .ok () (W.alloc (.map (mapOf V (l ++ [(i, n)])) (n + 1))).drew := by
  rw [putF_run (new_map W _ _) (find_none hi _ l h)]
  refine congrArg (fun x => Result.ok () (World.drew x)) ((set_alloc W _ _).trans ?_)
  rw [← push_mapOf]; rfl

end Go.Proofs.Ytipeeljapmiciaa
