/- Chapter 5: what stands while the model looks for rational roots. -/
import Derived.Test.YtgdbnaabbaimjaaDoorGd
import Derived.Test.YtgdbnaabbaimjaaDoorRq
namespace Go.Proofs.YtgdbnaabbaimjaaDoor
open Go.RowKit

/-- The rows found (v: R), the form, the two rows of divisors. -/
structure Sst (w wr : World) (a b c d : Int) (vb : Value) (B : List Int) (va : Value) (D : List Int) (v : Value) (R : List (List Int)) : Prop where
  rw : RwX w.heap.size wr v 2 R
  fm : Bx wr w.heap.size #[.int .i64 a, .int .i64 b, .int .i64 c, .int .i64 d] 23
  ob : wr.ownsRow w.heap.size 2 1 vb B.length (B.map (Value.int .i64))
  oa : wr.ownsRow w.heap.size 2 1 va D.length (D.map (Value.int .i64))
  up : Below w.heap.size w wr
theorem Sst.next {w wr w' : World} {a b c d : Int} {vb : Value} {B : List Int} {va : Value} {D : List Int} {v : Value} {R : List (List Int)} (h : Sst w wr a b c d vb B va D v R) (hb : Below wr.heap.size wr w') : Sst w w' a b c d vb B va D v R :=
  ⟨h.rw.next hb, h.fm.next hb, owns_next h.ob hb, owns_next h.oa hb, gr_trans h.up hb⟩
theorem Sst.app {w wr w' : World} {a b c d : Int} {vb : Value} {B : List Int} {va : Value} {D : List Int} {v v' : Value} {R : List (List Int)} {T : List Nat} (h : Sst w wr a b c d vb B va D v R) (hT : Rwb w.heap.size wr v 2 R T) {z y : Int}
    (hg : ((wr.alloc (.cells #[.int .i64 z, .int .i64 y] 2)).alloc (.cells #[.slice (some ⟨wr.heap.size, 0, none⟩) 2 2] 41)).grownBy w' v.ownBlock)
    (hO : w'.ownsRow w.heap.size 41 1 v' (R.length + 1) ((T.map fun t => Value.slice (some ⟨t, 0, none⟩) 2 2) ++ [.slice (some ⟨wr.heap.size, 0, none⟩) 2 2])) : Sst w w' a b c d vb B va D v' (R ++ [[z, y]]) :=
  ⟨⟨_, hT.app (r := [z, y]) rfl h.up.size hg hO⟩, (h.fm.alloc (.cells (cI [z, y]) 2)).app (hT.own.alloc _) (by decide) hg, owns_keep2 h.ob hT.own (by decide) hg, owns_keep2 h.oa hT.own (by decide) hg,
   gr_own (gr_alloc (gr_alloc h.up _) _) hg (fun j hj => (hT.own.lt j hj).1)⟩

/-- append(out, []int64{z, y}). -/
theorem app_S {ops : Array Oper} {rest : List Oper} {o : Oper} {act : Act} {Q : Exit → Act → World → Prop} {w wr : World} {a b c d : Int} {vb : Value} {B : List Int} {va : Value} {D : List Int} {v : Value} {R : List (List Int)} (hgd : o.guard = none) (s x : Operand)
    (ho : o.op = .call { callee := .builtin .append, args := #[s, x], argTypes := #[40, 40] }) (hs : act.eval s = v) (hS : Sst w wr a b c d vb B va D v R)
    {z y : Int} (hx : act.eval x = .slice (some ⟨wr.heap.size + 1, 0, none⟩) 1 1) (hn : R.length ≤ 100000000)
    (h : ∀ v' w', Sst w w' a b c d vb B va D v' (R ++ [[z, y]]) → wpList Tryd.prog ops Q rest (act.put o.dst v') w') :
    wpList Tryd.prog ops Q (o :: rest) act ((wr.alloc (.cells #[.int .i64 z, .int .i64 y] 2)).alloc (.cells #[.slice (some ⟨wr.heap.size, 0, none⟩) 2 2] 41)) := by
  obtain ⟨i0, hi, hi0, hi1, hi2⟩ := info_parts info_sl5
  obtain ⟨T, hT⟩ := hS.rw
  have hsz := hS.up.size
  refine wpList_append_own _ hgd s x 40 ho w.heap.size 41 i0 (.slice none 0 0) 1 24 Tryd.underlying40 hi hi0 hi1 hi2 rfl (by decide) _ _ _ hs ((hT.own.alloc _).alloc _) ⟨wr.heap.size + 1, 0, none⟩ 1 1 [.slice (some ⟨wr.heap.size, 0, none⟩) 2 2] hx rfl ?_ ?_ ?_ ?_ ?_ (fun v' w' h1 h2 _ => h v' w' (hS.app hT h2 h1))
  · intro j u hj
    match j, hj with
    | 0, hj => simp at hj; subst hj; simp [Addr.add, go_sem]
  · first | (intro u hu; simp at hu; subst hu; rfl) | rfl | simp [Value.oneCell']
  · unfold maxLen; omega
  · omega
  · simp; omega


end Go.Proofs.YtgdbnaabbaimjaaDoor
