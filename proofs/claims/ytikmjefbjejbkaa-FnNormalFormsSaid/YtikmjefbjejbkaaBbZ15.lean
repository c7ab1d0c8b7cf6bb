/- Several texts in one: XRdM, XMy. -/
import Derived.Test.YtikmjefbjejbkaaBbZ4
import Derived.Test.YtikmjefbjejbkaaBbRed
import Derived.Deep.AppendLies
import Derived.Test.YtikmjefbjejbkaaBbZ14
import Derived.Test.YtikmjefbjejbkaaBbC1u

/- Chapter 2: lists of matrices in the making. -/
namespace Go.Proofs.Ytikmjefbjejbkaa
open Go.RowKit

def gm4 (q : Red.F4) : List Int := [q.1, q.2.1, q.2.2.1, q.2.2.2]
def hm4 (q : Red.F4) : List Value := [.int .i64 q.1, .int .i64 q.2.1, .int .i64 q.2.2.1, .int .i64 q.2.2.2]
theorem gm4_len (L : List Red.F4) : (L.flatMap gm4).length = 4 * L.length := by
  induction L with
  | nil => rfl
  | cons a L ih => simp only [List.flatMap_cons, List.length_append, ih, List.length_cons]; simp only [gm4, List.length_cons, List.length_nil]; omega
theorem hm4_map (L : List Red.F4) : L.flatMap hm4 = (L.flatMap gm4).map (Value.int .i64) := by
  induction L with
  | nil => rfl
  | cons a L ih => simp only [List.flatMap_cons, List.map_append, ih]; rfl
/-- A row of the call's own that holds the forms of L. -/
def RowM (B : Nat) (w : World) (v : Value) (L : List Red.F4) : Prop := w.ownsRow B 44 4 v L.length (L.flatMap hm4)
theorem RowM.out {B : Nat} {w : World} {v : Value} {L : List Red.F4} (h : RowM B w v L) : OwnX B w v L.length (fun i => (L.flatMap gm4).getD i 0) := by
  rcases h.2 with ⟨rfl, hn⟩ | ⟨g, cap, cur, rfl, hb, hg, hnc, hcm, hs, ht⟩
  · exact .inl ⟨rfl, hn⟩
  · refine .inr ⟨g, cap, rfl, hb, hnc, hcm, (Array.getElem?_eq_some_iff.1 hg).1, fun i hi => ⟨?_, by simp [World.frozen?, hg]⟩⟩
    have hl := gm4_len L
    have hx : (L.flatMap hm4)[i]? = some (.int .i64 ((L.flatMap gm4).getD i 0)) := by
      have hlt : i < (L.flatMap gm4).length := by omega
      rw [hm4_map, List.getElem?_map, List.getElem?_eq_getElem hlt]
      simp only [Option.map_some, List.getD, List.getElem?_eq_getElem hlt, Option.getD_some]
    rw [← ht, List.getElem?_take] at hx
    split at hx
    · simp [World.cell?, hg]
      simpa using hx
    · cases hx
theorem RowM.nil (B : Nat) (w : World) : RowM B w (.slice none 0 0) [] := World.ownsRow_nil _ _ _ _
theorem RowM.empty (B : Nat) (w : World) (hB : B ≤ w.heap.size) : RowM B (w.alloc (.cells #[] 44)) (.slice (some ⟨w.heap.size, 0, none⟩) 0 0) [] :=
  ⟨rfl, .inr ⟨w.heap.size, 0, #[], rfl, hB, heap_alloc_new w _, Nat.le_refl _, by decide, rfl, rfl⟩⟩
theorem RowM.next {w w' : World} {B : Nat} {v : Value} {L : List Red.F4} (h : RowM B w v L) (hb : Below w.heap.size w w') : RowM B w' v L :=
  h.kept (row := none) ⟨hb.os, hb.tape, hb.output, hb.size, fun k hk _ => hb.block k hk⟩ (by cases v.ownBlock <;> simp)
theorem RowM.val {w : World} {B : Nat} {v : Value} {L : List Red.F4} (h : RowM B w v L) : ∃ a cap, v = .slice a L.length cap := by
  rcases h.2 with ⟨rfl, hn⟩ | ⟨g, cap, cur, rfl, _⟩
  · exact ⟨none, 0, by rw [hn]⟩
  · exact ⟨_, _, rfl⟩
theorem RowM.base {w : World} {B B' : Nat} {v : Value} {L : List Red.F4} (h : RowM B w v L) (hB : B' ≤ B) : RowM B' w v L := by
  refine ⟨h.1, ?_⟩
  rcases h.2 with h2 | ⟨g, cap, cur, h3, hb, h4⟩
  · exact .inl h2
  · exact .inr ⟨g, cap, cur, h3, by omega, h4⟩
theorem RowM.grown {w w' W : World} {B : Nat} {v : Value} {L : List Red.F4} (h : RowM B w v L) (hW : Below W.heap.size W w) (hg : w.grownBy w' v.ownBlock) (hB : W.heap.size ≤ B) : Below W.heap.size W w' := by
  refine ⟨hg.os.trans hW.os, by rw [hg.tape, hW.tape], hg.output.trans hW.output, Nat.le_trans hW.size hg.size, fun k hk => (hg.block k (Nat.lt_of_lt_of_le hk hW.size) (fun e => ?_)).trans (hW.block k hk)⟩
  rcases h.2 with ⟨rfl, _⟩ | ⟨g, cap, cur, rfl, hb, _⟩
  · simp [Value.ownBlock] at e
  · simp [Value.ownBlock] at e; omega
theorem info_m4 : (Try.prog.info? 44).map (fun i => (i.zero, i.size, i.bytes)) = some (some (.agg #[.int .i64 0, .int .i64 0, .int .i64 0, .int .i64 0]), 4, 32) := by kernel_rfl

/-- append(list, q): q lies in the newest block. -/
theorem app_m {ops : Array Oper} {rest : List Oper} {o : Oper} {a : Act} {Q : Exit → Act → World → Prop} {w : World} {T : TypeId} (hgd : o.guard = none) (s x : Operand)
    (ho : o.op = .call { callee := .builtin .append, args := #[s, x], argTypes := #[23, 23] }) (base : Nat) {v : Value} {L : List Red.F4} (hs : a.eval s = v) (hown : RowM base w v L)
    {p q r t4 : Int} (hx : a.eval x = .slice (some ⟨w.heap.size, 0, none⟩) 1 1) (hn : L.length ≤ 1000000) (hbase : base ≤ w.heap.size)
    (h : ∀ v' w', RowM base w' v' (L ++ [(p, q, r, t4)]) → (w.alloc (.cells #[.int .i64 p, .int .i64 q, .int .i64 r, .int .i64 t4] T)).grownBy w' v.ownBlock → wpList Try.prog ops Q rest (a.put o.dst v') w') : wpList Try.prog ops Q (o :: rest) a (w.alloc (.cells #[.int .i64 p, .int .i64 q, .int .i64 r, .int .i64 t4] T)) := by
  obtain ⟨i0, hi, hi0, hi1, hi2⟩ := info_parts info_m4
  refine wpList_append_own _ hgd s x 23 ho base 44 i0 (.agg #[.int .i64 0, .int .i64 0, .int .i64 0, .int .i64 0]) 4 32 Try.underlying23 hi hi0 hi1 hi2 rfl (by decide) v L.length (L.flatMap hm4) hs (World.ownsRow.alloc hown _) ⟨w.heap.size, 0, none⟩ 1 1 [.int .i64 p, .int .i64 q, .int .i64 r, .int .i64 t4] hx rfl ?_ ?_ ?_ ?_ ?_ (fun v' w' h1 h2 _ => h v' w' (by unfold RowM; simpa [hm4] using h1) h2)
  · intro j u hj
    match j, hj with
    | 0, hj => simp at hj; subst hj; simp [Addr.add, go_sem]
    | 1, hj => simp at hj; subst hj; simp [Addr.add, go_sem]
    | 2, hj => simp at hj; subst hj; simp [Addr.add, go_sem]
    | 3, hj => simp at hj; subst hj; simp [Addr.add, go_sem]
  · intro u hu; simp at hu; rcases hu with rfl | rfl | rfl | rfl <;> rfl
  · unfold maxLen; omega
  · omega
  · simp; omega

end Go.Proofs.Ytikmjefbjejbkaa

/- Chapter 2: a map from forms to rows of matrices of the call's own: what 'm[k] = append(m[k], x)' does, at steps of a region that draws its order. -/
namespace Go.Proofs.Ytikmjefbjejbkaa
open Go.RowKit
open Go.ChangeMaps (setBlock)

/-- Nothing that lay has turned, but for block b. -/
def Gb (b : Nat) (w w' : World) : Prop := w.grownBy w' (some b)
theorem Gb.refl (b : Nat) (w : World) : Gb b w w := World.grownBy.refl w _
theorem Gb.trans {b : Nat} {u v w : World} (h : Gb b u v) (k : Gb b v w) : Gb b u w := h.andThen k (fun _ e => .inr e)
theorem Gb.below {b : Nat} {v w : World} (k : Below v.heap.size v w) : Gb b v w := ⟨k.os, k.tape, k.output, k.size, fun i hi _ => k.block i hi⟩
theorem Gb.next {b : Nat} {u v w : World} (h : Gb b u v) (k : Below v.heap.size v w) : Gb b u w := h.trans (Gb.below k)
theorem Gb.drew {b : Nat} {u v : World} (h : Gb b u v) : Gb b u v.drew := h.next (gr_drew (Below.refl _ v))
theorem Gb.alloc {b : Nat} {u v : World} (h : Gb b u v) (o : Obj) : Gb b u (v.alloc o) := h.next (gr_alloc (Below.refl _ v) o)
theorem Gb.size {b : Nat} {u v : World} (h : Gb b u v) : u.heap.size ≤ v.heap.size := World.grownBy.size h
/-- A block that is new, or b, may turn. -/
theorem Gb.grown {b : Nat} {u v w : World} {row : Option Nat} (h : Gb b u v) (k : v.grownBy w row) (hr : ∀ j, row = some j → u.heap.size ≤ j ∨ some b = some j) : Gb b u w := h.andThen k hr
theorem Gb.arr {b k : Nat} {u v : World} {x y z t : Int} (h : Gb b u v) (A : Arr u k x y z t) {M : List (Red.F4 × Value)} (hM : Mp u b M) : Arr v k x y z t := by
  refine A.kept h (fun r e => ?_)
  cases e
  exact ⟨_, hM, rfl⟩
theorem Gb.row {b B : Nat} {u v : World} {x : Value} {L : List Red.F4} {M : List (Red.F4 × Value)} (h : Gb b u v) (R : RowM B u x L) (hM : Mp u b M) : RowM B v x L := by
  refine World.ownsRow.kept R h ?_
  rcases R.2 with ⟨rfl, _⟩ | ⟨g, cap, cur, rfl, _, hg, _⟩
  · exact .inl rfl
  · refine .inr fun e => ?_
    have : g = b := by simpa [Value.ownBlock] using e
    subst this
    unfold Mp at hM; rw [hM] at hg; cases hg
theorem Mp.drew {w : World} {b : Nat} {L : List (Red.F4 × Value)} (h : Mp w b L) : Mp w.drew b L := h
theorem Mp.alloc {w : World} {b : Nat} {L : List (Red.F4 × Value)} (h : Mp w b L) (o : Obj) : Mp (w.alloc o) b L := h.walks (KeepsWalks.alloc w o)
theorem Mp.nextW {w w' : World} {b : Nat} {L : List (Red.F4 × Value)} (h : Mp w b L) (hb : Below w.heap.size w w') : Mp w' b L := h.next hb h.lt
theorem setBlock_gb {w : World} {b : Nat} {o o' : Obj} (hb : w.heap[b]? = some o) : Gb b w (setBlock w b o') ∧ (setBlock w b o').heap.size = w.heap.size ∧ (setBlock w b o').heap[b]? = some o' := by
  have hset := MapKept.heap_set (o' := o') hb
  exact ⟨⟨rfl, rfl, rfl, by simp [setBlock], fun i _ hi => hset.2 i (fun e => hi (by rw [e]))⟩, by simp [setBlock], hset.1⟩
/-- 'm[k]' is looked up for an assignment: its place, what stood there, the map then. -/
theorem entry_any (L : List (Red.F4 × Value)) (k : Red.F4) : ∃ i v L1, ((lkM L k 0 = some (i, v) ∧ L1 = L) ∨ (lkM L k 0 = none ∧ i = L.length ∧ v = .slice none 0 0 ∧ L1 = L ++ [(k, .slice none 0 0)])) ∧ L1[i]? = some (k, v) ∧
    ∀ (b : Nat) (w : World), Mp w b L → ∃ w', (Instr.mapEntry 78 (.map (some b)) (vF k)).run Try.prog w = .ok (.tuple #[v, .int .i64 (i : Int)]) w' ∧ Gb b w w' ∧ w'.heap.size = w.heap.size ∧ Mp w' b L1 := by
  cases hl : lkM L k 0 with
  | none =>
    refine ⟨L.length, .slice none 0 0, L ++ [(k, .slice none 0 0)], .inr ⟨rfl, rfl, rfl, rfl⟩, by simp, fun b w hb => ⟨_, entry_new hb hl, ?_⟩⟩
    obtain ⟨h1, h2, h3⟩ := setBlock_gb (o' := .map (mes 0 (L ++ [(k, .slice none 0 0)])).toArray (L ++ [(k, Value.slice none 0 0)]).length) hb
    exact ⟨h1, h2, h3⟩
  | some p =>
    obtain ⟨i, v⟩ := p
    obtain ⟨m, e, hm⟩ := lkM_some hl
    rw [Nat.zero_add] at e; subst e
    exact ⟨i, v, L, .inl ⟨rfl, rfl⟩, hm, fun b w hb => ⟨w, entry_old hb hl, Gb.refl _ _, rfl, hb⟩⟩
section
variable {ops : Array Oper} {o : Oper} {a : Act} {K : Act → World → Prop} {Q : Exit → Act → World → Prop} {E : Prop} {w : World}
theorem step_entry (b i : Nat) (k : Red.F4) (v : Value) (L L1 : List (Red.F4 × Value)) (hgd : o.guard = none) (m x : Operand) (ho : o.op = .mapEntry 78 m x) (hm : a.eval m = .map (some b)) (hx : a.eval x = vF k)
    (hrun : ∀ (b : Nat) (w : World), Mp w b L → ∃ w', (Instr.mapEntry 78 (.map (some b)) (vF k)).run Try.prog w = .ok (.tuple #[v, .int .i64 (i : Int)]) w' ∧ Gb b w w' ∧ w'.heap.size = w.heap.size ∧ Mp w' b L1) (hb : Mp w b L)
    (h : ∀ w', Gb b w w' → w'.heap.size = w.heap.size → Mp w' b L1 → K (a.put o.dst (.tuple #[v, .int .i64 (i : Int)])) w') :
    if Region.wanted o (yielded ops a.tmps) = true then Oper.wp Try.prog o a w K Q else E := by
  have hw : Region.wanted o (yielded ops a.tmps) = true := by simp [Region.wanted, hgd]
  rw [if_pos hw]
  obtain ⟨w', hr, h1, h2, h3⟩ := hrun b w hb
  unfold Oper.wp
  simp [execOp, ho, hm, hx, hr, Result.andThen]
  exact h w' h1 h2 h3
theorem step_entryStore (b i : Nat) (k : Red.F4) (v val : Value) (L : List (Red.F4 × Value)) (hgd : o.guard = none) (m s x : Operand) (ho : o.op = .entryStore 78 m s x) (hm : a.eval m = .map (some b)) (hs : a.eval s = .int .i64 (i : Int)) (hx : a.eval x = val)
    (hi : L[i]? = some (k, v)) (hb : Mp w b L)
    (h : ∀ w', Gb b w w' → w'.heap.size = w.heap.size → Mp w' b (L.set i (k, val)) → K (a.put o.dst undef) w') :
    if Region.wanted o (yielded ops a.tmps) = true then Oper.wp Try.prog o a w K Q else E := by
  have hw : Region.wanted o (yielded ops a.tmps) = true := by simp [Region.wanted, hgd]
  rw [if_pos hw]
  have hr := store_run (val := val) hb hi
  obtain ⟨h1, h2, h3⟩ := setBlock_gb (o' := .map (mes 0 (L.set i (k, val))).toArray (L.set i (k, val)).length) hb
  unfold Oper.wp
  simp [execOp, ho, hm, hs, hx, hr, Result.andThen]
  have h4 := h _ h1 h2 h3
  rw [List.length_set] at h4
  exact h4
/-- append(row, q), q in a block of its own. -/
theorem step_m (base H : Nat) (hgd : o.guard = none) (s x : Operand) (ho : o.op = .call { callee := .builtin .append, args := #[s, x], argTypes := #[23, 23] }) (v : Value) (L : List Red.F4) (hs : a.eval s = v) (hown : RowM base w v L)
    (N : Nat) (p q r t4 : Int) (hx : a.eval x = .slice (some ⟨N, 0, none⟩) 1 1) (hA : Arr w N p q r t4) (hn : L.length ≤ 1000000) (hbase : base ≤ H) (hH : H ≤ w.heap.size)
    (h : ∀ g cap w', RowM base w' (.slice (some ⟨g, 0, none⟩) (L.length + 1) cap) (L ++ [(p, q, r, t4)]) → w.grownBy w' v.ownBlock → (v.ownBlock = some g ∨ H ≤ g) → g < w'.heap.size → K (a.put o.dst (.slice (some ⟨g, 0, none⟩) (L.length + 1) cap)) w') :
    if Region.wanted o (yielded ops a.tmps) = true then Oper.wp Try.prog o a w K Q else E := by
  obtain ⟨i0, hi, hi0, hi1, hi2⟩ := info_parts info_m4
  obtain ⟨_, a0, a1, a2, a3, _⟩ := hA
  refine step_append_lies _ hgd s x 23 ho base 44 i0 (.agg #[.int .i64 0, .int .i64 0, .int .i64 0, .int .i64 0]) 4 32 Try.underlying23 hi hi0 hi1 hi2 rfl (by decide) v L.length (L.flatMap hm4) hs hown ⟨N, 0, none⟩ 1 1 [.int .i64 p, .int .i64 q, .int .i64 r, .int .i64 t4] hx rfl ?_ ?_ (by decide) ?_ ?_ ?_ _ rfl (fun g cap w' h1 h2 h3 h4 => h g cap w' (by unfold RowM; simpa [hm4] using h1) h2 (h3.imp id (fun e => by omega)) h4)
  · intro j u hj
    match j, hj with
    | 0, hj => simp at hj; subst hj; simpa [Addr.add] using a0
    | 1, hj => simp at hj; subst hj; simpa [Addr.add] using a1
    | 2, hj => simp at hj; subst hj; simpa [Addr.add] using a2
    | 3, hj => simp at hj; subst hj; simpa [Addr.add] using a3
  · intro u hu; simp at hu; rcases hu with rfl | rfl | rfl | rfl <;> rfl
  · unfold maxLen; omega
  · omega
  · omega
end

end Go.Proofs.Ytikmjefbjejbkaa
