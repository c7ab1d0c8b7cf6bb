/- Chapter 10: lists of forms in the making. -/
import Derived.Test.YtehbkmohfipmgaaBtFlS
import Derived.Deep.AppendLies
namespace Go.Proofs.Ytehbkmohfipmgaa
open Go.RowKit

abbrev Fm := Int × Int × Int × Int
def gi4 (q : Fm) : List Int := [q.1, q.2.1, q.2.2.1, q.2.2.2]
def gr4 (q : Fm) : List Value := [.int .i64 q.1, .int .i64 q.2.1, .int .i64 q.2.2.1, .int .i64 q.2.2.2]
theorem gi4_len (L : List Fm) : (L.flatMap gi4).length = 4 * L.length := by
  induction L with
  | nil => rfl
  | cons a L ih => simp only [List.flatMap_cons, List.length_append, ih, List.length_cons]; simp only [gi4, List.length_cons, List.length_nil]; omega
theorem gr4_map (L : List Fm) : L.flatMap gr4 = (L.flatMap gi4).map (Value.int .i64) := by
  induction L with
  | nil => rfl
  | cons a L ih => simp only [List.flatMap_cons, List.map_append, ih]; rfl
/-- A row of the call's own that holds the forms of L. -/
def RowF (B : Nat) (w : World) (v : Value) (L : List Fm) : Prop := w.ownsRow B 42 4 v L.length (L.flatMap gr4)
theorem RowF.out {B : Nat} {w : World} {v : Value} {L : List Fm} (h : RowF B w v L) : OwnX B w v L.length (fun i => (L.flatMap gi4).getD i 0) := by
  rcases h.2 with ⟨rfl, hn⟩ | ⟨g, cap, cur, rfl, hb, hg, hnc, hcm, hs, ht⟩
  · exact .inl ⟨rfl, hn⟩
  · refine .inr ⟨g, cap, rfl, hb, hnc, hcm, (Array.getElem?_eq_some_iff.1 hg).1, fun i hi => ⟨?_, by simp [World.frozen?, hg]⟩⟩
    have hl := gi4_len L
    have hx : (L.flatMap gr4)[i]? = some (.int .i64 ((L.flatMap gi4).getD i 0)) := by
      have hlt : i < (L.flatMap gi4).length := by omega
      rw [gr4_map, List.getElem?_map, List.getElem?_eq_getElem hlt]
      simp only [Option.map_some, List.getD, List.getElem?_eq_getElem hlt, Option.getD_some]
    rw [← ht, List.getElem?_take] at hx
    split at hx
    · simp [World.cell?, hg]
      simpa using hx
    · cases hx
theorem RowF.nil (B : Nat) (w : World) : RowF B w (.slice none 0 0) [] := World.ownsRow_nil _ _ _ _
theorem RowF.empty (B : Nat) (w : World) (hB : B ≤ w.heap.size) : RowF B (w.alloc (.cells #[] 42)) (.slice (some ⟨w.heap.size, 0, none⟩) 0 0) [] :=
  ⟨rfl, .inr ⟨w.heap.size, 0, #[], rfl, hB, heap_alloc_new w _, Nat.le_refl _, by decide, rfl, rfl⟩⟩
theorem RowF.next {w w' : World} {B : Nat} {v : Value} {L : List Fm} (h : RowF B w v L) (hb : Below w.heap.size w w') : RowF B w' v L :=
  h.kept (row := none) ⟨hb.os, hb.tape, hb.output, hb.size, fun k hk _ => hb.block k hk⟩ (by cases v.ownBlock <;> simp)
theorem RowF.val {w : World} {B : Nat} {v : Value} {L : List Fm} (h : RowF B w v L) : ∃ a cap, v = .slice a L.length cap := by
  rcases h.2 with ⟨rfl, hn⟩ | ⟨g, cap, cur, rfl, _⟩
  · exact ⟨none, 0, by rw [hn]⟩
  · exact ⟨_, _, rfl⟩
theorem RowF.base {w : World} {B B' : Nat} {v : Value} {L : List Fm} (h : RowF B w v L) (hB : B' ≤ B) : RowF B' w v L := by
  refine ⟨h.1, ?_⟩
  rcases h.2 with h2 | ⟨g, cap, cur, h3, hb, h4⟩
  · exact .inl h2
  · exact .inr ⟨g, cap, cur, h3, by omega, h4⟩
theorem RowF.grown {w w' W : World} {B : Nat} {v : Value} {L : List Fm} (h : RowF B w v L) (hW : Below W.heap.size W w) (hg : w.grownBy w' v.ownBlock) (hB : W.heap.size ≤ B) : Below W.heap.size W w' := by
  refine ⟨hg.os.trans hW.os, by rw [hg.tape, hW.tape], hg.output.trans hW.output, Nat.le_trans hW.size hg.size, fun k hk => (hg.block k (Nat.lt_of_lt_of_le hk hW.size) (fun e => ?_)).trans (hW.block k hk)⟩
  rcases h.2 with ⟨rfl, _⟩ | ⟨g, cap, cur, rfl, hb, _⟩
  · simp [Value.ownBlock] at e
  · simp [Value.ownBlock] at e; omega
theorem info_f4 : (Try.prog.info? 42).map (fun i => (i.zero, i.size, i.bytes)) = some (some (.agg #[.int .i64 0, .int .i64 0, .int .i64 0, .int .i64 0]), 4, 32) := by kernel_rfl

/-- append(list, q): q lies in the newest block. -/
theorem app_f {ops : Array Oper} {rest : List Oper} {o : Oper} {a : Act} {Q : Exit → Act → World → Prop} {w : World} {T : TypeId} (hgd : o.guard = none) (s x : Operand)
    (ho : o.op = .call { callee := .builtin .append, args := #[s, x], argTypes := #[47, 47] }) (base : Nat) {v : Value} {L : List Fm} (hs : a.eval s = v) (hown : RowF base w v L)
    {p q r t4 : Int} (hx : a.eval x = .slice (some ⟨w.heap.size, 0, none⟩) 1 1) (hn : L.length ≤ 1000000) (hbase : base ≤ w.heap.size)
    (h : ∀ v' w', RowF base w' v' (L ++ [(p, q, r, t4)]) → (w.alloc (.cells #[.int .i64 p, .int .i64 q, .int .i64 r, .int .i64 t4] T)).grownBy w' v.ownBlock → wpList Try.prog ops Q rest (a.put o.dst v') w') : wpList Try.prog ops Q (o :: rest) a (w.alloc (.cells #[.int .i64 p, .int .i64 q, .int .i64 r, .int .i64 t4] T)) := by
  obtain ⟨i0, hi, hi0, hi1, hi2⟩ := info_parts info_f4
  refine wpList_append_own _ hgd s x 47 ho base 42 i0 (.agg #[.int .i64 0, .int .i64 0, .int .i64 0, .int .i64 0]) 4 32 Try.underlying47 hi hi0 hi1 hi2 rfl (by decide) v L.length (L.flatMap gr4) hs (World.ownsRow.alloc hown _) ⟨w.heap.size, 0, none⟩ 1 1 [.int .i64 p, .int .i64 q, .int .i64 r, .int .i64 t4] hx rfl ?_ ?_ ?_ ?_ ?_ (fun v' w' h1 h2 _ => h v' w' (by unfold RowF; simpa [gr4] using h1) h2)
  · intro j u hj
    match j, hj with
    | 0, hj => simp at hj; subst hj; simp [Addr.add, go_sem]
    | 1, hj => simp at hj; subst hj; simp [Addr.add, go_sem]
    | 2, hj => simp at hj; subst hj; simp [Addr.add, go_sem]
    | 3, hj => simp at hj; subst hj; simp [Addr.add, go_sem]
  · intro u hu; simp at hu; rcases hu with rfl | rfl | rfl | rfl <;> rfl
  · unfold maxLen; omega
  · omega
  · simp; omega

end Go.Proofs.Ytehbkmohfipmgaa
