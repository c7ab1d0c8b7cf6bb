/- Chapter 10: lists of quadratic forms in the making; the classes of a discriminant. -/
import Derived.Test.YtofoahdnkcbhbaaZe
import Derived.Test.YtofoahdnkcbhbaaQlS
import Derived.Deep.AppendLies
namespace Go.Proofs.Ytofoahdnkcbhbaa
open Go.RowKit

abbrev Qd := Int × Int × Int
def qi3 (q : Qd) : List Int := [q.1, q.2.1, q.2.2]
def qr3 (q : Qd) : List Value := [.int .i64 q.1, .int .i64 q.2.1, .int .i64 q.2.2]
theorem qi3_len (L : List Qd) : (L.flatMap qi3).length = 3 * L.length := by
  induction L with
  | nil => rfl
  | cons a L ih => simp only [List.flatMap_cons, List.length_append, ih, List.length_cons]; simp only [qi3, List.length_cons, List.length_nil]; omega
theorem qr3_map (L : List Qd) : L.flatMap qr3 = (L.flatMap qi3).map (Value.int .i64) := by
  induction L with
  | nil => rfl
  | cons a L ih => simp only [List.flatMap_cons, List.map_append, ih]; rfl
/-- A row of the call's own that holds the forms of L. -/
def RowQ (B : Nat) (w : World) (v : Value) (L : List Qd) : Prop := w.ownsRow B 25 3 v L.length (L.flatMap qr3)
theorem RowQ.out {B : Nat} {w : World} {v : Value} {L : List Qd} (h : RowQ B w v L) : OwnU B w v L.length (fun i => (L.flatMap qi3).getD i 0) := by
  rcases h.2 with ⟨rfl, hn⟩ | ⟨g, cap, cur, rfl, hb, hg, hnc, hcm, hs, ht⟩
  · exact .inl ⟨rfl, hn⟩
  · refine .inr ⟨g, cap, rfl, hb, hnc, hcm, (Array.getElem?_eq_some_iff.1 hg).1, fun i hi => ⟨?_, by simp [World.frozen?, hg]⟩⟩
    have hl := qi3_len L
    have hx : (L.flatMap qr3)[i]? = some (.int .i64 ((L.flatMap qi3).getD i 0)) := by
      have hlt : i < (L.flatMap qi3).length := by omega
      rw [qr3_map, List.getElem?_map, List.getElem?_eq_getElem hlt]
      simp only [Option.map_some, List.getD, List.getElem?_eq_getElem hlt, Option.getD_some]
    rw [← ht, List.getElem?_take] at hx
    split at hx
    · simp [World.cell?, hg]
      simpa using hx
    · cases hx
theorem RowQ.nil (B : Nat) (w : World) : RowQ B w (.slice none 0 0) [] := World.ownsRow_nil _ _ _ _
theorem RowQ.empty (B : Nat) (w : World) (hB : B ≤ w.heap.size) : RowQ B (w.alloc (.cells #[] 25)) (.slice (some ⟨w.heap.size, 0, none⟩) 0 0) [] :=
  ⟨rfl, .inr ⟨w.heap.size, 0, #[], rfl, hB, heap_alloc_new w _, Nat.le_refl _, by decide, rfl, rfl⟩⟩
theorem RowQ.next {w w' : World} {B : Nat} {v : Value} {L : List Qd} (h : RowQ B w v L) (hb : Below w.heap.size w w') : RowQ B w' v L :=
  h.kept (row := none) ⟨hb.os, hb.tape, hb.output, hb.size, fun k hk _ => hb.block k hk⟩ (by cases v.ownBlock <;> simp)
theorem RowQ.val {w : World} {B : Nat} {v : Value} {L : List Qd} (h : RowQ B w v L) : ∃ a cap, v = .slice a L.length cap := by
  rcases h.2 with ⟨rfl, hn⟩ | ⟨g, cap, cur, rfl, _⟩
  · exact ⟨none, 0, by rw [hn]⟩
  · exact ⟨_, _, rfl⟩
theorem RowQ.base {w : World} {B B' : Nat} {v : Value} {L : List Qd} (h : RowQ B w v L) (hB : B' ≤ B) : RowQ B' w v L := by
  refine ⟨h.1, ?_⟩
  rcases h.2 with h2 | ⟨g, cap, cur, h3, hb, h4⟩
  · exact .inl h2
  · exact .inr ⟨g, cap, cur, h3, by omega, h4⟩
theorem RowQ.grown {w w' W : World} {B : Nat} {v : Value} {L : List Qd} (h : RowQ B w v L) (hW : Below W.heap.size W w) (hg : w.grownBy w' v.ownBlock) (hB : W.heap.size ≤ B) : Below W.heap.size W w' := by
  refine ⟨hg.os.trans hW.os, by rw [hg.tape, hW.tape], hg.output.trans hW.output, Nat.le_trans hW.size hg.size, fun k hk => (hg.block k (Nat.lt_of_lt_of_le hk hW.size) (fun e => ?_)).trans (hW.block k hk)⟩
  rcases h.2 with ⟨rfl, _⟩ | ⟨g, cap, cur, rfl, hb, _⟩
  · simp [Value.ownBlock] at e
  · simp [Value.ownBlock] at e; omega
theorem info_qd : (Try.prog.info? 25).map (fun i => (i.zero, i.size, i.bytes)) = some (some (.agg #[.int .i64 0, .int .i64 0, .int .i64 0]), 3, 24) := by kernel_rfl

/-- append(list, q): q lies in the newest block. -/
theorem app_q {ops : Array Oper} {rest : List Oper} {o : Oper} {a : Act} {Q : Exit → Act → World → Prop} {w : World} {T : TypeId} (hgd : o.guard = none) (s x : Operand)
    (ho : o.op = .call { callee := .builtin .append, args := #[s, x], argTypes := #[31, 31] }) (base : Nat) {v : Value} {L : List Qd} (hs : a.eval s = v) (hown : RowQ base w v L)
    {p q r : Int} (hx : a.eval x = .slice (some ⟨w.heap.size, 0, none⟩) 1 1) (hn : L.length ≤ 1000000) (hbase : base ≤ w.heap.size)
    (h : ∀ v' w', RowQ base w' v' (L ++ [(p, q, r)]) → (w.alloc (.cells #[.int .i64 p, .int .i64 q, .int .i64 r] T)).grownBy w' v.ownBlock → wpList Try.prog ops Q rest (a.put o.dst v') w') : wpList Try.prog ops Q (o :: rest) a (w.alloc (.cells #[.int .i64 p, .int .i64 q, .int .i64 r] T)) := by
  obtain ⟨i0, hi, hi0, hi1, hi2⟩ := info_parts info_qd
  refine wpList_append_own _ hgd s x 31 ho base 25 i0 (.agg #[.int .i64 0, .int .i64 0, .int .i64 0]) 3 24 Try.underlying31 hi hi0 hi1 hi2 rfl (by decide) v L.length (L.flatMap qr3) hs (World.ownsRow.alloc hown _) ⟨w.heap.size, 0, none⟩ 1 1 [.int .i64 p, .int .i64 q, .int .i64 r] hx rfl ?_ ?_ ?_ ?_ ?_ (fun v' w' h1 h2 _ => h v' w' (by unfold RowQ; simpa [qr3] using h1) h2)
  · intro j u hj
    match j, hj with
    | 0, hj => simp at hj; subst hj; simp [Addr.add, go_sem]
    | 1, hj => simp at hj; subst hj; simp [Addr.add, go_sem]
    | 2, hj => simp at hj; subst hj; simp [Addr.add, go_sem]
  · intro u hu; simp at hu; rcases hu with rfl | rfl | rfl <;> rfl
  · unfold maxLen; omega
  · omega
  · simp; omega

end Go.Proofs.Ytofoahdnkcbhbaa
