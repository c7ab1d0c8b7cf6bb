/- Chapter 4: rows of elements in the making; append. -/
import Derived.Test.YtdogkkmdccieiaaDoorZ18
import Derived.Deep.AppendLies
namespace Go.Proofs.YtdogkkmdccieiaaDoor
open Go.RowKit

abbrev Ed := Int × Int × Int
def ei3 (q : Ed) : List Int := [q.1, q.2.1, q.2.2]
def er3 (q : Ed) : List Value := [.int .i64 q.1, .int .i64 q.2.1, .int .i64 q.2.2]
theorem ei3_len (L : List Ed) : (L.flatMap ei3).length = 3 * L.length := by
  induction L with
  | nil => rfl
  | cons a L ih => simp only [List.flatMap_cons, List.length_append, ih, List.length_cons]; simp only [ei3, List.length_cons, List.length_nil]; omega
theorem er3_map (L : List Ed) : L.flatMap er3 = (L.flatMap ei3).map (Value.int .i64) := by
  induction L with
  | nil => rfl
  | cons a L ih => simp only [List.flatMap_cons, List.map_append, ih]; rfl
/-- A row of the call's own that holds the elements of L. -/
def RowE (B : Nat) (w : World) (v : Value) (L : List Ed) : Prop := w.ownsRow B 27 3 v L.length (L.flatMap er3)
theorem RowE.out {B : Nat} {w : World} {v : Value} {L : List Ed} (h : RowE B w v L) : OwnW B w v L.length (fun i => (L.flatMap ei3).getD i 0) := by
  rcases h.2 with ⟨rfl, hn⟩ | ⟨g, cap, cur, rfl, hb, hg, hnc, hcm, hs, ht⟩
  · exact .inl ⟨rfl, hn⟩
  · refine .inr ⟨g, cap, rfl, hb, hnc, hcm, (Array.getElem?_eq_some_iff.1 hg).1, fun i hi => ⟨?_, by simp [World.frozen?, hg]⟩⟩
    have hl := ei3_len L
    have hx : (L.flatMap er3)[i]? = some (.int .i64 ((L.flatMap ei3).getD i 0)) := by
      have hlt : i < (L.flatMap ei3).length := by omega
      rw [er3_map, List.getElem?_map, List.getElem?_eq_getElem hlt]
      simp only [Option.map_some, List.getD, List.getElem?_eq_getElem hlt, Option.getD_some]
    rw [← ht, List.getElem?_take] at hx
    split at hx
    · simp [World.cell?, hg]
      simpa using hx
    · cases hx
theorem RowE.nil (B : Nat) (w : World) : RowE B w (.slice none 0 0) [] := World.ownsRow_nil _ _ _ _
theorem RowE.empty (B : Nat) (w : World) (hB : B ≤ w.heap.size) : RowE B (w.alloc (.cells #[] 27)) (.slice (some ⟨w.heap.size, 0, none⟩) 0 0) [] :=
  ⟨rfl, .inr ⟨w.heap.size, 0, #[], rfl, hB, heap_alloc_new w _, Nat.le_refl _, by decide, rfl, rfl⟩⟩
theorem RowE.next {w w' : World} {B : Nat} {v : Value} {L : List Ed} (h : RowE B w v L) (hb : Below w.heap.size w w') : RowE B w' v L :=
  h.kept (row := none) ⟨hb.os, hb.tape, hb.output, hb.size, fun k hk _ => hb.block k hk⟩ (by cases v.ownBlock <;> simp)
theorem RowE.val {w : World} {B : Nat} {v : Value} {L : List Ed} (h : RowE B w v L) : ∃ a cap, v = .slice a L.length cap := by
  rcases h.2 with ⟨rfl, hn⟩ | ⟨g, cap, cur, rfl, _⟩
  · exact ⟨none, 0, by rw [hn]⟩
  · exact ⟨_, _, rfl⟩
theorem RowE.base {w : World} {B B' : Nat} {v : Value} {L : List Ed} (h : RowE B w v L) (hB : B' ≤ B) : RowE B' w v L := by
  refine ⟨h.1, ?_⟩
  rcases h.2 with h2 | ⟨g, cap, cur, h3, hb, h4⟩
  · exact .inl h2
  · exact .inr ⟨g, cap, cur, h3, by omega, h4⟩
theorem RowE.grown {w w' W : World} {B : Nat} {v : Value} {L : List Ed} (h : RowE B w v L) (hW : Below W.heap.size W w) (hg : w.grownBy w' v.ownBlock) (hB : W.heap.size ≤ B) : Below W.heap.size W w' := by
  refine ⟨hg.os.trans hW.os, by rw [hg.tape, hW.tape], hg.output.trans hW.output, Nat.le_trans hW.size hg.size, fun k hk => (hg.block k (Nat.lt_of_lt_of_le hk hW.size) (fun e => ?_)).trans (hW.block k hk)⟩
  rcases h.2 with ⟨rfl, _⟩ | ⟨g, cap, cur, rfl, hb, _⟩
  · simp [Value.ownBlock] at e
  · simp [Value.ownBlock] at e; omega
theorem info_ed : (Tryd.prog.info? 27).map (fun i => (i.zero, i.size, i.bytes)) = some (some (.agg #[.int .i64 0, .int .i64 0, .int .i64 0]), 3, 24) := by kernel_rfl

theorem RowE.drew {w : World} {B : Nat} {v : Value} {L : List Ed} (h : RowE B w v L) : RowE B w.drew v L := h.next (gr_drew (Below.refl _ _))
theorem RowE.drewN {w : World} {B : Nat} {v : Value} {L : List Ed} (h : RowE B w v L) (n : Nat) : RowE B (w.drewN n) v L := h.next (gr_drewN (Below.refl _ _) n)
theorem RowE.alloc {w : World} {B : Nat} {v : Value} {L : List Ed} (h : RowE B w v L) (o : Obj) : RowE B (w.alloc o) v L := h.next (gr_alloc (Below.refl _ _) o)
theorem Cl.grownE {w w' : World} {row : Option Nat} {k len : Nat} {g : Nat → Int} (h : Cl w k len g) (hg : w.grownBy w' row) (hr : row ≠ some k) : Cl w' k len g := by
  have hb : w'.heap[k]? = w.heap[k]? := hg.block k h.1 (fun e => hr e.symm)
  exact ⟨Nat.lt_of_lt_of_le h.1 hg.size, fun i hi => ⟨(World.cell?_of_block hb).trans (h.2 i hi).1, (World.frozen?_of_block hb).trans (h.2 i hi).2⟩⟩
theorem Bx.cl9 {w : World} {k : Nat} {p0 p1 p2 p3 p4 p5 p6 p7 p8 : Int} {T : TypeId} (h : Bx w k #[.int .i64 p0, .int .i64 p1, .int .i64 p2, .int .i64 p3, .int .i64 p4, .int .i64 p5, .int .i64 p6, .int .i64 p7, .int .i64 p8] T) : Cl w k 9 (g9 p0 p1 p2 p3 p4 p5 p6 p7 p8) := by
  refine ⟨h.lt, fun i hi => ⟨?_, h.frozen i⟩⟩
  rw [h.cell i]
  match i, hi with
  | 0, _ => rfl
  | 1, _ => rfl
  | 2, _ => rfl
  | 3, _ => rfl
  | 4, _ => rfl
  | 5, _ => rfl
  | 6, _ => rfl
  | 7, _ => rfl
  | 8, _ => rfl

theorem RowE.emptyk (B : Nat) (w : World) (k : Nat) (hk : k = w.heap.size) (hB : B ≤ k) : RowE B (w.alloc (.cells #[] 27)) (.slice (some ⟨k, 0, none⟩) 0 0) [] := by
  subst hk; exact RowE.empty B w hB
/-- A block of nine numbers. -/
def Nine (w : World) (k : Nat) : Prop := ∃ g, Cl w k 9 g
theorem Nine.new (w : World) (k : Nat) (p0 p1 p2 p3 p4 p5 p6 p7 p8 : Int) (T : TypeId) (hk : k = w.heap.size) : Nine (w.alloc (.cells #[.int .i64 p0, .int .i64 p1, .int .i64 p2, .int .i64 p3, .int .i64 p4, .int .i64 p5, .int .i64 p6, .int .i64 p7, .int .i64 p8] T)) k := by
  subst hk; exact ⟨_, Bx.cl9 (Bx.new w _ T)⟩
theorem Nine.next {w w' : World} {k : Nat} (h : Nine w k) (hb : Below w.heap.size w w') : Nine w' k := ⟨_, h.choose_spec.below hb⟩
theorem Nine.drew {w : World} {k : Nat} (h : Nine w k) : Nine w.drew k := h.next (gr_drew (Below.refl _ _))
theorem Nine.drewN {w : World} {k : Nat} (h : Nine w k) (n : Nat) : Nine (w.drewN n) k := h.next (gr_drewN (Below.refl _ _) n)
theorem Nine.alloc {w : World} {k : Nat} (h : Nine w k) (o : Obj) : Nine (w.alloc o) k := h.next (gr_alloc (Below.refl _ _) o)
/-- append(list, x): x lies in the newest block; where the new slice lies. -/
theorem app_e {ops : Array Oper} {rest : List Oper} {o : Oper} {a : Act} {Q : Exit → Act → World → Prop} {w : World} {T : TypeId} (hgd : o.guard = none) (s x : Operand)
    (ho : o.op = .call { callee := .builtin .append, args := #[s, x], argTypes := #[35, 35] }) (base : Nat) {v : Value} {L : List Ed} (hs : a.eval s = v) (hown : RowE base w v L)
    {p q r : Int} (hx : a.eval x = .slice (some ⟨w.heap.size, 0, none⟩) 1 1) (hn : L.length ≤ 1000000) (hbase : base ≤ w.heap.size)
    (h : ∀ g cap w', RowE base w' (.slice (some ⟨g, 0, none⟩) (L.length + 1) cap) (L ++ [(p, q, r)]) → (w.alloc (.cells #[.int .i64 p, .int .i64 q, .int .i64 r] T)).grownBy w' v.ownBlock → (v.ownBlock = some g ∨ g = w.heap.size + 1) → g < w'.heap.size → wpList Tryd.prog ops Q rest (a.put o.dst (.slice (some ⟨g, 0, none⟩) (L.length + 1) cap)) w') : wpList Tryd.prog ops Q (o :: rest) a (w.alloc (.cells #[.int .i64 p, .int .i64 q, .int .i64 r] T)) := by
  obtain ⟨i0, hi, hi0, hi1, hi2⟩ := info_parts info_ed
  refine wpList_append_lies _ hgd s x 35 ho base 27 i0 (.agg #[.int .i64 0, .int .i64 0, .int .i64 0]) 3 24 Tryd.underlying35 hi hi0 hi1 hi2 rfl (by decide) v L.length (L.flatMap er3) hs (World.ownsRow.alloc hown _) ⟨w.heap.size, 0, none⟩ 1 1 [.int .i64 p, .int .i64 q, .int .i64 r] hx rfl ?_ ?_ (by decide) ?_ ?_ ?_ (w.heap.size + 1) (by simp) (fun g cap w' h1 h2 h3 h4 => h g cap w' (by unfold RowE; simpa [er3] using h1) h2 h3 h4)
  · intro j u hj
    match j, hj with
    | 0, hj => simp at hj; subst hj; simp [Addr.add, go_sem]
    | 1, hj => simp at hj; subst hj; simp [Addr.add, go_sem]
    | 2, hj => simp at hj; subst hj; simp [Addr.add, go_sem]
  · intro u hu; simp at hu; rcases hu with rfl | rfl | rfl <;> rfl
  · unfold maxLen; omega
  · omega
  · simp; omega

end Go.Proofs.YtdogkkmdccieiaaDoor
