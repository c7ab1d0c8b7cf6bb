/- Several texts in one: XPu, XPv. -/
import Derived.Test.YtikmjefbjejbkaaBbZ21
import Derived.Deep.AppendLies

/- Chapter 2: rows of forms and of matrices that are put together; the model's l02Put. -/
namespace Go.Proofs.Ytikmjefbjejbkaa
open Go.RowKit

/-- A row that is there (not nil), and can be read. -/
structure RdA (w : World) (g cap : Nat) (L : List Red.F4) : Prop where
  lt : g < w.heap.size
  le : L.length ≤ cap
  mx : cap ≤ maxLen
  at4 : ∀ k q, L[k]? = some q → At4 w g (k * 4) q.1 q.2.1 q.2.2.1 q.2.2.2
theorem RdA.next {w w' : World} {g cap : Nat} {L : List Red.F4} (h : RdA w g cap L) {B : Nat} (hb : Below B w w') (hB : g < B) : RdA w' g cap L :=
  ⟨Nat.lt_of_lt_of_le h.lt hb.size, h.le, h.mx, fun k q hk => (h.at4 k q hk).next hb hB⟩
theorem RdA.of {w : World} {B : Nat} {T : TypeId} {g cap : Nat} {L : List Red.F4} (h : w.ownsRow B T 4 (.slice (some ⟨g, 0, none⟩) L.length cap) L.length (L.flatMap hm4)) : RdA w g cap L := by
  rcases h.2 with ⟨h0, _⟩ | ⟨g', cap', cur, hv, hb, hg, hnc, hcm, hs, ht⟩
  · cases h0
  · cases hv
    refine ⟨(Array.getElem?_eq_some_iff.1 hg).1, hnc, hcm, fun k q hk => ?_⟩
    have hne : L ≠ [] := by rintro rfl; simp at hk
    obtain ⟨g', cap', hv, _, _, h4⟩ := Rd4.of h hne
    cases hv
    exact h4 k q hk
/-- The cells from place k on. -/
theorem RdA.cells {w : World} {g cap : Nat} {L : List Red.F4} (h : RdA w g cap L) (k m : Nat) : ∀ j u, (((L.drop k).take m).flatMap hm4)[j]? = some u → w.cell? ((⟨g, k * 4, none⟩ : Addr).add j) = some u := by
  intro j u hj
  have hadd : (⟨g, k * 4, none⟩ : Addr).add j = ⟨g, k * 4 + j, none⟩ := by unfold Addr.add; split <;> simp_all
  rw [hadd]
  have hlen : j < 4 * ((L.drop k).take m).length := by
    have := (List.getElem?_eq_some_iff.1 hj).1
    rw [hm4_map, List.length_map, gm4_len] at this; exact this
  have hi : j / 4 < ((L.drop k).take m).length := by omega
  obtain ⟨q, hq⟩ : ∃ q, ((L.drop k).take m)[j / 4]? = some q := ⟨_, List.getElem?_eq_getElem hi⟩
  have hqL : L[k + j / 4]? = some q := by
    rw [List.getElem?_take] at hq
    split at hq
    · rwa [List.getElem?_drop] at hq
    · cases hq
  have h4 := h.at4 _ _ hqL
  obtain ⟨e0, e1, e2, e3⟩ := flat_at hq
  have hu : u = .int .i64 ((((L.drop k).take m).flatMap gm4).getD j 0) := by
    rw [hm4_map, List.getElem?_map] at hj
    have hjl : j < (((L.drop k).take m).flatMap gm4).length := by rw [gm4_len]; exact hlen
    rw [List.getElem?_eq_getElem hjl] at hj
    simp only [Option.map_some, Option.some.injEq] at hj
    rw [← hj, List.getD, List.getElem?_eq_getElem hjl]; rfl
  have hjr : j % 4 = 0 ∨ j % 4 = 1 ∨ j % 4 = 2 ∨ j % 4 = 3 := by omega
  rcases hjr with hr | hr | hr | hr
  · have e : k * 4 + j = (k + j / 4) * 4 := by omega
    have e' : j = j / 4 * 4 := by omega
    have hx : (((L.drop k).take m).flatMap gm4).getD j 0 = q.1 := by have := e0; rwa [← e'] at this
    rw [e, hu, hx]; exact h4.c0
  · have e : k * 4 + j = (k + j / 4) * 4 + 1 := by omega
    have e' : j = j / 4 * 4 + 1 := by omega
    have hx : (((L.drop k).take m).flatMap gm4).getD j 0 = q.2.1 := by have := e1; rwa [← e'] at this
    rw [e, hu, hx]; exact h4.c1
  · have e : k * 4 + j = (k + j / 4) * 4 + 2 := by omega
    have e' : j = j / 4 * 4 + 2 := by omega
    have hx : (((L.drop k).take m).flatMap gm4).getD j 0 = q.2.2.1 := by have := e2; rwa [← e'] at this
    rw [e, hu, hx]; exact h4.c2
  · have e : k * 4 + j = (k + j / 4) * 4 + 3 := by omega
    have e' : j = j / 4 * 4 + 3 := by omega
    have hx : (((L.drop k).take m).flatMap gm4).getD j 0 = q.2.2.2 := by have := e3; rwa [← e'] at this
    rw [e, hu, hx]; exact h4.c3
theorem hm4_one (L : List Red.F4) : ∀ u ∈ L.flatMap hm4, u.oneCell' = true := by
  intro u hu
  rw [hm4_map] at hu
  obtain ⟨x, _, rfl⟩ := List.mem_map.1 hu
  rfl
/-- A row of forms of the call's own. -/
def RowFm (B : Nat) (w : World) (v : Value) (L : List Red.F4) : Prop := w.ownsRow B 26 4 v L.length (L.flatMap hm4)
theorem RowFm.nil (B : Nat) (w : World) : RowFm B w (.slice none 0 0) [] := World.ownsRow_nil _ _ _ _
theorem RowFm.empty (B : Nat) (w : World) (hB : B ≤ w.heap.size) : RowFm B (w.alloc (.cells #[] 26)) (.slice (some ⟨w.heap.size, 0, none⟩) 0 0) [] :=
  ⟨rfl, .inr ⟨w.heap.size, 0, #[], rfl, hB, heap_alloc_new w _, Nat.le_refl _, by decide, rfl, rfl⟩⟩
theorem RowFm.next {w w' : World} {B : Nat} {v : Value} {L : List Red.F4} (h : RowFm B w v L) (hb : Below w.heap.size w w') : RowFm B w' v L :=
  World.ownsRow.kept (row := none) h ⟨hb.os, hb.tape, hb.output, hb.size, fun k hk _ => hb.block k hk⟩ (by cases v.ownBlock <;> simp)
theorem RowFm.val {w : World} {B : Nat} {v : Value} {L : List Red.F4} (h : RowFm B w v L) : ∃ a cap, v = .slice a L.length cap := by
  rcases h.2 with ⟨rfl, hn⟩ | ⟨g, cap, cur, rfl, _⟩
  · exact ⟨none, 0, by rw [hn]⟩
  · exact ⟨_, _, rfl⟩
theorem RowFm.base {w : World} {B B' : Nat} {v : Value} {L : List Red.F4} (h : RowFm B w v L) (hB : B' ≤ B) : RowFm B' w v L := by
  refine ⟨h.1, ?_⟩
  rcases h.2 with h2 | ⟨g, cap, cur, h3, hb, h4⟩
  · exact .inl h2
  · exact .inr ⟨g, cap, cur, h3, by omega, h4⟩
/-- A block just laid that holds one. -/
theorem one_row {T : TypeId} (B : Nat) (w : World) (p q r t : Int) (hB : B ≤ w.heap.size) : (w.alloc (.cells #[.int .i64 p, .int .i64 q, .int .i64 r, .int .i64 t] T)).ownsRow B T 4 (.slice (some ⟨w.heap.size, 0, none⟩) 1 1) 1 ([(p, q, r, t)].flatMap hm4) :=
  ⟨rfl, .inr ⟨w.heap.size, 1, _, rfl, hB, heap_alloc_new w _, Nat.le_refl _, by decide, rfl, rfl⟩⟩

section
variable {ops : Array Oper} {rest : List Oper} {o : Oper} {a : Act} {Q : Exit → Act → World → Prop} {w : World}
/-- append(row, others..). -/
theorem appF (hgd : o.guard = none) (s x : Operand) (ho : o.op = .call { callee := .builtin .append, args := #[s, x], argTypes := #[38, 38] }) (base : Nat) (v : Value) (L1 L2 : List Red.F4) (hs : a.eval s = v) (hown : RowFm base w v L1) (hv : v ≠ .slice none 0 0)
    (ad : Addr) (n2 c : Nat) (hx : a.eval x = .slice (some ad) n2 c) (hn2 : L2.length = n2) (hc : ∀ j u, (L2.flatMap hm4)[j]? = some u → w.cell? (ad.add j) = some u) (hn : L1.length + L2.length ≤ 1000000) (hbase : base ≤ w.heap.size)
    (h : ∀ g n cap w', n = L1.length + L2.length → RowFm base w' (.slice (some ⟨g, 0, none⟩) n cap) (L1 ++ L2) → w.grownBy w' v.ownBlock → wpList Try.prog ops Q rest (a.put o.dst (.slice (some ⟨g, 0, none⟩) n cap)) w') : wpList Try.prog ops Q (o :: rest) a w := by
  subst hn2
  obtain ⟨i0, hi, hi0, hi1, hi2⟩ := info_parts info_fmK
  refine wpList_append_own _ hgd s x 38 ho base 26 i0 (.agg #[.int .i64 0, .int .i64 0, .int .i64 0, .int .i64 0]) 4 32 Try.underlying38 hi hi0 hi1 hi2 rfl (by decide) v L1.length (L1.flatMap hm4) hs hown ad L2.length c (L2.flatMap hm4) hx ?_ hc (hm4_one L2) ?_ ?_ hbase (fun v' w' h1 h2 h3 => ?_)
  · rw [hm4_map, List.length_map, gm4_len]; omega
  · unfold maxLen; omega
  · omega
  · have h4 : v' ≠ .slice none 0 0 := fun e => hv ((h3.1 e).1)
    have h5 : w'.ownsRow base 26 4 v' (L1 ++ L2).length ((L1 ++ L2).flatMap hm4) := by simpa using h1
    obtain ⟨g, cap, rfl⟩ : ∃ g cap, v' = .slice (some ⟨g, 0, none⟩) (L1 ++ L2).length cap := by
      rcases h5.2 with ⟨e, _⟩ | ⟨g, cap, cur, e, _⟩
      · exact absurd e h4
      · exact ⟨g, cap, e⟩
    exact h g (L1 ++ L2).length cap w' (List.length_append) h5 h2
/-- .. at a step of a region that draws its order. -/
theorem stepF {K : Act → World → Prop} {E : Prop} (hgd : o.guard = none) (s x : Operand) (ho : o.op = .call { callee := .builtin .append, args := #[s, x], argTypes := #[38, 38] }) (base : Nat) (v : Value) (L1 L2 : List Red.F4) (hs : a.eval s = v) (hown : RowFm base w v L1) (hv : v ≠ .slice none 0 0)
    (ad : Addr) (n2 c : Nat) (hx : a.eval x = .slice (some ad) n2 c) (hn2 : L2.length = n2) (hc : ∀ j u, (L2.flatMap hm4)[j]? = some u → w.cell? (ad.add j) = some u) (hn : L1.length + L2.length ≤ 1000000) (hbase : base ≤ w.heap.size)
    (h : ∀ g n cap w', n = L1.length + L2.length → RowFm base w' (.slice (some ⟨g, 0, none⟩) n cap) (L1 ++ L2) → w.grownBy w' v.ownBlock → K (a.put o.dst (.slice (some ⟨g, 0, none⟩) n cap)) w') :
    if Region.wanted o (yielded ops a.tmps) = true then Oper.wp Try.prog o a w K Q else E := by
  subst hn2
  have hw : Region.wanted o (yielded ops a.tmps) = true := by simp [Region.wanted, hgd]
  rw [if_pos hw]
  obtain ⟨i0, hi, hi0, hi1, hi2⟩ := info_parts info_fmK
  obtain ⟨v', w', hr, h1, h2, h3, _⟩ := run_append_own_at w base 38 o.type 26 i0 (.agg #[.int .i64 0, .int .i64 0, .int .i64 0, .int .i64 0]) 4 32 Try.underlying38 hi hi0 hi1 hi2 rfl (by decide) v L1.length (L1.flatMap hm4) hown ad L2.length c (L2.flatMap hm4) (by rw [hm4_map, List.length_map, gm4_len]; omega) hc (hm4_one L2) (by unfold maxLen; omega) (by omega) hbase
  have h4 : v' ≠ .slice none 0 0 := fun e => hv ((h3.1 e).1)
  have h5 : w'.ownsRow base 26 4 v' (L1 ++ L2).length ((L1 ++ L2).flatMap hm4) := by simpa using h1
  obtain ⟨g, cap, rfl⟩ : ∃ g cap, v' = .slice (some ⟨g, 0, none⟩) (L1 ++ L2).length cap := by
    rcases h5.2 with ⟨e, _⟩ | ⟨g, cap, cur, e, _⟩
    · exact absurd e h4
    · exact ⟨g, cap, e⟩
  unfold Oper.wp
  simp only [execOp, ho]
  simp [resolve, invoke, builtin, hs, hx, hr, Result.andThen]
  have := h g (L1 ++ L2).length cap w' (List.length_append) h5 h2
  rw [List.length_append] at this
  exact this
end

section
variable {ops : Array Oper} {rest : List Oper} {o : Oper} {a : Act} {Q : Exit → Act → World → Prop} {w : World}
/-- append(row, others..). -/
theorem appM (hgd : o.guard = none) (s x : Operand) (ho : o.op = .call { callee := .builtin .append, args := #[s, x], argTypes := #[23, 23] }) (base : Nat) (v : Value) (L1 L2 : List Red.F4) (hs : a.eval s = v) (hown : RowM base w v L1) (hv : v ≠ .slice none 0 0)
    (ad : Addr) (n2 c : Nat) (hx : a.eval x = .slice (some ad) n2 c) (hn2 : L2.length = n2) (hc : ∀ j u, (L2.flatMap hm4)[j]? = some u → w.cell? (ad.add j) = some u) (hn : L1.length + L2.length ≤ 1000000) (hbase : base ≤ w.heap.size)
    (h : ∀ g n cap w', n = L1.length + L2.length → RowM base w' (.slice (some ⟨g, 0, none⟩) n cap) (L1 ++ L2) → w.grownBy w' v.ownBlock → wpList Try.prog ops Q rest (a.put o.dst (.slice (some ⟨g, 0, none⟩) n cap)) w') : wpList Try.prog ops Q (o :: rest) a w := by
  subst hn2
  obtain ⟨i0, hi, hi0, hi1, hi2⟩ := info_parts info_m4
  refine wpList_append_own _ hgd s x 23 ho base 44 i0 (.agg #[.int .i64 0, .int .i64 0, .int .i64 0, .int .i64 0]) 4 32 Try.underlying23 hi hi0 hi1 hi2 rfl (by decide) v L1.length (L1.flatMap hm4) hs hown ad L2.length c (L2.flatMap hm4) hx ?_ hc (hm4_one L2) ?_ ?_ hbase (fun v' w' h1 h2 h3 => ?_)
  · rw [hm4_map, List.length_map, gm4_len]; omega
  · unfold maxLen; omega
  · omega
  · have h4 : v' ≠ .slice none 0 0 := fun e => hv ((h3.1 e).1)
    have h5 : w'.ownsRow base 44 4 v' (L1 ++ L2).length ((L1 ++ L2).flatMap hm4) := by simpa using h1
    obtain ⟨g, cap, rfl⟩ : ∃ g cap, v' = .slice (some ⟨g, 0, none⟩) (L1 ++ L2).length cap := by
      rcases h5.2 with ⟨e, _⟩ | ⟨g, cap, cur, e, _⟩
      · exact absurd e h4
      · exact ⟨g, cap, e⟩
    exact h g (L1 ++ L2).length cap w' (List.length_append) h5 h2
/-- .. at a step of a region that draws its order. -/
theorem stepM {K : Act → World → Prop} {E : Prop} (hgd : o.guard = none) (s x : Operand) (ho : o.op = .call { callee := .builtin .append, args := #[s, x], argTypes := #[23, 23] }) (base : Nat) (v : Value) (L1 L2 : List Red.F4) (hs : a.eval s = v) (hown : RowM base w v L1) (hv : v ≠ .slice none 0 0)
    (ad : Addr) (n2 c : Nat) (hx : a.eval x = .slice (some ad) n2 c) (hn2 : L2.length = n2) (hc : ∀ j u, (L2.flatMap hm4)[j]? = some u → w.cell? (ad.add j) = some u) (hn : L1.length + L2.length ≤ 1000000) (hbase : base ≤ w.heap.size)
    (h : ∀ g n cap w', n = L1.length + L2.length → RowM base w' (.slice (some ⟨g, 0, none⟩) n cap) (L1 ++ L2) → w.grownBy w' v.ownBlock → K (a.put o.dst (.slice (some ⟨g, 0, none⟩) n cap)) w') :
    if Region.wanted o (yielded ops a.tmps) = true then Oper.wp Try.prog o a w K Q else E := by
  subst hn2
  have hw : Region.wanted o (yielded ops a.tmps) = true := by simp [Region.wanted, hgd]
  rw [if_pos hw]
  obtain ⟨i0, hi, hi0, hi1, hi2⟩ := info_parts info_m4
  obtain ⟨v', w', hr, h1, h2, h3, _⟩ := run_append_own_at w base 23 o.type 44 i0 (.agg #[.int .i64 0, .int .i64 0, .int .i64 0, .int .i64 0]) 4 32 Try.underlying23 hi hi0 hi1 hi2 rfl (by decide) v L1.length (L1.flatMap hm4) hown ad L2.length c (L2.flatMap hm4) (by rw [hm4_map, List.length_map, gm4_len]; omega) hc (hm4_one L2) (by unfold maxLen; omega) (by omega) hbase
  have h4 : v' ≠ .slice none 0 0 := fun e => hv ((h3.1 e).1)
  have h5 : w'.ownsRow base 44 4 v' (L1 ++ L2).length ((L1 ++ L2).flatMap hm4) := by simpa using h1
  obtain ⟨g, cap, rfl⟩ : ∃ g cap, v' = .slice (some ⟨g, 0, none⟩) (L1 ++ L2).length cap := by
    rcases h5.2 with ⟨e, _⟩ | ⟨g, cap, cur, e, _⟩
    · exact absurd e h4
    · exact ⟨g, cap, e⟩
  unfold Oper.wp
  simp only [execOp, ho]
  simp [resolve, invoke, builtin, hs, hx, hr, Result.andThen]
  have := h g (L1 ++ L2).length cap w' (List.length_append) h5 h2
  rw [List.length_append] at this
  exact this
end

end Go.Proofs.Ytikmjefbjejbkaa

/- Chapter 2: the model's l02Put. -/
namespace Go.Proofs.Ytikmjefbjejbkaa
open Go.RowKit

theorem RdA.drew {w : World} {g cap : Nat} {L : List Red.F4} (h : RdA w g cap L) : RdA w.drew g cap L := h.next (gr_drew (Below.refl _ w)) h.lt
/-- Where list[k:] begins. -/
def adr (g cap k : Nat) : Addr := if cap = k then ⟨g, 0, none⟩ else ⟨g, k * 4, none⟩
theorem adr_some (g cap k : Nat) : (if cap = k then some (⟨g, 0, none⟩ : Addr) else some ⟨g, k * 4, none⟩) = some (adr g cap k) := by
  unfold adr; split <;> rfl
theorem RdA.cellsR {w : World} {g cap n : Nat} {L : List Red.F4} (h : RdA w g cap L) (hn : L.length = n) (k : Nat) : ∀ j u, ((L.drop k).flatMap hm4)[j]? = some u → w.cell? ((adr g cap k).add j) = some u := by
  intro j u hj
  unfold adr
  split
  · rename_i e
    have := h.le
    rw [List.drop_of_length_le (by omega)] at hj
    simp at hj
  · exact h.cells k (n - k) j u (by rwa [List.take_of_length_le (by rw [List.length_drop]; omega)])
theorem RdA.grownB {w w' : World} {g cap : Nat} {L : List Red.F4} {row : Option Nat} (h : RdA w g cap L) (hg : w.grownBy w' row) (hne : some g ≠ row) : RdA w' g cap L := by
  refine ⟨Nat.lt_of_lt_of_le h.lt hg.size, h.le, h.mx, fun k q hk => ?_⟩
  have hc : ∀ o, w'.cell? ⟨g, o, none⟩ = w.cell? ⟨g, o, none⟩ := fun o => World.cell?_of_block (a := ⟨g, o, none⟩) (hg.block g h.lt hne)
  obtain ⟨h0, h1, h2, h3, h4⟩ := h.at4 k q hk
  exact ⟨Nat.lt_of_lt_of_le h0 hg.size, (hc _).trans h1, (hc _).trans h2, (hc _).trans h3, (hc _).trans h4⟩
theorem RdA.cells0 {w : World} {g cap : Nat} {L : List Red.F4} (h : RdA w g cap L) (m : Nat) : ∀ j u, ((L.take m).flatMap hm4)[j]? = some u → w.cell? ((⟨g, 0, none⟩ : Addr).add j) = some u := by
  intro j u hj
  have := h.cells 0 m j u (by simpa using hj)
  simpa using this
/-- Where m goes in. -/
def Rd.Cut (m : Red.F4) (L : List Red.F4) (k : Nat) : Prop := k ≤ L.length ∧ (∀ i q, k ≤ i → L[i]? = some q → Rd.Ls m q) ∧ (∀ q, 0 < k → L[k - 1]? = some q → ¬ Rd.Ls m q)
def PutOut (m : Red.F4) (L : List Red.F4) (w : World) (e : Ending) (w' : World) : Prop :=
  ∃ k g n cap, e = .returned (.slice (some ⟨g, 0, none⟩) n cap) ∧ Rd.Cut m L k ∧ RowM w.heap.size w' (.slice (some ⟨g, 0, none⟩) n cap) (L.take k ++ m :: L.drop k) ∧ Below w.heap.size w w'
set_option maxRecDepth 100000 in
set_option maxHeartbeats 4000000 in
theorem sPut_any (g cap : Nat) (L : List Red.F4) (m : Red.F4) (hl : L.length ≤ 1000) (w : World) (h : RdA w g cap L) :
    Calls Try.prog 98 #[.slice (some ⟨g, 0, none⟩) L.length cap, vF m] w (PutOut m L w) := by
  obtain ⟨m0, m1, m2, m3⟩ := m
  unfold vF
  dsimp only
  have A0 := Arr.new w m0 m1 m2 m3 44
  have R0 := h.next (gr_alloc (Below.refl w.heap.size w) (.cells #[.int .i64 m0, .int .i64 m1, .int .i64 m2, .int .i64 m3] 44)) h.lt
  have U0 := gr_alloc (Below.refl w.heap.size w) (.cells #[.int .i64 m0, .int .i64 m1, .int .i64 m2, .int .i64 m3] 44)
  have hmx := h.mx
  unfold maxLen at hmx
  have hle := h.le
  have hglt := h.lt
  clear h
  generalize hn : L.length = n at *
  have HN := hid hn
  clear hn
  go_enter Try.func98, Try.ntmps98
  go_wp2_with fail
  generalize w.alloc (.cells #[.int .i64 m0, .int .i64 m1, .int .i64 m2, .int .i64 m3] 44) = W0 at A0 R0 U0 ⊢
  have HA := hid A0; have HR := hid R0; have HU := hid U0
  clear A0 R0 U0
  go_loopw [5] (fun s5 wr => ∃ k : Nat, s5 = .int .i64 ((k : Int)) ∧ k ≤ n ∧ Hid (∀ i q, k ≤ i → L[i]? = some q → Rd.Ls (m0, m1, m2, m3) q) ∧ Below W0.heap.size W0 wr) (fun s5 _ => (intOf s5).toNat)
  case atStart => exact ⟨n, rfl, Nat.le_refl _, hid (fun i q h1 h2 => by have := (List.getElem?_eq_some_iff.1 h2).1; have := HN.out; omega), Below.refl _ _⟩
  case round =>
    obtain ⟨k, rfl, hk, hall, hB⟩ := hrel
    have A1 := HA.out.next hB; have R1 := HR.out.next hB HR.out.lt
    by_cases hk0 : 0 < k
    · obtain ⟨q, hq⟩ : ∃ q, L[k - 1]? = some q := ⟨_, List.getElem?_eq_getElem (by have := HN.out; omega)⟩
      have Q1 := R1.at4 _ _ hq
      have HQ := hid hq
      clear hq
      obtain ⟨q0, q1, q2, q3⟩ := q
      dsimp only at Q1
      obtain ⟨j, hj⟩ : ∃ j, j = k - 1 := ⟨_, rfl⟩
      rw [← hj] at Q1 HQ
      obtain ⟨_, c0, c1, c2, c3⟩ := id Q1
      obtain ⟨_, d0, d1, d2, d3, _⟩ := id A1
      have e1 : decide ((0 : Int) < (k : Int)) = true := by simp only [decide_eq_true_eq]; omega
      have e0 : (k : Int) - 1 = (j : Int) := by omega
      have e2 : IntKind.i64.wrap ((k : Int) - 1) = (j : Int) := by rw [e0, IntWalk.i64_left]; exact IntWalk.wrap64_in _ (by have := hj; omega)
      clear e0
      have hj0 : (0 : Int) ≤ (j : Int) := by omega
      have hjn : (j : Int) < (n : Int) := by omega
      have HJ := hid hj
      clear hj
      go_wp2_with fail
      go_region_held3 (fun W => W.cell? ⟨g, j * 4, none⟩ = some (.int .i64 q0) ∧ W.cell? ⟨g, j * 4 + 1, none⟩ = some (.int .i64 q1) ∧ W.cell? ⟨g, j * 4 + 2, none⟩ = some (.int .i64 q2) ∧ W.cell? ⟨g, j * 4 + 3, none⟩ = some (.int .i64 q3) ∧ W.cell? ⟨w.heap.size, 0, none⟩ = some (.int .i64 m0) ∧ W.cell? ⟨w.heap.size, 1, none⟩ = some (.int .i64 m1) ∧ W.cell? ⟨w.heap.size, 2, none⟩ = some (.int .i64 m2) ∧ W.cell? ⟨w.heap.size, 3, none⟩ = some (.int .i64 m3)) (first | exact cells8M Q5 A5 | exact cells8M Q1.drew A1.drew) ((go_at_call 117; refine (sLess_any m0 m1 m2 m3 q0 q1 q2 q3 _).mono ?_; rintro e w5 ⟨rfl, hb5⟩; have A5 := A1.drew.next hb5; have Q5 := Q1.drew.next hb5 Q1.lt; have B5 := gr_trans (gr_drew hB) hb5))
      clear c0 c1 c2 c3 d0 d1 d2 d3 A1 R1 Q1 e1
      cases hz : Rd.ls (m0, m1, m2, m3) (q0, q1, q2, q3) with
      | true =>
        have hls := (Rd.ls_iff _ _).1 hz
        have HALL := hid (show ∀ i q, j ≤ i → L[i]? = some q → Rd.Ls (m0, m1, m2, m3) q from fun i q h1 h2 => by
          by_cases e : i = j
          · subst e; rw [HQ.out] at h2; cases h2; exact hls
          · exact hall.out i q (by have := HJ.out; omega) h2)
        have HB5 := hid B5
        clear hz hls hall B5 hB A5 Q5 hb5
        go_wp2_with fail
        go_roundw
        case rel => exact ⟨j, rfl, by have := HJ.out; omega, HALL, HB5.out⟩
        case measure => have := HJ.out; simp [intOf]; omega
      | false =>
        have hls : ¬ Rd.Ls (m0, m1, m2, m3) (q0, q1, q2, q3) := fun h => by rw [(Rd.ls_iff _ _).2 h] at hz; cases hz
        have R5 := HR.out.next B5 HR.out.lt
        have HT := hid (show Rd.Cut (m0, m1, m2, m3) L k from ⟨by have := HN.out; omega, hall.out, fun q _ h => by rw [← HJ.out, HQ.out] at h; cases h; exact hls⟩)
        have HA5 := hid A5; have HR5 := hid R5; have HB5 := hid B5
        clear hall hls hB Q5 hb5 A5 R5 B5
        have hkn : (k : Int) ≤ (n : Int) := by omega
        have hkc : (k : Int) ≤ (cap : Int) := by omega
        have hk00 : (0 : Int) ≤ (k : Int) := by omega
        go_upto_region 4 with fail
        obtain ⟨_, d0, d1, d2, d3, _⟩ := id HA5.out.drew
        go_region_held3 (fun W => W.cell? ⟨w.heap.size, 0, none⟩ = some (.int .i64 m0) ∧ W.cell? ⟨w.heap.size, 1, none⟩ = some (.int .i64 m1) ∧ W.cell? ⟨w.heap.size, 2, none⟩ = some (.int .i64 m2) ∧ W.cell? ⟨w.heap.size, 3, none⟩ = some (.int .i64 m3)) (first | exact cells4 A7 | exact cells4 HA5.out.drew | exact cells4 (HA5.out.drew.alloc _)) ((go_loud (refine stepM rfl (.tmp 23) (.tmp 26) rfl W0.heap.size (.slice (some ⟨w5.drew.heap.size, 0, none⟩) 1 1) [(m0, m1, m2, m3)] (L.drop k) rfl (one_row _ w5.drew m0 m1 m2 m3 (by have := HB5.out.size; simpa using this)) (by simp) (adr g cap k) (n - k) (cap - k) (congrArg (fun o => Value.slice o (n - k) (cap - k)) (adr_some g cap k)) (by rw [List.length_drop, HN.out]) ((HR5.out.drew.next (gr_alloc (Below.refl _ _) _) HR5.out.drew.lt).cellsR HN.out k) (by simp [HN.out]; omega) (by have := HB5.out.size; simp; omega) ?_; intro g7 n7 cap7 w7 hn7 r7 h7; have HN7 := hid hn7; clear hn7; have A7 := (HA5.out.drew.alloc (.cells #[.int .i64 m0, .int .i64 m1, .int .i64 m2, .int .i64 m3] 44)).grownB h7 (by simp [Value.ownBlock]; have := HA5.out.lt; omega))))
        have hr7 := r7.lt
        have R7 := (HR5.out.drew.next (gr_alloc (Below.refl _ (w5.drew)) (.cells #[.int .i64 m0, .int .i64 m1, .int .i64 m2, .int .i64 m3] 44)) HR5.out.drew.lt).grownB h7 (by simp [Value.ownBlock]; have := HR5.out.lt; omega)
        have U7 : Below w.heap.size w w7 := (gr_alloc (gr_drew (HU.out.trans (HB5.out.mono HU.out.size))) (.cells #[.int .i64 m0, .int .i64 m1, .int .i64 m2, .int .i64 m3] 44)).grown h7 (by have := HU.out.size; have := HB5.out.size; simp; omega) (fun q e => by simp [Value.ownBlock] at e; subst e; have := HU.out.size; have := HB5.out.size; simp; omega)
        have hg7 : g7 < w7.heap.size := (hr7 g7 rfl).2
        have hw7 : W0.heap.size ≤ w7.heap.size := by have h7s := h7.size; have := HB5.out.size; simp at h7s; omega
        have R8 := R7.next (gr_alloc (Below.refl _ w7) (.cells #[] 44)) R7.lt
        have E8 := RowM.empty W0.heap.size w7 hw7
        have Q8 := r7.next (gr_alloc (Below.refl _ w7) (.cells #[] 44))
        have U8 := gr_alloc U7 (.cells #[] 44)
        have hUs := HU.out.size
        have tok1 : True := trivial
        clear HA5 HR5 HB5 R7 U7 d0 d1 d2 d3 A7 hr7
        have HR8 := hid R8; have HE8 := hid E8; have HQ8 := hid Q8; have HU8 := hid U8
        clear R8 E8 Q8 U8 r7 h7
        go_wp2_with (first
          | (at_builtin; have _t := tok1; refine appM rfl _ _ rfl W0.heap.size (.slice (some ⟨w7.heap.size, 0, none⟩) 0 0) [] (L.take k) rfl HE8.out (by simp) ⟨g, 0, none⟩ k cap rfl (by rw [List.length_take, HN.out]; omega) (HR8.out.cells0 k) (by simp; omega) (by simp; omega) ?_; intro g8 n8 cap8 w8 hn8 r8 h8; have HN8 := hid hn8; clear hn8; clear tok1)
          | (at_builtin; go_loud (refine appM rfl _ _ rfl W0.heap.size (.slice (some ⟨g8, 0, none⟩) n8 cap8) ([] ++ L.take k) ([(m0, m1, m2, m3)] ++ L.drop k) rfl r8 (by simp) ⟨g7, 0, none⟩ n7 cap7 rfl (by rw [HN7.out, List.length_append]) (fun j u hj => (RdA.grownB (RdA.of (by have := HQ8.out; unfold RowM at this; rwa [HN7.out, ← List.length_append] at this)) h8 (by simp [Value.ownBlock]; omega)).cells0 ([(m0, m1, m2, m3)] ++ L.drop k).length j u (by rw [List.take_length]; exact hj)) (by simp [HN.out]; omega) (by have h8s := h8.size; simp at h8s; omega) ?_; intro g9 n9 cap9 w9 hn9 r9 h9; have HN9 := hid hn9; clear hn9)))
        all_goals
          go_ret
          refine ⟨k, g9, n9, cap9, rfl, HT.out, RowM.base (by simpa using r9) hUs, ?_⟩
          have B8 := HU8.out.grown h8 HU8.out.size (fun q e => by simp [Value.ownBlock] at e; omega)
          exact B8.grown h9 B8.size (fun q e => by have := (r8.lt q e).1; omega)
    · have hk' : k = 0 := by omega
      have e1 : decide ((0 : Int) < (k : Int)) = false := by simp only [decide_eq_false_iff_not]; omega
      have HK0 := hid hk'
      clear hk'
      go_wp2_with fail
      go_quiet (fail)
      have HT := hid (show Rd.Cut (m0, m1, m2, m3) L k from ⟨by have := HN.out; omega, hall.out, fun q h _ => absurd h (by have := HK0.out; omega)⟩)
      have HA5 := hid (A1.drewN nq); have HR5 := hid (R1.next (gr_drewN (Below.refl _ wr) nq) R1.lt); have HB5 := hid (gr_drewN hB nq)
      clear hall hB A1 R1
      generalize wr.drewN nq = w5 at HA5 HR5 HB5 ⊢
      have hkn : (k : Int) ≤ (n : Int) := by omega
      have hkc : (k : Int) ≤ (cap : Int) := by omega
      have hk00 : (0 : Int) ≤ (k : Int) := by omega
      go_upto_region 4 with fail
      obtain ⟨_, d0, d1, d2, d3, _⟩ := id HA5.out.drew
      go_region_held3 (fun W => W.cell? ⟨w.heap.size, 0, none⟩ = some (.int .i64 m0) ∧ W.cell? ⟨w.heap.size, 1, none⟩ = some (.int .i64 m1) ∧ W.cell? ⟨w.heap.size, 2, none⟩ = some (.int .i64 m2) ∧ W.cell? ⟨w.heap.size, 3, none⟩ = some (.int .i64 m3)) (first | exact cells4 A7 | exact cells4 HA5.out.drew | exact cells4 (HA5.out.drew.alloc _)) ((go_loud (refine stepM rfl (.tmp 23) (.tmp 26) rfl W0.heap.size (.slice (some ⟨w5.drew.heap.size, 0, none⟩) 1 1) [(m0, m1, m2, m3)] (L.drop k) rfl (one_row _ w5.drew m0 m1 m2 m3 (by have := HB5.out.size; simpa using this)) (by simp) (adr g cap k) (n - k) (cap - k) (congrArg (fun o => Value.slice o (n - k) (cap - k)) (adr_some g cap k)) (by rw [List.length_drop, HN.out]) ((HR5.out.drew.next (gr_alloc (Below.refl _ _) _) HR5.out.drew.lt).cellsR HN.out k) (by simp [HN.out]; omega) (by have := HB5.out.size; simp; omega) ?_; intro g7 n7 cap7 w7 hn7 r7 h7; have HN7 := hid hn7; clear hn7; have A7 := (HA5.out.drew.alloc (.cells #[.int .i64 m0, .int .i64 m1, .int .i64 m2, .int .i64 m3] 44)).grownB h7 (by simp [Value.ownBlock]; have := HA5.out.lt; omega))))
      have hr7 := r7.lt
      have R7 := (HR5.out.drew.next (gr_alloc (Below.refl _ (w5.drew)) (.cells #[.int .i64 m0, .int .i64 m1, .int .i64 m2, .int .i64 m3] 44)) HR5.out.drew.lt).grownB h7 (by simp [Value.ownBlock]; have := HR5.out.lt; omega)
      have U7 : Below w.heap.size w w7 := (gr_alloc (gr_drew (HU.out.trans (HB5.out.mono HU.out.size))) (.cells #[.int .i64 m0, .int .i64 m1, .int .i64 m2, .int .i64 m3] 44)).grown h7 (by have := HU.out.size; have := HB5.out.size; simp; omega) (fun q e => by simp [Value.ownBlock] at e; subst e; have := HU.out.size; have := HB5.out.size; simp; omega)
      have hg7 : g7 < w7.heap.size := (hr7 g7 rfl).2
      have hw7 : W0.heap.size ≤ w7.heap.size := by have h7s := h7.size; have := HB5.out.size; simp at h7s; omega
      have R8 := R7.next (gr_alloc (Below.refl _ w7) (.cells #[] 44)) R7.lt
      have E8 := RowM.empty W0.heap.size w7 hw7
      have Q8 := r7.next (gr_alloc (Below.refl _ w7) (.cells #[] 44))
      have U8 := gr_alloc U7 (.cells #[] 44)
      have hUs := HU.out.size
      have tok1 : True := trivial
      clear HA5 HR5 HB5 R7 U7 d0 d1 d2 d3 A7 hr7
      have HR8 := hid R8; have HE8 := hid E8; have HQ8 := hid Q8; have HU8 := hid U8
      clear R8 E8 Q8 U8 r7 h7
      go_wp2_with (first
        | (at_builtin; have _t := tok1; refine appM rfl _ _ rfl W0.heap.size (.slice (some ⟨w7.heap.size, 0, none⟩) 0 0) [] (L.take k) rfl HE8.out (by simp) ⟨g, 0, none⟩ k cap rfl (by rw [List.length_take, HN.out]; omega) (HR8.out.cells0 k) (by simp; omega) (by simp; omega) ?_; intro g8 n8 cap8 w8 hn8 r8 h8; have HN8 := hid hn8; clear hn8; clear tok1)
        | (at_builtin; go_loud (refine appM rfl _ _ rfl W0.heap.size (.slice (some ⟨g8, 0, none⟩) n8 cap8) ([] ++ L.take k) ([(m0, m1, m2, m3)] ++ L.drop k) rfl r8 (by simp) ⟨g7, 0, none⟩ n7 cap7 rfl (by rw [HN7.out, List.length_append]) (fun j u hj => (RdA.grownB (RdA.of (by have := HQ8.out; unfold RowM at this; rwa [HN7.out, ← List.length_append] at this)) h8 (by simp [Value.ownBlock]; omega)).cells0 ([(m0, m1, m2, m3)] ++ L.drop k).length j u (by rw [List.take_length]; exact hj)) (by simp [HN.out]; omega) (by have h8s := h8.size; simp at h8s; omega) ?_; intro g9 n9 cap9 w9 hn9 r9 h9; have HN9 := hid hn9; clear hn9)))
      all_goals
        go_ret
        refine ⟨k, g9, n9, cap9, rfl, HT.out, RowM.base (by simpa using r9) hUs, ?_⟩
        have B8 := HU8.out.grown h8 HU8.out.size (fun q e => by simp [Value.ownBlock] at e; omega)
        exact B8.grown h9 B8.size (fun q e => by have := (r8.lt q e).1; omega)

end Go.Proofs.Ytikmjefbjejbkaa
