/- Chapter 5: the model's roots modulo a prime. -/
import Derived.Test.YtdogkkmdccieiaaDoorRn
import Derived.Test.YtdogkkmdccieiaaDoorKB
import Derived.Test.YtdogkkmdccieiaaDoorDr
namespace Go.Proofs.YtdogkkmdccieiaaDoor
open Go.RowKit




/-- The cells of a row of integers. -/
def cI (r : List Int) : Array Value := (r.map (Value.int .i64)).toArray
/-- A list of rows in the making: R's rows, each in a block of its own (T's), all laid from B on. -/
structure Rwb (B : Nat) (w : World) (v : Value) (s : Nat) (R : List (List Int)) (T : List Nat) : Prop where
  own : w.ownsRow B 44 1 v R.length (T.map fun t => Value.slice (some ⟨t, 0, none⟩) s s)
  len : T.length = R.length
  row : ∀ i, i < R.length → Bx w (T.getD i 0) (cI (R.getD i [])) 2
  bas : ∀ t ∈ T, B ≤ t ∧ t < w.heap.size
  srt : T.Pairwise (· < ·)
  wid : ∀ r ∈ R, r.length = s
def RwX (B : Nat) (w : World) (v : Value) (s : Nat) (R : List (List Int)) : Prop := ∃ T, Rwb B w v s R T
theorem RwX.nil (B : Nat) (w : World) (s : Nat) : RwX B w (.slice none 0 0) s [] := ⟨[], World.ownsRow_nil _ _ _ _, rfl, fun i hi => by simp at hi, fun t ht => by simp at ht, List.Pairwise.nil, fun r hr => by simp at hr⟩
theorem RwX.empty (B : Nat) (w : World) (s : Nat) (hB : B ≤ w.heap.size) : RwX B (w.alloc (.cells #[] 44)) (.slice (some ⟨w.heap.size, 0, none⟩) 0 0) s [] := ⟨[], owns_empty w B _ 1 hB, rfl, fun i hi => by simp at hi, fun t ht => by simp at ht, List.Pairwise.nil, fun r hr => by simp at hr⟩
theorem Rwb.next {B : Nat} {w w' : World} {v : Value} {s : Nat} {R : List (List Int)} {T : List Nat} (h : Rwb B w v s R T) (hb : Below w.heap.size w w') : Rwb B w' v s R T :=
  ⟨owns_next h.own hb, h.len, fun i hi => (h.row i hi).next hb, fun t ht => ⟨(h.bas t ht).1, Nat.lt_of_lt_of_le (h.bas t ht).2 hb.size⟩, h.srt, h.wid⟩
theorem RwX.next {B : Nat} {w w' : World} {v : Value} {s : Nat} {R : List (List Int)} (h : RwX B w v s R) (hb : Below w.heap.size w w') : RwX B w' v s R := h.elim fun T h => ⟨T, h.next hb⟩
theorem RwX.base {B B' : Nat} {w : World} {v : Value} {s : Nat} {R : List (List Int)} (h : RwX B w v s R) (hB : B' ≤ B) : RwX B' w v s R := h.elim fun T h => ⟨T, owns_mono h.own hB, h.len, h.row, fun t ht => ⟨by have := (h.bas t ht).1; omega, (h.bas t ht).2⟩, h.srt, h.wid⟩
theorem Rwb.app {B : Nat} {w w' : World} {v v' : Value} {s : Nat} {R : List (List Int)} {T : List Nat} (h : Rwb B w v s R T) {r : List Int} (hr : r.length = s) (hB : B ≤ w.heap.size) {o : Obj}
    (hg : ((w.alloc (.cells (cI r) 2)).alloc o).grownBy w' v.ownBlock) (hO : w'.ownsRow B 44 1 v' (R.length + 1) ((T.map fun t => Value.slice (some ⟨t, 0, none⟩) s s) ++ [.slice (some ⟨w.heap.size, 0, none⟩) s s])) : Rwb B w' v' s (R ++ [r]) (T ++ [w.heap.size]) := by
  have ho : ∀ W, W = (w.alloc (.cells (cI r) 2)).alloc o → W.ownsRow B 44 1 v R.length (T.map fun t => Value.slice (some ⟨t, 0, none⟩) s s) := fun W e => by subst e; exact (h.own.alloc _).alloc _
  have keep : ∀ {k : Nat} {xs : Array Value}, Bx ((w.alloc (.cells (cI r) 2)).alloc o) k xs 2 → Bx w' k xs 2 := fun hb => hb.grown hg (hb.own (ho _ rfl) (by decide))
  have hsz := hg.size
  simp only [World.size_alloc] at hsz
  refine ⟨by simpa using hO, by simp [h.len], fun i hi => ?_, fun t ht => ?_, ?_, fun x hx => ?_⟩
  · rw [List.length_append, List.length_singleton] at hi
    by_cases e : i < R.length
    · have := keep (((h.row i e).alloc _).alloc o)
      rw [show (T ++ [w.heap.size]).getD i 0 = T.getD i 0 by simp [List.getD, List.getElem?_append_left (show i < T.length by rw [h.len]; exact e)], show (R ++ [r]).getD i [] = R.getD i [] by simp [List.getD, List.getElem?_append_left e]]
      exact this
    · have e' : i = R.length := by omega
      subst e'
      have := keep ((Bx.new w (cI r) 2).alloc o)
      rw [show (T ++ [w.heap.size]).getD R.length 0 = w.heap.size by rw [← h.len]; simp [List.getD], show (R ++ [r]).getD R.length [] = r by simp [List.getD]]
      exact this
  · rcases List.mem_append.1 ht with ht | ht
    · have := h.bas t ht; omega
    · simp at ht; subst ht; omega
  · rw [List.pairwise_append]
    exact ⟨h.srt, by simp, fun a ha b hb => by simp at hb; subst hb; exact (h.bas a ha).2⟩
  · rcases List.mem_append.1 hx with hx | hx
    · exact h.wid x hx
    · simp at hx; subst hx; exact hr
theorem cI_get (r : List Int) (j : Nat) (h : j < r.length) : (cI r)[j]? = some (.int .i64 (r.getD j 0)) := by simp [cI, List.getD, h]
theorem getD_mem {α : Type} (L : List α) (i : Nat) (d : α) (h : i < L.length) : L.getD i d ∈ L := by simp [List.getD, h]
theorem RwX.toC {B : Nat} {w : World} {v : Value} {s : Nat} {R : List (List Int)} (h : RwX B w v s R) : ∃ T, RowsC B w.heap.size w v s R.length (fun i j => (R.getD i []).getD j 0) T := by
  obtain ⟨T, h⟩ := h
  refine ⟨fun i => T.getD i 0, ?_⟩
  obtain ⟨a, cap, rfl, hcm, hnc, hcell⟩ := owns_form h.own
  refine ⟨a, cap, rfl, hnc, hcm, Nat.le_refl _, fun hn => ?_, fun i hi => ?_, fun i j hij hj => ?_⟩
  · obtain ⟨g, rfl, hg, hc⟩ := hcell hn
    refine ⟨g, rfl, (h.own.lt g rfl).1, hg, fun i hi => ⟨hc i _ ?_, ?_⟩⟩
    · have hi' : i < T.length := by rw [h.len]; exact hi
      simp [List.getD, hi']
    · exact fun e => (h.row i hi).own h.own (by decide) g rfl e.symm
  · have hb := h.bas _ (getD_mem T i 0 (by rw [h.len]; exact hi))
    have hw := h.wid _ (getD_mem R i [] hi)
    have hr := h.row i hi
    refine ⟨hb.1, hb.2, hb.2, fun j hj => ⟨?_, hr.frozen j⟩⟩
    rw [hr.cell]
    exact cI_get _ _ (by omega)
  · have hj' : j < T.length := by rw [h.len]; exact hj
    have := List.pairwise_iff_getElem.1 h.srt i j (by omega) hj' hij
    simpa [List.getD, hj', show i < T.length by omega] using this


end Go.Proofs.YtdogkkmdccieiaaDoor
