/- Several texts in one: XKB, XRo. -/
import Derived.Test.YtambbhldhhlfgaaDoorFkZ4
import Derived.Deep.RegionHeld3
import Derived.Deep.DeepCutAuto
import Derived.Test.YtambbhldhhlfgaaDoorFkZ12
import Derived.Test.YtambbhldhhlfgaaDoorFkZ8

/- Lists of rows of integers: comparisons, marks, what they hold. -/
namespace Go.Proofs.YtambbhldhhlfgaaDoor
open Go.RowKit

/-- Block k alone may have turned. -/
def KB (k : Nat) (w w' : World) : Prop := w'.os = w.os ∧ w'.tape = w.tape ∧ w'.output = w.output ∧ w.heap.size ≤ w'.heap.size ∧ ∀ j, j < w.heap.size → j ≠ k → w'.heap[j]? = w.heap[j]?
theorem KB.refl (k : Nat) (w : World) : KB k w w := ⟨rfl, rfl, rfl, Nat.le_refl _, fun _ _ _ => rfl⟩
theorem KB.set {k : Nat} {w w' : World} (h : KB k w w') (i : Nat) (v : Value) : KB k w (w'.setCell ⟨k, i, none⟩ v) :=
  ⟨h.1, h.2.1, h.2.2.1, by rw [World.size_setCell]; exact h.2.2.2.1, fun j hj hne => (Go.Deep.blk_setCell_other _ _ _ _ hne).trans (h.2.2.2.2 j hj hne)⟩
theorem KB.below {k B : Nat} {w w' : World} (h : KB k w w') (hB : B ≤ k) (hk : k < w.heap.size) : Below B w w' :=
  ⟨h.1, h.2.1, h.2.2.1, h.2.2.2.1, fun j hj => h.2.2.2.2 j (by omega) (by omega)⟩
theorem KB.cell {k : Nat} {w w' : World} (h : KB k w w') {j i : Nat} (hj : j < w.heap.size) (hne : j ≠ k) : w'.cell? ⟨j, i, none⟩ = w.cell? ⟨j, i, none⟩ := World.cell?_of_block (a := ⟨j, i, none⟩) (h.2.2.2.2 j hj hne)
theorem KB.frozen {k : Nat} {w w' : World} (h : KB k w w') {j i : Nat} (hj : j < w.heap.size) (hne : j ≠ k) : w'.frozen? ⟨j, i, none⟩ = w.frozen? ⟨j, i, none⟩ := World.frozen?_of_block (a := ⟨j, i, none⟩) (h.2.2.2.2 j hj hne)
theorem KB.arr3 {k : Nat} {w w' : World} (h : KB k w w') {j : Nat} {a b c : Int} (hA : Arr3 w j a b c) (hne : j ≠ k) : Arr3 w' j a b c :=
  ⟨Nat.lt_of_lt_of_le hA.lt h.2.2.2.1, (h.cell hA.lt hne).trans hA.c0, (h.cell hA.lt hne).trans hA.c1, (h.cell hA.lt hne).trans hA.c2, (h.frozen hA.lt hne).trans hA.f0, (h.frozen hA.lt hne).trans hA.f1, (h.frozen hA.lt hne).trans hA.f2⟩





/-- A list of n rows of s integers; all blocks from B on, below C. -/
def RowsC (B C : Nat) (w : World) (v : Value) (s n : Nat) (G : Nat → Nat → Int) (T : Nat → Nat) : Prop :=
  ∃ a cap, v = .slice a n cap ∧ n ≤ cap ∧ cap ≤ maxLen ∧ C ≤ w.heap.size ∧ (0 < n → ∃ g, a = some ⟨g, 0, none⟩ ∧ B ≤ g ∧ g < C ∧ ∀ i, i < n → w.cell? ⟨g, i, none⟩ = some (.slice (some ⟨T i, 0, none⟩) s s) ∧ T i ≠ g) ∧
    (∀ i, i < n → B ≤ T i ∧ T i < C ∧ Cl w (T i) s (G i)) ∧ ∀ i j, i < j → j < n → T i < T j
theorem Cl.belowC {w w' : World} {k len C : Nat} {g : Nat → Int} (h : Cl w k len g) (hb : Below C w w') (hk : k < C) : Cl w' k len g :=
  ⟨Nat.lt_of_lt_of_le h.1 hb.size, fun i hi => ⟨(hb.cell (p := ⟨k, i, none⟩) hk).trans (h.2 i hi).1, (hb.frozen (p := ⟨k, i, none⟩) hk).trans (h.2 i hi).2⟩⟩
theorem Cl.kb {w w' : World} {k j len : Nat} {g : Nat → Int} (h : Cl w j len g) (hk : KB k w w') (hne : j ≠ k) : Cl w' j len g :=
  ⟨Nat.lt_of_lt_of_le h.1 hk.2.2.2.1, fun i hi => ⟨(hk.cell h.1 hne).trans (h.2 i hi).1, (hk.frozen h.1 hne).trans (h.2 i hi).2⟩⟩
theorem Cl.rd {w : World} {k len : Nat} {g : Nat → Int} (h : Cl w k len g) (hl : len ≤ maxLen) : Rd w (.slice (some ⟨k, 0, none⟩) len len) len g :=
  .inr ⟨k, len, rfl, Nat.le_refl _, hl, h.1, fun i hi => (h.2 i hi).1⟩
theorem RowsC.below {B C C' : Nat} {w w' : World} {v : Value} {s n : Nat} {G : Nat → Nat → Int} {T : Nat → Nat} (h : RowsC B C w v s n G T) (hb : Below C' w w') (hC : C ≤ C') : RowsC B C w' v s n G T := by
  obtain ⟨a, cap, h1, h2, h3, h4, h5, h6, h7⟩ := h
  refine ⟨a, cap, h1, h2, h3, Nat.le_trans h4 hb.size, fun hn => ?_, fun i hi => ⟨(h6 i hi).1, (h6 i hi).2.1, (h6 i hi).2.2.belowC hb (by have := (h6 i hi).2.1; omega)⟩, h7⟩
  obtain ⟨g, g1, g2, g3, g4⟩ := h5 hn
  exact ⟨g, g1, g2, g3, fun i hi => ⟨(hb.cell (p := ⟨g, i, none⟩) (by show g < C'; omega)).trans (g4 i hi).1, (g4 i hi).2⟩⟩
theorem RowsC.next {B C : Nat} {w w' : World} {v : Value} {s n : Nat} {G : Nat → Nat → Int} {T : Nat → Nat} (h : RowsC B C w v s n G T) (hb : Below w.heap.size w w') : RowsC B C w' v s n G T :=
  h.below hb (by obtain ⟨a, cap, h1, h2, h3, h4, _⟩ := h; exact h4)
theorem RowsC.up {B C C' : Nat} {w : World} {v : Value} {s n : Nat} {G : Nat → Nat → Int} {T : Nat → Nat} (h : RowsC B C w v s n G T) (hC : C ≤ C') (hw : C' ≤ w.heap.size) : RowsC B C' w v s n G T := by
  obtain ⟨a, cap, h1, h2, h3, h4, h5, h6, h7⟩ := h
  refine ⟨a, cap, h1, h2, h3, hw, fun hn => ?_, fun i hi => ⟨(h6 i hi).1, by have := (h6 i hi).2.1; omega, (h6 i hi).2.2⟩, h7⟩
  obtain ⟨g, g1, g2, g3, g4⟩ := h5 hn
  exact ⟨g, g1, g2, by omega, g4⟩
theorem RowsC.base {B B' C : Nat} {w : World} {v : Value} {s n : Nat} {G : Nat → Nat → Int} {T : Nat → Nat} (h : RowsC B C w v s n G T) (hB : B' ≤ B) : RowsC B' C w v s n G T := by
  obtain ⟨a, cap, h1, h2, h3, h4, h5, h6, h7⟩ := h
  refine ⟨a, cap, h1, h2, h3, h4, fun hn => ?_, fun i hi => ⟨by have := (h6 i hi).1; omega, (h6 i hi).2⟩, h7⟩
  obtain ⟨g, g1, g2, g3, g4⟩ := h5 hn
  exact ⟨g, g1, by omega, g3, g4⟩












end Go.Proofs.YtambbhldhhlfgaaDoor

/- Chapter 5: the model's roots modulo a prime. -/
namespace Go.Proofs.YtambbhldhhlfgaaDoor
open Go.RowKit

set_option maxRecDepth 100000 in
set_option maxHeartbeats 2000000 in
theorem l05Root_0 (a b c d p : Int) (w : World) (h2 : 2 ≤ p) (h97 : p ≤ 499) (ha : -1000 ≤ a ∧ a ≤ 1000) (hb : -1000 ≤ b ∧ b ≤ 1000) (hc : -1000 ≤ c ∧ c ≤ 1000) (hd : -1000 ≤ d ∧ d ≤ 1000) :
    Calls Tryd.prog 182 #[.agg #[.int .i64 a, .int .i64 b, .int .i64 c, .int .i64 d], .int .i64 p, .int .i64 1, .int .i64 0] w fun e w' => e = .returned (.int .i64 (((mmu p a b c d 1 0 : Nat) : Int))) ∧ Below w.heap.size w w' := by
  obtain ⟨e1, e2, e3⟩ := chg0 ha hb hc hd
  have hs := fun W => sChange0_any a b c d 0 1 1 0 W
  rw [e1, e2, e3] at hs
  have HM := hid (show mmu p a b c d 1 0 = mm3 p c b a by simp [mmu])
  generalize mmu p a b c d 1 0 = M at HM ⊢
  obtain ⟨u, hu⟩ : ∃ u, u = c := ⟨_, rfl⟩
  obtain ⟨v, hv⟩ : ∃ v, v = b := ⟨_, rfl⟩
  obtain ⟨t, ht⟩ : ∃ t, t = a := ⟨_, rfl⟩
  rw [← hu, ← hv, ← ht] at HM
  generalize wrap64 (cA a b c d 0 1) = z at hs
  have hs' : ∀ W, Calls Tryd.prog 135 #[.agg #[.int .i64 a, .int .i64 b, .int .i64 c, .int .i64 d], .agg #[.int .i64 0, .int .i64 1, .int .i64 1, .int .i64 0]] W fun e w' => e = .returned (.agg #[.int .i64 z, .int .i64 u, .int .i64 v, .int .i64 t]) ∧ Below W.heap.size W w' := by rw [hu, hv, ht]; exact hs
  clear hs
  have hs := hs'
  clear hs' hu hv ht
  have HS := hid hs
  clear hs e1 e2 e3 ha hb hc hd
  obtain ⟨u1, u2⟩ := tmod_499 u p (by omega) h97
  obtain ⟨v1, v2⟩ := tmod_499 v p (by omega) h97
  obtain ⟨t1, t2⟩ := tmod_499 t p (by omega) h97
  have F0 := (Bx.new w #[.int .i64 a, .int .i64 b, .int .i64 c, .int .i64 d] 25).alloc (.cells #[.int .i64 0, .int .i64 1, .int .i64 1, .int .i64 0] 64)
  have U0 := gr_alloc (gr_alloc (Below.refl w.heap.size w) (.cells #[.int .i64 a, .int .i64 b, .int .i64 c, .int .i64 d] 25)) (.cells #[.int .i64 0, .int .i64 1, .int .i64 1, .int .i64 0] 64)
  go_enter Tryd.func182, Tryd.ntmps182
  go_wp2_with fail
  refine (HS.out _).mono ?_
  rintro e w1 ⟨rfl, hb1⟩
  have U1 := gr_trans U0 hb1
  clear F0 U0
  cases h3 : (t.tmod p == 0) with
  | false =>
    have H := hid (mmF3 (u := u) (v := v) h3)
    go_wp2_with fail
    go_ret
    rw [HM.out, H.out]
    exact ⟨rfl, gr_alloc U1 _⟩
  | true =>
    cases h4 : (v.tmod p == 0) with
    | false =>
      have H := hid (mmF2 (u := u) h3 h4)
      go_wp2_with fail
      go_ret
      rw [HM.out, H.out]
      exact ⟨rfl, gr_alloc U1 _⟩
    | true =>
      cases h5 : (u.tmod p == 0) with
      | false =>
        have H := hid (mmF1 h3 h4 h5)
        go_wp2_with fail
        go_ret
        rw [HM.out, H.out]
        exact ⟨rfl, gr_alloc U1 _⟩
      | true =>
        have H := hid (mmF0 h3 h4 h5)
        go_wp2_with fail
        go_ret
        rw [HM.out, H.out]
        exact ⟨rfl, gr_alloc U1 _⟩


/-- The cells of a row of integers. -/
def cI (r : List Int) : Array Value := (r.map (Value.int .i64)).toArray
/-- A list of rows in the making: R's rows, each in a block of its own (T's), all laid from B on. -/
structure Rwb (B : Nat) (w : World) (v : Value) (s : Nat) (R : List (List Int)) (T : List Nat) : Prop where
  own : w.ownsRow B 32 1 v R.length (T.map fun t => Value.slice (some ⟨t, 0, none⟩) s s)
  len : T.length = R.length
  row : ∀ i, i < R.length → Bx w (T.getD i 0) (cI (R.getD i [])) 2
  bas : ∀ t ∈ T, B ≤ t ∧ t < w.heap.size
  srt : T.Pairwise (· < ·)
  wid : ∀ r ∈ R, r.length = s
def RwX (B : Nat) (w : World) (v : Value) (s : Nat) (R : List (List Int)) : Prop := ∃ T, Rwb B w v s R T
theorem RwX.nil (B : Nat) (w : World) (s : Nat) : RwX B w (.slice none 0 0) s [] := ⟨[], World.ownsRow_nil _ _ _ _, rfl, fun i hi => by simp at hi, fun t ht => by simp at ht, List.Pairwise.nil, fun r hr => by simp at hr⟩
theorem RwX.empty (B : Nat) (w : World) (s : Nat) (hB : B ≤ w.heap.size) : RwX B (w.alloc (.cells #[] 32)) (.slice (some ⟨w.heap.size, 0, none⟩) 0 0) s [] := ⟨[], owns_empty w B _ 1 hB, rfl, fun i hi => by simp at hi, fun t ht => by simp at ht, List.Pairwise.nil, fun r hr => by simp at hr⟩
theorem Rwb.next {B : Nat} {w w' : World} {v : Value} {s : Nat} {R : List (List Int)} {T : List Nat} (h : Rwb B w v s R T) (hb : Below w.heap.size w w') : Rwb B w' v s R T :=
  ⟨owns_next h.own hb, h.len, fun i hi => (h.row i hi).next hb, fun t ht => ⟨(h.bas t ht).1, Nat.lt_of_lt_of_le (h.bas t ht).2 hb.size⟩, h.srt, h.wid⟩
theorem RwX.next {B : Nat} {w w' : World} {v : Value} {s : Nat} {R : List (List Int)} (h : RwX B w v s R) (hb : Below w.heap.size w w') : RwX B w' v s R := h.elim fun T h => ⟨T, h.next hb⟩
theorem RwX.base {B B' : Nat} {w : World} {v : Value} {s : Nat} {R : List (List Int)} (h : RwX B w v s R) (hB : B' ≤ B) : RwX B' w v s R := h.elim fun T h => ⟨T, owns_mono h.own hB, h.len, h.row, fun t ht => ⟨by have := (h.bas t ht).1; omega, (h.bas t ht).2⟩, h.srt, h.wid⟩
theorem Rwb.app {B : Nat} {w w' : World} {v v' : Value} {s : Nat} {R : List (List Int)} {T : List Nat} (h : Rwb B w v s R T) {r : List Int} (hr : r.length = s) (hB : B ≤ w.heap.size) {o : Obj}
    (hg : ((w.alloc (.cells (cI r) 2)).alloc o).grownBy w' v.ownBlock) (hO : w'.ownsRow B 32 1 v' (R.length + 1) ((T.map fun t => Value.slice (some ⟨t, 0, none⟩) s s) ++ [.slice (some ⟨w.heap.size, 0, none⟩) s s])) : Rwb B w' v' s (R ++ [r]) (T ++ [w.heap.size]) := by
  have ho : ∀ W, W = (w.alloc (.cells (cI r) 2)).alloc o → W.ownsRow B 32 1 v R.length (T.map fun t => Value.slice (some ⟨t, 0, none⟩) s s) := fun W e => by subst e; exact (h.own.alloc _).alloc _
  have keep : ∀ {k : Nat} {xs : Array Value}, Bx ((w.alloc (.cells (cI r) 2)).alloc o) k xs 2 → Bx w' k xs 2 := fun hb => hb.grown hg (hb.own (ho _ rfl) (by decide))
  have hsz := hg.size
  simp only [World.size_alloc] at hsz
  refine ⟨by simpa using hO, by simp [h.len], fun i hi => ?_, fun t ht => ?_, ?_, fun x hx => ?_⟩
  · rw [List.length_append, List.length_singleton] at hi
    by_cases e : i < R.length
    · have := keep (((h.row i e).alloc _).alloc o)
      rw [show (T ++ [w.heap.size]).getD i 0 = T.getD i 0 by simp [List.getD, List.getElem?_append_left (show i < T.length by rw [h.len]; exact e)], show (R ++ [r]).getD i [] = R.getD i [] by simp [List.getD, List.getElem?_append_left e]]
      exact this
    · have e' : i = R.length := by omega
      subst e'
      have := keep ((Bx.new w (cI r) 2).alloc o)
      rw [show (T ++ [w.heap.size]).getD R.length 0 = w.heap.size by rw [← h.len]; simp [List.getD], show (R ++ [r]).getD R.length [] = r by simp [List.getD]]
      exact this
  · rcases List.mem_append.1 ht with ht | ht
    · have := h.bas t ht; omega
    · simp at ht; subst ht; omega
  · rw [List.pairwise_append]
    exact ⟨h.srt, by simp, fun a ha b hb => by simp at hb; subst hb; exact (h.bas a ha).2⟩
  · rcases List.mem_append.1 hx with hx | hx
    · exact h.wid x hx
    · simp at hx; subst hx; exact hr
theorem cI_get (r : List Int) (j : Nat) (h : j < r.length) : (cI r)[j]? = some (.int .i64 (r.getD j 0)) := by simp [cI, List.getD, h]
theorem getD_mem {α : Type} (L : List α) (i : Nat) (d : α) (h : i < L.length) : L.getD i d ∈ L := by simp [List.getD, h]
theorem RwX.toC {B : Nat} {w : World} {v : Value} {s : Nat} {R : List (List Int)} (h : RwX B w v s R) : ∃ T, RowsC B w.heap.size w v s R.length (fun i j => (R.getD i []).getD j 0) T := by
  obtain ⟨T, h⟩ := h
  refine ⟨fun i => T.getD i 0, ?_⟩
  obtain ⟨a, cap, rfl, hcm, hnc, hcell⟩ := owns_form h.own
  refine ⟨a, cap, rfl, hnc, hcm, Nat.le_refl _, fun hn => ?_, fun i hi => ?_, fun i j hij hj => ?_⟩
  · obtain ⟨g, rfl, hg, hc⟩ := hcell hn
    refine ⟨g, rfl, (h.own.lt g rfl).1, hg, fun i hi => ⟨hc i _ ?_, ?_⟩⟩
    · have hi' : i < T.length := by rw [h.len]; exact hi
      simp [List.getD, hi']
    · exact fun e => (h.row i hi).own h.own (by decide) g rfl e.symm
  · have hb := h.bas _ (getD_mem T i 0 (by rw [h.len]; exact hi))
    have hw := h.wid _ (getD_mem R i [] hi)
    have hr := h.row i hi
    refine ⟨hb.1, hb.2, hb.2, fun j hj => ⟨?_, hr.frozen j⟩⟩
    rw [hr.cell]
    exact cI_get _ _ (by omega)
  · have hj' : j < T.length := by rw [h.len]; exact hj
    have := List.pairwise_iff_getElem.1 h.srt i j (by omega) hj' hij
    simpa [List.getD, hj', show i < T.length by omega] using this


end Go.Proofs.YtambbhldhhlfgaaDoor
