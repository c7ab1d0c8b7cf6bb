/- Several texts in one: XElS, XE14. -/
import Derived.Test.YtdogkkmdccieiaaDoorZ3
import Derived.Test.YtdogkkmdccieiaaDoorZ12
import Derived.Test.YtdogkkmdccieiaaDoorZ4
import Derived.Deep.RegionHeld3
import Derived.Deep.DeepCutAuto
import Derived.Test.YtdogkkmdccieiaaDoorZ5
import Derived.Test.YtdogkkmdccieiaaDoorZ6

/- Lists of elements: copies, comparisons, marks. -/
namespace Go.Proofs.YtdogkkmdccieiaaDoor
open Go.RowKit

/-- A slice of n elements, their numbers g 0, .., g (3 n - 1). -/
def RdW (w : World) (v : Value) (n : Nat) (g : Nat → Int) : Prop :=
  (v = .slice none 0 0 ∧ n = 0) ∨ ∃ b cap, v = .slice (some ⟨b, 0, none⟩) n cap ∧ n ≤ cap ∧ cap ≤ maxLen ∧ b < w.heap.size ∧ ∀ i, i < 3 * n → w.cell? ⟨b, i, none⟩ = some (.int .i64 (g i))

/-- Three numbers in block b from offset o on. -/
structure At3 (w : World) (b o : Nat) (x y z : Int) : Prop where
  lt : b < w.heap.size
  c0 : w.cell? ⟨b, o, none⟩ = some (.int .i64 x)
  c1 : w.cell? ⟨b, o + 1, none⟩ = some (.int .i64 y)
  c2 : w.cell? ⟨b, o + 2, none⟩ = some (.int .i64 z)
theorem At3.next {w w' : World} {b o : Nat} {x y z : Int} (h : At3 w b o x y z) {B : Nat} (hb : Below B w w') (hB : b < B) : At3 w' b o x y z :=
  ⟨Nat.lt_of_lt_of_le h.lt hb.size, (hb.cell (p := ⟨b, o, none⟩) hB).trans h.c0, (hb.cell (p := ⟨b, o + 1, none⟩) hB).trans h.c1, (hb.cell (p := ⟨b, o + 2, none⟩) hB).trans h.c2⟩
theorem At3.drew {w : World} {b o : Nat} {x y z : Int} (h : At3 w b o x y z) : At3 w.drew b o x y z := h.next (gr_drew (Below.refl _ w)) h.lt
theorem At3.drewN {w : World} {b o : Nat} {x y z : Int} (h : At3 w b o x y z) (n : Nat) : At3 (w.drewN n) b o x y z := h.next (gr_drewN (Below.refl _ w) n) h.lt
theorem At3.alloc {w : World} {b o : Nat} {x y z : Int} (h : At3 w b o x y z) (ob : Obj) : At3 (w.alloc ob) b o x y z := h.next (gr_alloc (Below.refl _ w) ob) h.lt
theorem RdW.at3 {w : World} {b n : Nat} {g : Nat → Int} (hb : b < w.heap.size) (h : ∀ i, i < 3 * n → w.cell? ⟨b, i, none⟩ = some (.int .i64 (g i))) {k : Nat} (hk : k < n) : At3 w b (k * 3) (g (k * 3)) (g (k * 3 + 1)) (g (k * 3 + 2)) :=
  ⟨hb, h _ (by omega), h _ (by omega), h _ (by omega)⟩
theorem cellsAt2 {W : World} {b o b' o' : Nat} {x y z x' y' z' : Int} (K : At3 W b o x y z) (L : At3 W b' o' x' y' z') :
    W.cell? ⟨b, o, none⟩ = some (.int .i64 x) ∧ W.cell? ⟨b, o + 1, none⟩ = some (.int .i64 y) ∧ W.cell? ⟨b, o + 2, none⟩ = some (.int .i64 z) ∧ W.cell? ⟨b', o', none⟩ = some (.int .i64 x') ∧ W.cell? ⟨b', o' + 1, none⟩ = some (.int .i64 y') ∧ W.cell? ⟨b', o' + 2, none⟩ = some (.int .i64 z') := ⟨K.c0, K.c1, K.c2, L.c0, L.c1, L.c2⟩



/-- A slice of n elements that lies in a block of its own, from B on; or nil. -/
def OwnW (B : Nat) (w : World) (v : Value) (n : Nat) (g : Nat → Int) : Prop :=
  (v = .slice none 0 0 ∧ n = 0) ∨ ∃ k cap, v = .slice (some ⟨k, 0, none⟩) n cap ∧ B ≤ k ∧ n ≤ cap ∧ cap ≤ maxLen ∧ Cl w k (3 * n) g
/-- A slice of n elements in a block below B; or nil. -/
def RdBW (B : Nat) (w : World) (v : Value) (n : Nat) (g : Nat → Int) : Prop :=
  (v = .slice none 0 0 ∧ n = 0) ∨ ∃ b cap, v = .slice (some ⟨b, 0, none⟩) n cap ∧ n ≤ cap ∧ cap ≤ maxLen ∧ b < B ∧ ∀ i, i < 3 * n → w.cell? ⟨b, i, none⟩ = some (.int .i64 (g i))
theorem RdBW.rd {B : Nat} {w : World} {v : Value} {n : Nat} {g : Nat → Int} (h : RdBW B w v n g) (hB : B ≤ w.heap.size) : RdW w v n g := by
  rcases h with h | ⟨b, cap, h1, h2, h3, h4, h5⟩
  · exact .inl h
  · exact .inr ⟨b, cap, h1, h2, h3, by omega, h5⟩
theorem RdBW.below {B : Nat} {w w' : World} {v : Value} {n : Nat} {g : Nat → Int} (h : RdBW B w v n g) {C : Nat} (hb : Below C w w') (hC : B ≤ C) : RdBW B w' v n g := by
  rcases h with h | ⟨b, cap, h1, h2, h3, h4, h5⟩
  · exact .inl h
  · exact .inr ⟨b, cap, h1, h2, h3, h4, fun i hi => (hb.cell (p := ⟨b, i, none⟩) (by show b < C; omega)).trans (h5 i hi)⟩
theorem OwnW.rdB {B : Nat} {w : World} {v : Value} {n : Nat} {g : Nat → Int} (h : OwnW B w v n g) : RdBW w.heap.size w v n g := by
  rcases h with h | ⟨b, cap, h1, _, h2, h3, h5⟩
  · exact .inl h
  · exact .inr ⟨b, cap, h1, h2, h3, h5.1, fun i hi => (h5.2 i hi).1⟩
theorem OwnW.rd {B : Nat} {w : World} {v : Value} {n : Nat} {g : Nat → Int} (h : OwnW B w v n g) : RdW w v n g := h.rdB.rd (Nat.le_refl _)
theorem OwnW.next {B : Nat} {w w' : World} {v : Value} {n : Nat} {g : Nat → Int} (h : OwnW B w v n g) (hb : Below w.heap.size w w') : OwnW B w' v n g := by
  rcases h with h | ⟨b, cap, h1, h6, h2, h3, h5⟩
  · exact .inl h
  · exact .inr ⟨b, cap, h1, h6, h2, h3, h5.below hb⟩
theorem OwnW.base {B B' : Nat} {w : World} {v : Value} {n : Nat} {g : Nat → Int} (h : OwnW B w v n g) (hB : B' ≤ B) : OwnW B' w v n g := by
  rcases h with h | ⟨b, cap, h1, h6, h2, h3, h5⟩
  · exact .inl h
  · exact .inr ⟨b, cap, h1, by omega, h2, h3, h5⟩
def g9 (p0 p1 p2 p3 p4 p5 p6 p7 p8 : Int) (i : Nat) : Int := [p0, p1, p2, p3, p4, p5, p6, p7, p8].getD i 0
theorem OwnW.bx {B : Nat} {w : World} {k : Nat} {p0 p1 p2 p3 p4 p5 p6 p7 p8 : Int} {T : TypeId} (h : Bx w k #[.int .i64 p0, .int .i64 p1, .int .i64 p2, .int .i64 p3, .int .i64 p4, .int .i64 p5, .int .i64 p6, .int .i64 p7, .int .i64 p8] T) (hB : B ≤ k) : OwnW B w (.slice (some ⟨k, 0, none⟩) 3 3) 3 (g9 p0 p1 p2 p3 p4 p5 p6 p7 p8) := by
  refine .inr ⟨k, 3, rfl, hB, Nat.le_refl _, by decide, h.lt, fun i hi => ⟨?_, h.frozen i⟩⟩
  rw [h.cell i]
  match i, hi with
  | 0, _ => rfl
  | 1, _ => rfl
  | 2, _ => rfl
  | 3, _ => rfl
  | 4, _ => rfl
  | 5, _ => rfl
  | 6, _ => rfl
  | 7, _ => rfl
  | 8, _ => rfl
/-- A list of elements that the call laid, and a code. -/
def ElsOut (code : Int) (n : Nat) (g : Nat → Int) (w : World) (e : Ending) (w' : World) : Prop :=
  ∃ v, e = .returned (.tuple #[v, .int .i64 code]) ∧ OwnW w.heap.size w' v (if code = 0 then n else 0) g ∧ Below w.heap.size w w'





end Go.Proofs.YtdogkkmdccieiaaDoor

/- Chapter 4: TableOfForm. -/
namespace Go.Proofs.YtdogkkmdccieiaaDoor
open Go.RowKit

/-- The code of a table. -/
def toc (a b c d : Int) : Int := if isF a b c d then (if isE (np a c) b (ng a) && isE (np a d) 0 0 && isE (np b d) d (ng c) then 0 else 3) else 1

set_option maxRecDepth 100000 in
set_option maxHeartbeats 2000000 in
theorem sTableOf_any (a b c d : Int) (w : World) :
    Calls Tryd.prog 17 #[.agg #[.int .i64 a, .int .i64 b, .int .i64 c, .int .i64 d]] w (ElsOut (toc a b c d) 3 (g9 (np a c) b (ng a) (np a d) 0 0 (np b d) d (ng c)) w) := by
  have ht := fun W => sTableB_any a b c d W
  have hc := fun W => sCode0_any a b c d W
  have h1 : cif a b c d ≠ 0 → toc a b c d = cif a b c d := fun h => by unfold cif toc at *; split at h <;> simp_all
  have h2 : cif a b c d = 0 → isE (np a c) b (ng a) = false → toc a b c d = 3 := fun h h' => by unfold cif toc at *; split at h <;> simp_all
  have h3 : cif a b c d = 0 → isE (np a d) 0 0 = false → toc a b c d = 3 := fun h h' => by unfold cif toc at *; split at h <;> simp_all
  have h4 : cif a b c d = 0 → isE (np b d) d (ng c) = false → toc a b c d = 3 := fun h h' => by unfold cif toc at *; split at h <;> simp_all
  have h5 : cif a b c d = 0 → isE (np a c) b (ng a) = true → isE (np a d) 0 0 = true → isE (np b d) d (ng c) = true → toc a b c d = 0 := fun h i1 i2 i3 => by unfold cif toc at *; split at h <;> simp_all
  generalize toc a b c d = r at h1 h2 h3 h4 h5 ⊢
  generalize cif a b c d = k at hc h1 h2 h3 h4 h5
  generalize np a c = p0 at ht h2 h5 ⊢
  generalize ng a = p2 at ht h2 h5 ⊢
  generalize np a d = p3 at ht h3 h5 ⊢
  generalize np b d = p6 at ht h4 h5 ⊢
  generalize ng c = p8 at ht h4 h5 ⊢
  have HT := hid ht; have HC := hid hc; have H1 := hid h1; have H2 := hid h2; have H3 := hid h3; have H4 := hid h4; have H5 := hid h5
  clear ht hc h1 h2 h3 h4 h5
  go_enter Tryd.func17, Tryd.ntmps17
  go_wp2_with fail
  refine (HC.out _).mono ?_
  rintro e w1 ⟨rfl, hb1⟩
  have F1 := (Arr.new w a b c d 25).next hb1
  have U1 := gr_trans (gr_alloc (Below.refl w.heap.size w) (.cells #[.int .i64 a, .int .i64 b, .int .i64 c, .int .i64 d] 25)) hb1
  obtain ⟨_, a0, a1, a2, a3, _⟩ := id F1
  by_cases hk : ¬ k = 0
  · have hk' : (k == 0) = false := by simpa using hk
    have HK := hid hk
    clear hk
    go_wp2_with fail
    go_ret2
    rw [H1.out HK.out]
    exact ⟨_, rfl, .inl ⟨rfl, by simp [HK.out]⟩, by (repeat' (first | with_reducible exact Below.refl _ _ | with_reducible assumption | with_reducible refine gr_alloc ?_ _ | with_reducible refine gr_drew ?_ | with_reducible refine gr_drewN ?_ _ | with_reducible refine gr_trans ?_ (by assumption) | with_reducible refine gr_set ?_ ?_ _ | (simp; done) | omega | (simp; omega)))⟩
  have hk0 : k = 0 := by omega
  subst hk0
  clear hk
  have hz1 := U1.size
  go_wp2_with fail
  refine (HT.out _).mono ?_
  rintro e w2 ⟨kk, rfl, hkk, hB, hb2⟩
  have HKK := hid hkk
  clear hkk a0 a1 a2 a3
  obtain ⟨_, c0, c1, c2, c3, c4, c5, c6, c7, c8⟩ := hB.arr9
  go_wp2_with fail
  refine wp_loop_rounds 4 ?_
  rw [rounds_succ]; go_wp2_with fail
  refine (sIsE0_any p0 b p2 _).mono ?_
  rintro e w3 ⟨rfl, hb3⟩
  have hB3 := hB.next hb3
  by_cases i1 : isE p0 b p2 = false
  · go_wp2_with fail
    go_ret2
    rw [H2.out (by first | rfl | trivial) i1]
    exact ⟨_, rfl, .inl ⟨rfl, by simp⟩, by (repeat' (first | with_reducible exact Below.refl _ _ | with_reducible assumption | with_reducible refine gr_alloc ?_ _ | with_reducible refine gr_drew ?_ | with_reducible refine gr_drewN ?_ _ | with_reducible refine gr_trans ?_ (by assumption) | with_reducible refine gr_set ?_ ?_ _ | (simp; done) | omega | (simp; omega)))⟩
  have i1' : isE p0 b p2 = true := by simpa using i1
  clear i1 c0 c1 c2 c3 c4 c5 c6 c7 c8
  obtain ⟨_, c0, c1, c2, c3, c4, c5, c6, c7, c8⟩ := hB3.arr9
  go_wp2_with fail
  rw [rounds_succ]; go_wp2_with fail
  refine (sIsE0_any p3 0 0 _).mono ?_
  rintro e w4 ⟨rfl, hb4⟩
  have hB4 := hB3.next hb4
  by_cases i2 : isE p3 0 0 = false
  · go_wp2_with fail
    go_ret2
    rw [H3.out (by first | rfl | trivial) i2]
    exact ⟨_, rfl, .inl ⟨rfl, by simp⟩, by (repeat' (first | with_reducible exact Below.refl _ _ | with_reducible assumption | with_reducible refine gr_alloc ?_ _ | with_reducible refine gr_drew ?_ | with_reducible refine gr_drewN ?_ _ | with_reducible refine gr_trans ?_ (by assumption) | with_reducible refine gr_set ?_ ?_ _ | (simp; done) | omega | (simp; omega)))⟩
  have i2' : isE p3 0 0 = true := by simpa using i2
  clear i2 c0 c1 c2 c3 c4 c5 c6 c7 c8
  obtain ⟨_, c0, c1, c2, c3, c4, c5, c6, c7, c8⟩ := hB4.arr9
  go_wp2_with fail
  rw [rounds_succ]; go_wp2_with fail
  refine (sIsE0_any p6 d p8 _).mono ?_
  rintro e w5 ⟨rfl, hb5⟩
  have hB5 := hB4.next hb5
  by_cases i3 : isE p6 d p8 = false
  · go_wp2_with fail
    go_ret2
    rw [H4.out (by first | rfl | trivial) i3]
    exact ⟨_, rfl, .inl ⟨rfl, by simp⟩, by (repeat' (first | with_reducible exact Below.refl _ _ | with_reducible assumption | with_reducible refine gr_alloc ?_ _ | with_reducible refine gr_drew ?_ | with_reducible refine gr_drewN ?_ _ | with_reducible refine gr_trans ?_ (by assumption) | with_reducible refine gr_set ?_ ?_ _ | (simp; done) | omega | (simp; omega)))⟩
  have i3' : isE p6 d p8 = true := by simpa using i3
  clear i3 c0 c1 c2 c3 c4 c5 c6 c7 c8
  go_wp2_with fail
  rw [rounds_succ]; go_wp2_with fail
  go_ret2
  rw [H5.out (by first | rfl | trivial) i1' i2' i3']
  exact ⟨_, rfl, OwnW.bx hB5 (by have := HKK.out; omega), by (repeat' (first | with_reducible exact Below.refl _ _ | with_reducible assumption | with_reducible refine gr_alloc ?_ _ | with_reducible refine gr_drew ?_ | with_reducible refine gr_drewN ?_ _ | with_reducible refine gr_trans ?_ (by assumption) | with_reducible refine gr_set ?_ ?_ _ | (simp; done) | omega | (simp; omega)))⟩

set_option maxRecDepth 100000 in
set_option maxHeartbeats 2000000 in
theorem iTableOf_any (a b c d : Int) (w : World) :
    Calls Tryd.prog 16 #[.agg #[.int .i64 a, .int .i64 b, .int .i64 c, .int .i64 d]] w (ElsOut (toc a b c d) 3 (g9 (np a c) b (ng a) (np a d) 0 0 (np b d) d (ng c)) w) := by
  have ht := fun W => iProducts_any a b c d W
  have h1 : isF a b c d = false → toc a b c d = 1 := fun h => by simp [toc, h]
  have h2 : isF a b c d = true → isE (np a c) b (ng a) = false → toc a b c d = 3 := fun h h' => by simp [toc, h, h']
  have h3 : isF a b c d = true → isE (np a d) 0 0 = false → toc a b c d = 3 := fun h h' => by simp [toc, h, h']
  have h4 : isF a b c d = true → isE (np b d) d (ng c) = false → toc a b c d = 3 := fun h h' => by simp [toc, h, h']
  have h5 : isF a b c d = true → isE (np a c) b (ng a) = true → isE (np a d) 0 0 = true → isE (np b d) d (ng c) = true → toc a b c d = 0 := fun h i1 i2 i3 => by simp [toc, h, i1, i2, i3]
  generalize toc a b c d = r at h1 h2 h3 h4 h5 ⊢
  generalize np a c = p0 at ht h2 h5 ⊢
  generalize ng a = p2 at ht h2 h5 ⊢
  generalize np a d = p3 at ht h3 h5 ⊢
  generalize np b d = p6 at ht h4 h5 ⊢
  generalize ng c = p8 at ht h4 h5 ⊢
  have ix0 : ∀ w : World, (Instr.index 73 (.agg #[.int .i64 p0, .int .i64 b, .int .i64 p2, .int .i64 p3, .int .i64 0, .int .i64 0, .int .i64 p6, .int .i64 d, .int .i64 p8]) (.int .i64 0)).run Tryd.prog w = .ok (.agg #[.int .i64 p0, .int .i64 b, .int .i64 p2]) w := fun _ => by kernel_rfl
  have ix1 : ∀ w : World, (Instr.index 73 (.agg #[.int .i64 p0, .int .i64 b, .int .i64 p2, .int .i64 p3, .int .i64 0, .int .i64 0, .int .i64 p6, .int .i64 d, .int .i64 p8]) (.int .i64 1)).run Tryd.prog w = .ok (.agg #[.int .i64 p3, .int .i64 0, .int .i64 0]) w := fun _ => by kernel_rfl
  have ix2 : ∀ w : World, (Instr.index 73 (.agg #[.int .i64 p0, .int .i64 b, .int .i64 p2, .int .i64 p3, .int .i64 0, .int .i64 0, .int .i64 p6, .int .i64 d, .int .i64 p8]) (.int .i64 2)).run Tryd.prog w = .ok (.agg #[.int .i64 p6, .int .i64 d, .int .i64 p8]) w := fun _ => by kernel_rfl
  have HT := hid ht; have H1 := hid h1; have H2 := hid h2; have H3 := hid h3; have H4 := hid h4; have H5 := hid h5
  clear ht h1 h2 h3 h4 h5
  go_enter Tryd.func16, Tryd.ntmps16
  go_wp2_with fail
  refine (iIsForm_any a b c d _).mono ?_
  rintro e w1 ⟨rfl, hb1⟩
  have F1 := (Arr.new w a b c d 25).next hb1
  have U1 := gr_trans (gr_alloc (Below.refl w.heap.size w) (.cells #[.int .i64 a, .int .i64 b, .int .i64 c, .int .i64 d] 25)) hb1
  obtain ⟨_, a0, a1, a2, a3, _⟩ := id F1
  by_cases hm : isF a b c d = false
  · go_wp2_with fail
    go_ret2
    rw [H1.out hm]
    exact ⟨_, rfl, .inl ⟨rfl, by simp⟩, by (repeat' (first | with_reducible exact Below.refl _ _ | with_reducible assumption | with_reducible refine gr_alloc ?_ _ | with_reducible refine gr_drew ?_ | with_reducible refine gr_drewN ?_ _ | with_reducible refine gr_trans ?_ (by assumption) | with_reducible refine gr_set ?_ ?_ _ | (simp; done) | omega | (simp; omega)))⟩
  have hm' : isF a b c d = true := by simpa using hm
  clear hm
  have hz1 := U1.size
  go_wp2_with fail
  refine (HT.out _).mono ?_
  rintro e w2 ⟨rfl, hb2⟩
  have hB := Bx.new w2 #[.int .i64 p0, .int .i64 b, .int .i64 p2, .int .i64 p3, .int .i64 0, .int .i64 0, .int .i64 p6, .int .i64 d, .int .i64 p8] 73
  have hz2 := hb2.size
  clear a0 a1 a2 a3
  go_wp2_with fail
  refine wp_loop_rounds 4 ?_
  rw [rounds_succ]; go_wp2_with fail
  refine (iIsE_any p0 b p2 _).mono ?_
  rintro e w3 ⟨rfl, hb3⟩
  have hB3 := (hB.alloc (.cells #[.int .i64 p0, .int .i64 b, .int .i64 p2] 27)).next hb3
  by_cases i1 : isE p0 b p2 = false
  · go_wp2_with fail
    go_ret2
    rw [H2.out hm' i1]
    exact ⟨_, rfl, .inl ⟨rfl, by simp⟩, by (repeat' (first | with_reducible exact Below.refl _ _ | with_reducible assumption | with_reducible refine gr_alloc ?_ _ | with_reducible refine gr_drew ?_ | with_reducible refine gr_drewN ?_ _ | with_reducible refine gr_trans ?_ (by assumption) | with_reducible refine gr_set ?_ ?_ _ | (simp; done) | omega | (simp; omega)))⟩
  have i1' : isE p0 b p2 = true := by simpa using i1
  clear i1
  go_wp2_with fail
  rw [rounds_succ]; go_wp2_with fail
  refine (iIsE_any p3 0 0 _).mono ?_
  rintro e w4 ⟨rfl, hb4⟩
  have hB4 := (hB3.alloc (.cells #[.int .i64 p3, .int .i64 0, .int .i64 0] 27)).next hb4
  by_cases i2 : isE p3 0 0 = false
  · go_wp2_with fail
    go_ret2
    rw [H3.out hm' i2]
    exact ⟨_, rfl, .inl ⟨rfl, by simp⟩, by (repeat' (first | with_reducible exact Below.refl _ _ | with_reducible assumption | with_reducible refine gr_alloc ?_ _ | with_reducible refine gr_drew ?_ | with_reducible refine gr_drewN ?_ _ | with_reducible refine gr_trans ?_ (by assumption) | with_reducible refine gr_set ?_ ?_ _ | (simp; done) | omega | (simp; omega)))⟩
  have i2' : isE p3 0 0 = true := by simpa using i2
  clear i2
  go_wp2_with fail
  rw [rounds_succ]; go_wp2_with fail
  refine (iIsE_any p6 d p8 _).mono ?_
  rintro e w5 ⟨rfl, hb5⟩
  have hB5 := (hB4.alloc (.cells #[.int .i64 p6, .int .i64 d, .int .i64 p8] 27)).next hb5
  by_cases i3 : isE p6 d p8 = false
  · go_wp2_with fail
    go_ret2
    rw [H4.out hm' i3]
    exact ⟨_, rfl, .inl ⟨rfl, by simp⟩, by (repeat' (first | with_reducible exact Below.refl _ _ | with_reducible assumption | with_reducible refine gr_alloc ?_ _ | with_reducible refine gr_drew ?_ | with_reducible refine gr_drewN ?_ _ | with_reducible refine gr_trans ?_ (by assumption) | with_reducible refine gr_set ?_ ?_ _ | (simp; done) | omega | (simp; omega)))⟩
  have i3' : isE p6 d p8 = true := by simpa using i3
  clear i3
  go_wp2_with fail
  rw [rounds_succ]; go_wp2_with fail
  go_ret2
  rw [H5.out hm' i1' i2' i3']
  exact ⟨_, rfl, OwnW.bx hB5 (by omega), by (repeat' (first | with_reducible exact Below.refl _ _ | with_reducible assumption | with_reducible refine gr_alloc ?_ _ | with_reducible refine gr_drew ?_ | with_reducible refine gr_drewN ?_ _ | with_reducible refine gr_trans ?_ (by assumption) | with_reducible refine gr_set ?_ ?_ _ | (simp; done) | omega | (simp; omega)))⟩

end Go.Proofs.YtdogkkmdccieiaaDoor
