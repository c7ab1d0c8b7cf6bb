/- Lists of three rows of three numbers: comparisons, marks, what they hold. -/
import Derived.Test.YtpbkadljclfogaaE4
import Derived.Test.YtpbkadljclfogaaList2
import Derived.Deep.RegionHeld3
import Derived.Deep.DeepCutAuto
namespace Go.Proofs.Ytpbkadljclfogaa
open Go.RowKit

def RdR (w : World) (v : Value) (n : Nat) (M : Nat → Nat → Int) : Prop :=
  (v = .slice none 0 0 ∧ n = 0) ∨ (n = 3 ∧ ∃ rb cap t0 t1 t2, v = .slice (some ⟨rb, 0, none⟩) 3 cap ∧ 3 ≤ cap ∧ cap ≤ maxLen ∧ rb < w.heap.size ∧ w.cell? ⟨rb, 0, none⟩ = some (.slice (some ⟨t0, 0, none⟩) 3 3) ∧ w.cell? ⟨rb, 1, none⟩ = some (.slice (some ⟨t1, 0, none⟩) 3 3) ∧ w.cell? ⟨rb, 2, none⟩ = some (.slice (some ⟨t2, 0, none⟩) 3 3) ∧ Arr3 w t0 (M 0 0) (M 0 1) (M 0 2) ∧ Arr3 w t1 (M 1 0) (M 1 1) (M 1 2) ∧ Arr3 w t2 (M 2 0) (M 2 1) (M 2 2))
def RdBR (B : Nat) (w : World) (v : Value) (n : Nat) (M : Nat → Nat → Int) : Prop :=
  (v = .slice none 0 0 ∧ n = 0) ∨ (n = 3 ∧ ∃ rb cap t0 t1 t2, v = .slice (some ⟨rb, 0, none⟩) 3 cap ∧ 3 ≤ cap ∧ cap ≤ maxLen ∧ rb < B ∧ t0 < B ∧ t1 < B ∧ t2 < B ∧ w.cell? ⟨rb, 0, none⟩ = some (.slice (some ⟨t0, 0, none⟩) 3 3) ∧ w.cell? ⟨rb, 1, none⟩ = some (.slice (some ⟨t1, 0, none⟩) 3 3) ∧ w.cell? ⟨rb, 2, none⟩ = some (.slice (some ⟨t2, 0, none⟩) 3 3) ∧ Arr3 w t0 (M 0 0) (M 0 1) (M 0 2) ∧ Arr3 w t1 (M 1 0) (M 1 1) (M 1 2) ∧ Arr3 w t2 (M 2 0) (M 2 1) (M 2 2))
def OwnR (B : Nat) (w : World) (v : Value) (n : Nat) (M : Nat → Nat → Int) : Prop :=
  (v = .slice none 0 0 ∧ n = 0) ∨ (n = 3 ∧ RowsO B w v M)
theorem RdBR.rd {B : Nat} {w : World} {v : Value} {n : Nat} {M : Nat → Nat → Int} (h : RdBR B w v n M) (hB : B ≤ w.heap.size) : RdR w v n M := by
  rcases h with h | ⟨hn, rb, cap, t0, t1, t2, h1, h2, h3, h4, _, _, _, h⟩
  · exact .inl h
  · exact .inr ⟨hn, rb, cap, t0, t1, t2, h1, h2, h3, by omega, h⟩
theorem RdBR.below {B : Nat} {w w' : World} {v : Value} {n : Nat} {M : Nat → Nat → Int} (h : RdBR B w v n M) {C : Nat} (hb : Below C w w') (hK : B ≤ C) : RdBR B w' v n M := by
  rcases h with h | ⟨hn, rb, cap, t0, t1, t2, h1, h2, h3, h4, h5, h6, h7, c0, c1, c2, a0, a1, a2⟩
  · exact .inl h
  · exact .inr ⟨hn, rb, cap, t0, t1, t2, h1, h2, h3, h4, h5, h6, h7, (hb.cell (p := ⟨rb, 0, none⟩) (by show rb < C; omega)).trans c0, (hb.cell (p := ⟨rb, 1, none⟩) (by show rb < C; omega)).trans c1, (hb.cell (p := ⟨rb, 2, none⟩) (by show rb < C; omega)).trans c2, a0.below hb (by omega), a1.below hb (by omega), a2.below hb (by omega)⟩
theorem OwnR.rdB {B : Nat} {w : World} {v : Value} {n : Nat} {M : Nat → Nat → Int} (h : OwnR B w v n M) : RdBR w.heap.size w v n M := by
  rcases h with h | ⟨hn, rb, cap, t0, t1, t2, h1, h2, h3, h4, h5, h6, h7, h8, h9, h10, h11, h12, h13, c0, c1, c2, a0, a1, a2⟩
  · exact .inl h
  · exact .inr ⟨hn, rb, cap, t0, t1, t2, h1, h2, h3, h5, a0.lt, a1.lt, a2.lt, c0, c1, c2, a0, a1, a2⟩
theorem OwnR.rd {B : Nat} {w : World} {v : Value} {n : Nat} {M : Nat → Nat → Int} (h : OwnR B w v n M) : RdR w v n M := h.rdB.rd (Nat.le_refl _)
theorem OwnR.next {B : Nat} {w w' : World} {v : Value} {n : Nat} {M : Nat → Nat → Int} (h : OwnR B w v n M) (hb : Below w.heap.size w w') : OwnR B w' v n M := by
  rcases h with h | ⟨hn, h⟩
  · exact .inl h
  · exact .inr ⟨hn, h.next hb⟩
theorem OwnR.base {B B' : Nat} {w : World} {v : Value} {n : Nat} {M : Nat → Nat → Int} (h : OwnR B w v n M) (hB : B' ≤ B) : OwnR B' w v n M := by
  rcases h with h | ⟨hn, rb, cap, t0, t1, t2, h1, h2, h3, h4, h5, h6, h7, h8, h9⟩
  · exact .inl h
  · exact .inr ⟨hn, rb, cap, t0, t1, t2, h1, h2, h3, by omega, h5, by omega, by omega, by omega, h9⟩
/-- Rows that the call laid, and a code. -/
def RowOut (code : Int) (n : Nat) (M : Nat → Nat → Int) (w : World) (e : Ending) (w' : World) : Prop :=
  ∃ v, e = .returned (.tuple #[v, .int .i64 code]) ∧ OwnR w.heap.size w' v (if code = 0 then n else 0) M ∧ Below w.heap.size w w'
def q3 (x y z : Int) (i : Nat) : Int := if i = 0 then x else if i = 1 then y else z
theorem Arr3.cl {w : World} {k : Nat} {a b c : Int} (h : Arr3 w k a b c) : Cl w k 3 (q3 a b c) := by
  refine ⟨h.lt, fun i hi => ?_⟩
  match i, hi with
  | 0, _ => exact ⟨h.c0, h.f0⟩
  | 1, _ => exact ⟨h.c1, h.f1⟩
  | 2, _ => exact ⟨h.c2, h.f2⟩
theorem Cl.arr3 {w : World} {k : Nat} {g : Nat → Int} (h : Cl w k 3 g) : Arr3 w k (g 0) (g 1) (g 2) :=
  ⟨h.1, (h.2 0 (by omega)).1, (h.2 1 (by omega)).1, (h.2 2 (by omega)).1, (h.2 0 (by omega)).2, (h.2 1 (by omega)).2, (h.2 2 (by omega)).2⟩
theorem Arr3.rd {w : World} {k : Nat} {a b c : Int} (h : Arr3 w k a b c) : Rd w (.slice (some ⟨k, 0, none⟩) 3 3) 3 (q3 a b c) :=
  .inr ⟨k, 3, rfl, Nat.le_refl _, by decide, h.lt, fun i hi => (h.cl.2 i hi).1⟩

set_option maxRecDepth 100000 in
set_option maxHeartbeats 1000000 in
theorem eqR_any (u v : Value) (n : Nat) (M : Nat → Nat → Int) (w : World) (hu : RdR w u n M) (hv : RdR w v n M) :
    Calls Try.prog 27 #[u, v] w fun e w' => e = .returned (.bool true) ∧ Below w.heap.size w w' := by
  rcases hu with ⟨rfl, hn⟩ | ⟨hn, rb, cap, t0, t1, t2, rfl, hc, hm, hlt, c0, c1, c2, a0, a1, a2⟩
  · rcases hv with ⟨rfl, _⟩ | ⟨hn3, _⟩
    · go_enter Try.func27, Try.ntmps27
      go_wp2
      refine wp_loop_rounds 1 ?_
      rw [rounds_succ]; go_wp2
      go_ret
      exact ⟨rfl, Below.refl _ _⟩
    · omega
  · rcases hv with ⟨_, hn0⟩ | ⟨_, rb', cap', t0', t1', t2', rfl, hc', hm', hlt', c0', c1', c2', a0', a1', a2'⟩
    · omega
    · unfold maxLen at hm hm'
      clear hn
      have HC := hid c0; have HC1 := hid c1; have HC2 := hid c2; have HD := hid c0'; have HD1 := hid c1'; have HD2 := hid c2'
      clear c0 c1 c2 c0' c1' c2'
      go_enter Try.func27, Try.ntmps27
      go_wp2_with fail
      refine wp_loop_rounds 4 ?_
      have hB0 : Below w.heap.size w w := Below.refl _ _
      have c0 := (hB0.cell (p := ⟨rb, 0, none⟩) hlt).trans HC.out
      have d0 := (hB0.cell (p := ⟨rb', 0, none⟩) hlt').trans HD.out
      have A0 := (a0.next hB0).rd
      have D0 := (a0'.next hB0).rd
      rw [rounds_succ]; go_wp2_with fail
      go_region_held3 (fun W => W.cell? ⟨rb, 0, none⟩ = some (.slice (some ⟨t0, 0, none⟩) 3 3) ∧ W.cell? ⟨rb', 0, none⟩ = some (.slice (some ⟨t0', 0, none⟩) 3 3)) (first | exact ⟨by assumption, by assumption⟩ | (refine ⟨?_, ?_⟩ <;> (refine (Below.cell (by assumption) ?_).trans (by assumption); (first | omega | (simp; omega) | (have := hB0.size; simp; omega))))) ((go_at_call 36; refine (eqI_any _ _ 3 _ _ (A0.next (by (repeat' (first | with_reducible exact Below.refl _ _ | with_reducible assumption | with_reducible refine gr_alloc ?_ _ | with_reducible refine gr_drew ?_ | with_reducible refine gr_drewN ?_ _ | with_reducible refine gr_trans ?_ (by assumption) | with_reducible refine gr_set ?_ ?_ _ | (simp; done) | omega | (simp; omega))))) (D0.next (by (repeat' (first | with_reducible exact Below.refl _ _ | with_reducible assumption | with_reducible refine gr_alloc ?_ _ | with_reducible refine gr_drew ?_ | with_reducible refine gr_drewN ?_ _ | with_reducible refine gr_trans ?_ (by assumption) | with_reducible refine gr_set ?_ ?_ _ | (simp; done) | omega | (simp; omega)))))).mono ?_; rintro e z1 ⟨rfl, hz1⟩; have hs1 := hz1.size; (try simp at hs1)))
      have hB1 : Below w.heap.size w z1 := by (repeat' (first | with_reducible exact Below.refl _ _ | with_reducible assumption | with_reducible refine gr_alloc ?_ _ | with_reducible refine gr_drew ?_ | with_reducible refine gr_drewN ?_ _ | with_reducible refine gr_trans ?_ (by assumption) | with_reducible refine gr_set ?_ ?_ _ | (simp; done) | omega | (simp; omega)))
      clear c0 d0 A0 D0
      go_wp2_with fail
      have c1 := (hB1.cell (p := ⟨rb, 1, none⟩) hlt).trans HC1.out
      have d1 := (hB1.cell (p := ⟨rb', 1, none⟩) hlt').trans HD1.out
      have A1 := (a1.next hB1).rd
      have D1 := (a1'.next hB1).rd
      rw [rounds_succ]; go_wp2_with fail
      go_region_held3 (fun W => W.cell? ⟨rb, 1, none⟩ = some (.slice (some ⟨t1, 0, none⟩) 3 3) ∧ W.cell? ⟨rb', 1, none⟩ = some (.slice (some ⟨t1', 0, none⟩) 3 3)) (first | exact ⟨by assumption, by assumption⟩ | (refine ⟨?_, ?_⟩ <;> (refine (Below.cell (by assumption) ?_).trans (by assumption); (first | omega | (simp; omega) | (have := hB1.size; simp; omega))))) ((go_at_call 36; refine (eqI_any _ _ 3 _ _ (A1.next (by (repeat' (first | with_reducible exact Below.refl _ _ | with_reducible assumption | with_reducible refine gr_alloc ?_ _ | with_reducible refine gr_drew ?_ | with_reducible refine gr_drewN ?_ _ | with_reducible refine gr_trans ?_ (by assumption) | with_reducible refine gr_set ?_ ?_ _ | (simp; done) | omega | (simp; omega))))) (D1.next (by (repeat' (first | with_reducible exact Below.refl _ _ | with_reducible assumption | with_reducible refine gr_alloc ?_ _ | with_reducible refine gr_drew ?_ | with_reducible refine gr_drewN ?_ _ | with_reducible refine gr_trans ?_ (by assumption) | with_reducible refine gr_set ?_ ?_ _ | (simp; done) | omega | (simp; omega)))))).mono ?_; rintro e z2 ⟨rfl, hz2⟩; have hs2 := hz2.size; (try simp at hs2)))
      have hB2 : Below w.heap.size w z2 := by (repeat' (first | with_reducible exact Below.refl _ _ | with_reducible assumption | with_reducible refine gr_alloc ?_ _ | with_reducible refine gr_drew ?_ | with_reducible refine gr_drewN ?_ _ | with_reducible refine gr_trans ?_ (by assumption) | with_reducible refine gr_set ?_ ?_ _ | (simp; done) | omega | (simp; omega)))
      clear c1 d1 A1 D1
      go_wp2_with fail
      have c2 := (hB2.cell (p := ⟨rb, 2, none⟩) hlt).trans HC2.out
      have d2 := (hB2.cell (p := ⟨rb', 2, none⟩) hlt').trans HD2.out
      have A2 := (a2.next hB2).rd
      have D2 := (a2'.next hB2).rd
      rw [rounds_succ]; go_wp2_with fail
      go_region_held3 (fun W => W.cell? ⟨rb, 2, none⟩ = some (.slice (some ⟨t2, 0, none⟩) 3 3) ∧ W.cell? ⟨rb', 2, none⟩ = some (.slice (some ⟨t2', 0, none⟩) 3 3)) (first | exact ⟨by assumption, by assumption⟩ | (refine ⟨?_, ?_⟩ <;> (refine (Below.cell (by assumption) ?_).trans (by assumption); (first | omega | (simp; omega) | (have := hB2.size; simp; omega))))) ((go_at_call 36; refine (eqI_any _ _ 3 _ _ (A2.next (by (repeat' (first | with_reducible exact Below.refl _ _ | with_reducible assumption | with_reducible refine gr_alloc ?_ _ | with_reducible refine gr_drew ?_ | with_reducible refine gr_drewN ?_ _ | with_reducible refine gr_trans ?_ (by assumption) | with_reducible refine gr_set ?_ ?_ _ | (simp; done) | omega | (simp; omega))))) (D2.next (by (repeat' (first | with_reducible exact Below.refl _ _ | with_reducible assumption | with_reducible refine gr_alloc ?_ _ | with_reducible refine gr_drew ?_ | with_reducible refine gr_drewN ?_ _ | with_reducible refine gr_trans ?_ (by assumption) | with_reducible refine gr_set ?_ ?_ _ | (simp; done) | omega | (simp; omega)))))).mono ?_; rintro e z3 ⟨rfl, hz3⟩; have hs3 := hz3.size; (try simp at hs3)))
      have hB3 : Below w.heap.size w z3 := by (repeat' (first | with_reducible exact Below.refl _ _ | with_reducible assumption | with_reducible refine gr_alloc ?_ _ | with_reducible refine gr_drew ?_ | with_reducible refine gr_drewN ?_ _ | with_reducible refine gr_trans ?_ (by assumption) | with_reducible refine gr_set ?_ ?_ _ | (simp; done) | omega | (simp; omega)))
      clear c2 d2 A2 D2
      go_wp2_with fail
      rw [rounds_succ]; go_wp2_with fail
      go_ret
      exact ⟨rfl, hB3⟩

/-- Block k alone may have turned. -/
def KB (k : Nat) (w w' : World) : Prop := w'.os = w.os ∧ w'.tape = w.tape ∧ w'.output = w.output ∧ w.heap.size ≤ w'.heap.size ∧ ∀ j, j < w.heap.size → j ≠ k → w'.heap[j]? = w.heap[j]?
theorem KB.refl (k : Nat) (w : World) : KB k w w := ⟨rfl, rfl, rfl, Nat.le_refl _, fun _ _ _ => rfl⟩
theorem KB.set {k : Nat} {w w' : World} (h : KB k w w') (i : Nat) (v : Value) : KB k w (w'.setCell ⟨k, i, none⟩ v) :=
  ⟨h.1, h.2.1, h.2.2.1, by rw [World.size_setCell]; exact h.2.2.2.1, fun j hj hne => (Go.Deep.blk_setCell_other _ _ _ _ hne).trans (h.2.2.2.2 j hj hne)⟩
theorem KB.below {k B : Nat} {w w' : World} (h : KB k w w') (hB : B ≤ k) (hk : k < w.heap.size) : Below B w w' :=
  ⟨h.1, h.2.1, h.2.2.1, h.2.2.2.1, fun j hj => h.2.2.2.2 j (by omega) (by omega)⟩
theorem KB.cell {k : Nat} {w w' : World} (h : KB k w w') {j i : Nat} (hj : j < w.heap.size) (hne : j ≠ k) : w'.cell? ⟨j, i, none⟩ = w.cell? ⟨j, i, none⟩ := World.cell?_of_block (a := ⟨j, i, none⟩) (h.2.2.2.2 j hj hne)
theorem KB.frozen {k : Nat} {w w' : World} (h : KB k w w') {j i : Nat} (hj : j < w.heap.size) (hne : j ≠ k) : w'.frozen? ⟨j, i, none⟩ = w.frozen? ⟨j, i, none⟩ := World.frozen?_of_block (a := ⟨j, i, none⟩) (h.2.2.2.2 j hj hne)
theorem KB.arr3 {k : Nat} {w w' : World} (h : KB k w w') {j : Nat} {a b c : Int} (hA : Arr3 w j a b c) (hne : j ≠ k) : Arr3 w' j a b c :=
  ⟨Nat.lt_of_lt_of_le hA.lt h.2.2.2.1, (h.cell hA.lt hne).trans hA.c0, (h.cell hA.lt hne).trans hA.c1, (h.cell hA.lt hne).trans hA.c2, (h.frozen hA.lt hne).trans hA.f0, (h.frozen hA.lt hne).trans hA.f1, (h.frozen hA.lt hne).trans hA.f2⟩

set_option maxRecDepth 100000 in
set_option maxHeartbeats 1000000 in
theorem markK_any (k cap len : Nat) (s : Int) (g : Nat → Int) (w : World) (h0 : Cl w k len g) (hs : 0 ≤ s) (hs' : s ≤ 1000) (hl : len ≤ 1000) (hlc : len ≤ cap) :
    Calls Try.prog 37 #[.slice (some ⟨k, 0, none⟩) len cap, .int .i64 s] w fun e w' => e = .returned (.int .i64 (s + len)) ∧ Cl w' k len (fun i => s + i) ∧ KB k w w' := by
  go_enter Try.func37, Try.ntmps37
  go_wp2_with fail
  go_loopw [5, 1] (fun i n wr => ∃ j : Nat, j ≤ len ∧ i = .int .i64 j ∧ n = .int .i64 (s + j) ∧ Cl wr k len (fun t => if t < j then s + t else g t) ∧ KB k w wr) (fun i _ _ => len - (intOf i).toNat)
  case atStart => exact ⟨0, Nat.zero_le _, rfl, by simp, h0.congr (fun i _ => by simp), KB.refl _ _⟩
  case round =>
    obtain ⟨j, hj, rfl, rfl, hC, hU⟩ := hrel
    by_cases hlt : j < len
    · obtain ⟨hc, hf⟩ := hC.2 j hlt
      have hS := hid (hC.set hlt (s + j))
      have hU2 := hid (hU.set j (.int .i64 (s + j)))
      clear hC hU h0
      go_wp2
      go_roundw
      case rel => exact ⟨j + 1, by omega, by go_num, by go_num, hS.out.congr (fun i hi => by
        by_cases e : i = j
        · subst e; simp
        · simp only [e, if_false]; by_cases h : i < j
          · simp [h, show i < j + 1 by omega]
          · simp [h, show ¬ i < j + 1 by omega]), hU2.out⟩
      case measure => simp [intOf]; omega
    · have e : j = len := by omega
      subst e
      go_wp2
      go_ret
      exact ⟨rfl, hC.congr (fun i hi => by simp [hi]), hU⟩

set_option maxRecDepth 100000 in
set_option maxHeartbeats 1000000 in
theorem heldK_any (k cap len : Nat) (s : Int) (w : World) (h0 : Cl w k len (fun i => s + i)) (hs : 0 ≤ s) (hs' : s ≤ 1000) (hl : len ≤ 1000) (hlc : len ≤ cap) :
    Calls Try.prog 38 #[.slice (some ⟨k, 0, none⟩) len cap, .int .i64 s] w fun e w' => e = .returned (.int .i64 (s + len)) ∧ Below w.heap.size w w' := by
  go_enter Try.func38, Try.ntmps38
  go_wp2_with fail
  go_loopw [5, 1] (fun i n wr => ∃ j : Nat, j ≤ len ∧ i = .int .i64 j ∧ n = .int .i64 (s + j) ∧ Below w.heap.size w wr) (fun i _ _ => len - (intOf i).toNat)
  case atStart => exact ⟨0, Nat.zero_le _, rfl, by simp, Below.refl _ _⟩
  case round =>
    obtain ⟨j, hj, rfl, rfl, hU⟩ := hrel
    by_cases hlt : j < len
    · have hc : wr.cell? ⟨k, j, none⟩ = some (.int .i64 (s + j)) := (hU.cell (p := ⟨k, j, none⟩) h0.1).trans (h0.2 j hlt).1
      have HU := hid hU
      clear hU h0
      go_wp2
      go_roundw
      case rel => exact ⟨j + 1, by omega, by go_num, by go_num, by have hU := HU.out; (repeat' (first | with_reducible exact Below.refl _ _ | with_reducible assumption | with_reducible refine gr_alloc ?_ _ | with_reducible refine gr_drew ?_ | with_reducible refine gr_drewN ?_ _ | with_reducible refine gr_trans ?_ (by assumption) | with_reducible refine gr_set ?_ ?_ _ | (simp; done) | omega | (simp; omega)))⟩
      case measure => simp [intOf]; omega
    · have e : j = len := by omega
      subst e
      go_wp2
      go_ret
      exact ⟨rfl, hU⟩

def mkR (i j : Nat) : Int := 1 + 3 * i + j

set_option maxRecDepth 100000 in
set_option maxHeartbeats 1000000 in
theorem markR_any (B : Nat) (v : Value) (n : Nat) (M : Nat → Nat → Int) (w : World) (h : OwnR B w v n M) (_ : n ≤ 1000) :
    Calls Try.prog 28 #[v, .int .i64 1] w fun e w' => e = .returned (.int .i64 (1 + 3 * n)) ∧ OwnR B w' v n mkR ∧ Below B w w' := by
  rcases h with ⟨rfl, rfl⟩ | ⟨rfl, rb, cap, t0, t1, t2, rfl, h2, h3, h4, h5, h6, h7, h8, h9, h10, h11, h12, h13, c0, c1, c2, a0, a1, a2⟩
  · go_enter Try.func28, Try.ntmps28
    go_wp2
    refine wp_loop_rounds 1 ?_
    rw [rounds_succ]; go_wp2
    go_ret
    exact ⟨rfl, .inl ⟨rfl, rfl⟩, Below.refl _ _⟩
  · unfold maxLen at h3
    go_enter Try.func28, Try.ntmps28
    go_wp2_with fail
    refine wp_loop_rounds 4 ?_
    rw [rounds_succ]; go_wp2_with fail
    refine (markK_any t0 3 3 1 _ _ a0.cl (by omega) (by omega) (by omega) (by omega)).mono ?_
    rintro e w1 ⟨rfl, k0, b1⟩
    have d0 := k0.arr3
    have d1 := b1.arr3 a1 (by omega)
    have d2 := b1.arr3 a2 (by omega)
    have r1 := (b1.cell (i := 1) h5 h11).trans c1
    have r2 := (b1.cell (i := 2) h5 h11).trans c2
    have r0 := (b1.cell (i := 0) h5 h11).trans c0
    have hz1 := b1.2.2.2.1
    have u1 := b1.below h6 a0.lt
    have hrb : rb < w1.heap.size := by omega
    clear c0 c1 c2 a0 a1 a2 k0 b1
    go_wp2_with fail
    rw [rounds_succ]; go_wp2_with fail
    refine (markK_any t1 3 3 _ _ _ d1.cl (by omega) (by omega) (by omega) (by omega)).mono ?_
    rintro e w2 ⟨rfl, k1, b2⟩
    have e1 := k1.arr3
    have e0 := b2.arr3 d0 (by omega)
    have e2 := b2.arr3 d2 (by omega)
    have s1 := (b2.cell (i := 1) hrb h12).trans r1
    have s2 := (b2.cell (i := 2) hrb h12).trans r2
    have s0 := (b2.cell (i := 0) hrb h12).trans r0
    have hz2 := b2.2.2.2.1
    have u2 := u1.trans (b2.below h7 d1.lt)
    have hrb2 : rb < w2.heap.size := by omega
    clear r0 r1 r2 d0 d1 d2 k1 b2 u1
    go_wp2_with fail
    rw [rounds_succ]; go_wp2_with fail
    refine (markK_any t2 3 3 _ _ _ e2.cl (by omega) (by omega) (by omega) (by omega)).mono ?_
    rintro e w3 ⟨rfl, k2, b3⟩
    have f2 := k2.arr3
    have f0 := b3.arr3 e0 (by omega)
    have f1 := b3.arr3 e1 (by omega)
    have q1 := (b3.cell (i := 1) hrb2 h13).trans s1
    have q2 := (b3.cell (i := 2) hrb2 h13).trans s2
    have q0 := (b3.cell (i := 0) hrb2 h13).trans s0
    have hz3 := b3.2.2.2.1
    have u3 := u2.trans (b3.below h8 e2.lt)
    clear s0 s1 s2 e0 e1 e2 k2 b3 u2
    go_wp2_with fail
    rw [rounds_succ]; go_wp2_with fail
    go_ret
    exact ⟨rfl, .inr ⟨rfl, rb, cap, t0, t1, t2, rfl, h2, by unfold maxLen; omega, h4, by omega, h6, h7, h8, h9, h10, h11, h12, h13, q0, q1, q2, f0, f1, f2⟩, u3⟩

set_option maxRecDepth 100000 in
set_option maxHeartbeats 1000000 in
theorem heldR_any (B : Nat) (v : Value) (n : Nat) (w : World) (h : OwnR B w v n mkR) (_ : n ≤ 1000) :
    Calls Try.prog 29 #[v, .int .i64 1] w fun e w' => e = .returned (.int .i64 (1 + 3 * n)) ∧ Below w.heap.size w w' := by
  rcases h with ⟨rfl, rfl⟩ | ⟨rfl, rb, cap, t0, t1, t2, rfl, h2, h3, h4, h5, h6, h7, h8, h9, h10, h11, h12, h13, c0, c1, c2, a0, a1, a2⟩
  · go_enter Try.func29, Try.ntmps29
    go_wp2
    refine wp_loop_rounds 1 ?_
    rw [rounds_succ]; go_wp2
    go_ret
    exact ⟨rfl, Below.refl _ _⟩
  · unfold maxLen at h3
    have g0 : Cl w t0 3 (fun i => 1 + i) := a0.cl.congr (fun i hi => by match i, hi with | 0, _ => rfl | 1, _ => rfl | 2, _ => rfl)
    have g1 : Cl w t1 3 (fun i => 4 + i) := a1.cl.congr (fun i hi => by match i, hi with | 0, _ => rfl | 1, _ => rfl | 2, _ => rfl)
    have g2 : Cl w t2 3 (fun i => 7 + i) := a2.cl.congr (fun i hi => by match i, hi with | 0, _ => rfl | 1, _ => rfl | 2, _ => rfl)
    clear a0 a1 a2
    go_enter Try.func29, Try.ntmps29
    go_wp2_with fail
    refine wp_loop_rounds 4 ?_
    rw [rounds_succ]; go_wp2_with fail
    refine (heldK_any t0 3 3 1 _ g0 (by omega) (by omega) (by omega) (by omega)).mono ?_
    rintro e w1 ⟨rfl, b1⟩
    have r1 := (b1.cell (p := ⟨rb, 1, none⟩) h5).trans c1
    have r2 := (b1.cell (p := ⟨rb, 2, none⟩) h5).trans c2
    have hz1 := b1.size
    have k1 := g1.below b1
    have k2 := g2.below b1
    clear c0 c1 c2 g0 g1 g2
    go_wp2_with fail
    rw [rounds_succ]; go_wp2_with fail
    refine (heldK_any t1 3 3 4 _ k1 (by omega) (by omega) (by omega) (by omega)).mono ?_
    rintro e w2 ⟨rfl, b2⟩
    have s2 := (b2.cell (p := ⟨rb, 2, none⟩) (by show rb < _; omega)).trans r2
    have m2 := k2.below b2
    have u2 := gr_trans b1 b2
    clear r1 r2 k1 k2 b1 b2
    go_wp2_with fail
    rw [rounds_succ]; go_wp2_with fail
    refine (heldK_any t2 3 3 7 _ m2 (by omega) (by omega) (by omega) (by omega)).mono ?_
    rintro e w3 ⟨rfl, b3⟩
    have u3 := gr_trans u2 b3
    clear s2 m2 u2 b3
    go_wp2_with fail
    rw [rounds_succ]; go_wp2_with fail
    go_ret
    exact ⟨rfl, u3⟩

end Go.Proofs.Ytpbkadljclfogaa