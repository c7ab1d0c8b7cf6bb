/- Lists of rows of integers: comparisons, marks, what they hold. -/
import Derived.Test.YtmhlolimaeejfaaDoorPl
import Derived.Deep.RegionHeld3
import Derived.Deep.DeepCutAuto
namespace Go.Proofs.YtmhlolimaeejfaaDoor
open Go.RowKit

/-- Block k alone may have turned. -/
def KB (k : Nat) (w w' : World) : Prop := w'.os = w.os ∧ w'.tape = w.tape ∧ w'.output = w.output ∧ w.heap.size ≤ w'.heap.size ∧ ∀ j, j < w.heap.size → j ≠ k → w'.heap[j]? = w.heap[j]?
theorem KB.refl (k : Nat) (w : World) : KB k w w := ⟨rfl, rfl, rfl, Nat.le_refl _, fun _ _ _ => rfl⟩
theorem KB.set {k : Nat} {w w' : World} (h : KB k w w') (i : Nat) (v : Value) : KB k w (w'.setCell ⟨k, i, none⟩ v) :=
  ⟨h.1, h.2.1, h.2.2.1, by rw [World.size_setCell]; exact h.2.2.2.1, fun j hj hne => (Go.Deep.blk_setCell_other _ _ _ _ hne).trans (h.2.2.2.2 j hj hne)⟩
theorem KB.below {k B : Nat} {w w' : World} (h : KB k w w') (hB : B ≤ k) (hk : k < w.heap.size) : Below B w w' :=
  ⟨h.1, h.2.1, h.2.2.1, h.2.2.2.1, fun j hj => h.2.2.2.2 j (by omega) (by omega)⟩
theorem KB.cell {k : Nat} {w w' : World} (h : KB k w w') {j i : Nat} (hj : j < w.heap.size) (hne : j ≠ k) : w'.cell? ⟨j, i, none⟩ = w.cell? ⟨j, i, none⟩ := World.cell?_of_block (a := ⟨j, i, none⟩) (h.2.2.2.2 j hj hne)
theorem KB.frozen {k : Nat} {w w' : World} (h : KB k w w') {j i : Nat} (hj : j < w.heap.size) (hne : j ≠ k) : w'.frozen? ⟨j, i, none⟩ = w.frozen? ⟨j, i, none⟩ := World.frozen?_of_block (a := ⟨j, i, none⟩) (h.2.2.2.2 j hj hne)
theorem KB.arr3 {k : Nat} {w w' : World} (h : KB k w w') {j : Nat} {a b c : Int} (hA : Arr3 w j a b c) (hne : j ≠ k) : Arr3 w' j a b c :=
  ⟨Nat.lt_of_lt_of_le hA.lt h.2.2.2.1, (h.cell hA.lt hne).trans hA.c0, (h.cell hA.lt hne).trans hA.c1, (h.cell hA.lt hne).trans hA.c2, (h.frozen hA.lt hne).trans hA.f0, (h.frozen hA.lt hne).trans hA.f1, (h.frozen hA.lt hne).trans hA.f2⟩

set_option maxRecDepth 100000 in
set_option maxHeartbeats 1000000 in
theorem markK_any (k cap len : Nat) (s : Int) (g : Nat → Int) (w : World) (h0 : Cl w k len g) (hs : 0 ≤ s) (hs' : s ≤ 1000000000) (hl : len ≤ 1000) (hlc : len ≤ cap) :
    Calls Tryd.prog 21 #[.slice (some ⟨k, 0, none⟩) len cap, .int .i64 s] w fun e w' => e = .returned (.int .i64 (s + len)) ∧ Cl w' k len (fun i => s + i) ∧ KB k w w' := by
  go_enter Tryd.func21, Tryd.ntmps21
  go_wp2_with fail
  go_loopw [5, 1] (fun i n wr => ∃ j : Nat, j ≤ len ∧ i = .int .i64 j ∧ n = .int .i64 (s + j) ∧ Cl wr k len (fun t => if t < j then s + t else g t) ∧ KB k w wr) (fun i _ _ => len - (intOf i).toNat)
  case atStart => exact ⟨0, Nat.zero_le _, rfl, by simp, h0.congr (fun i _ => by simp), KB.refl _ _⟩
  case round =>
    obtain ⟨j, hj, rfl, rfl, hC, hU⟩ := hrel
    by_cases hlt : j < len
    · obtain ⟨hc, hf⟩ := hC.2 j hlt
      have hS := hid (hC.set hlt (s + j))
      have hU2 := hid (hU.set j (.int .i64 (s + j)))
      clear hC hU h0
      go_wp2
      go_roundw
      case rel => exact ⟨j + 1, by omega, by go_num, by go_num, hS.out.congr (fun i hi => by
        by_cases e : i = j
        · subst e; simp
        · simp only [e, if_false]; by_cases h : i < j
          · simp [h, show i < j + 1 by omega]
          · simp [h, show ¬ i < j + 1 by omega]), hU2.out⟩
      case measure => simp [intOf]; omega
    · have e : j = len := by omega
      subst e
      go_wp2
      go_ret
      exact ⟨rfl, hC.congr (fun i hi => by simp [hi]), hU⟩

set_option maxRecDepth 100000 in
set_option maxHeartbeats 1000000 in
theorem heldK_any (k cap len : Nat) (s : Int) (w : World) (h0 : Cl w k len (fun i => s + i)) (hs : 0 ≤ s) (hs' : s ≤ 1000000000) (hl : len ≤ 1000) (hlc : len ≤ cap) :
    Calls Tryd.prog 22 #[.slice (some ⟨k, 0, none⟩) len cap, .int .i64 s] w fun e w' => e = .returned (.int .i64 (s + len)) ∧ Below w.heap.size w w' := by
  go_enter Tryd.func22, Tryd.ntmps22
  go_wp2_with fail
  go_loopw [5, 1] (fun i n wr => ∃ j : Nat, j ≤ len ∧ i = .int .i64 j ∧ n = .int .i64 (s + j) ∧ Below w.heap.size w wr) (fun i _ _ => len - (intOf i).toNat)
  case atStart => exact ⟨0, Nat.zero_le _, rfl, by simp, Below.refl _ _⟩
  case round =>
    obtain ⟨j, hj, rfl, rfl, hU⟩ := hrel
    by_cases hlt : j < len
    · have hc : wr.cell? ⟨k, j, none⟩ = some (.int .i64 (s + j)) := (hU.cell (p := ⟨k, j, none⟩) h0.1).trans (h0.2 j hlt).1
      have HU := hid hU
      clear hU h0
      go_wp2
      go_roundw
      case rel => exact ⟨j + 1, by omega, by go_num, by go_num, by have hU := HU.out; (repeat' (first | with_reducible exact Below.refl _ _ | with_reducible assumption | with_reducible refine gr_alloc ?_ _ | with_reducible refine gr_drew ?_ | with_reducible refine gr_drewN ?_ _ | with_reducible refine gr_trans ?_ (by assumption) | with_reducible refine gr_set ?_ ?_ _ | (simp; done) | omega | (simp; omega)))⟩
      case measure => simp [intOf]; omega
    · have e : j = len := by omega
      subst e
      go_wp2
      go_ret
      exact ⟨rfl, hU⟩

/-- A list of n rows of s integers; all blocks from B on, below C. -/
def RowsC (B C : Nat) (w : World) (v : Value) (s n : Nat) (G : Nat → Nat → Int) (T : Nat → Nat) : Prop :=
  ∃ a cap, v = .slice a n cap ∧ n ≤ cap ∧ cap ≤ maxLen ∧ C ≤ w.heap.size ∧ (0 < n → ∃ g, a = some ⟨g, 0, none⟩ ∧ B ≤ g ∧ g < C ∧ ∀ i, i < n → w.cell? ⟨g, i, none⟩ = some (.slice (some ⟨T i, 0, none⟩) s s) ∧ T i ≠ g) ∧
    (∀ i, i < n → B ≤ T i ∧ T i < C ∧ Cl w (T i) s (G i)) ∧ ∀ i j, i < j → j < n → T i < T j
theorem Cl.belowC {w w' : World} {k len C : Nat} {g : Nat → Int} (h : Cl w k len g) (hb : Below C w w') (hk : k < C) : Cl w' k len g :=
  ⟨Nat.lt_of_lt_of_le h.1 hb.size, fun i hi => ⟨(hb.cell (p := ⟨k, i, none⟩) hk).trans (h.2 i hi).1, (hb.frozen (p := ⟨k, i, none⟩) hk).trans (h.2 i hi).2⟩⟩
theorem Cl.kb {w w' : World} {k j len : Nat} {g : Nat → Int} (h : Cl w j len g) (hk : KB k w w') (hne : j ≠ k) : Cl w' j len g :=
  ⟨Nat.lt_of_lt_of_le h.1 hk.2.2.2.1, fun i hi => ⟨(hk.cell h.1 hne).trans (h.2 i hi).1, (hk.frozen h.1 hne).trans (h.2 i hi).2⟩⟩
theorem Cl.rd {w : World} {k len : Nat} {g : Nat → Int} (h : Cl w k len g) (hl : len ≤ maxLen) : Rd w (.slice (some ⟨k, 0, none⟩) len len) len g :=
  .inr ⟨k, len, rfl, Nat.le_refl _, hl, h.1, fun i hi => (h.2 i hi).1⟩
theorem RowsC.below {B C C' : Nat} {w w' : World} {v : Value} {s n : Nat} {G : Nat → Nat → Int} {T : Nat → Nat} (h : RowsC B C w v s n G T) (hb : Below C' w w') (hC : C ≤ C') : RowsC B C w' v s n G T := by
  obtain ⟨a, cap, h1, h2, h3, h4, h5, h6, h7⟩ := h
  refine ⟨a, cap, h1, h2, h3, Nat.le_trans h4 hb.size, fun hn => ?_, fun i hi => ⟨(h6 i hi).1, (h6 i hi).2.1, (h6 i hi).2.2.belowC hb (by have := (h6 i hi).2.1; omega)⟩, h7⟩
  obtain ⟨g, g1, g2, g3, g4⟩ := h5 hn
  exact ⟨g, g1, g2, g3, fun i hi => ⟨(hb.cell (p := ⟨g, i, none⟩) (by show g < C'; omega)).trans (g4 i hi).1, (g4 i hi).2⟩⟩
theorem RowsC.next {B C : Nat} {w w' : World} {v : Value} {s n : Nat} {G : Nat → Nat → Int} {T : Nat → Nat} (h : RowsC B C w v s n G T) (hb : Below w.heap.size w w') : RowsC B C w' v s n G T :=
  h.below hb (by obtain ⟨a, cap, h1, h2, h3, h4, _⟩ := h; exact h4)
theorem RowsC.up {B C C' : Nat} {w : World} {v : Value} {s n : Nat} {G : Nat → Nat → Int} {T : Nat → Nat} (h : RowsC B C w v s n G T) (hC : C ≤ C') (hw : C' ≤ w.heap.size) : RowsC B C' w v s n G T := by
  obtain ⟨a, cap, h1, h2, h3, h4, h5, h6, h7⟩ := h
  refine ⟨a, cap, h1, h2, h3, hw, fun hn => ?_, fun i hi => ⟨(h6 i hi).1, by have := (h6 i hi).2.1; omega, (h6 i hi).2.2⟩, h7⟩
  obtain ⟨g, g1, g2, g3, g4⟩ := h5 hn
  exact ⟨g, g1, g2, by omega, g4⟩
theorem RowsC.base {B B' C : Nat} {w : World} {v : Value} {s n : Nat} {G : Nat → Nat → Int} {T : Nat → Nat} (h : RowsC B C w v s n G T) (hB : B' ≤ B) : RowsC B' C w v s n G T := by
  obtain ⟨a, cap, h1, h2, h3, h4, h5, h6, h7⟩ := h
  refine ⟨a, cap, h1, h2, h3, h4, fun hn => ?_, fun i hi => ⟨by have := (h6 i hi).1; omega, (h6 i hi).2⟩, h7⟩
  obtain ⟨g, g1, g2, g3, g4⟩ := h5 hn
  exact ⟨g, g1, by omega, g3, g4⟩

set_option maxRecDepth 100000 in
set_option maxHeartbeats 1000000 in
theorem eqRows_any (B C B' C' : Nat) (u v : Value) (s n : Nat) (G : Nat → Nat → Int) (T T' : Nat → Nat) (w : World) (hs : s ≤ 1000) (hu : RowsC B C w u s n G T) (hv : RowsC B' C' w v s n G T') :
    Calls Tryd.prog 11 #[u, v] w fun e w' => e = .returned (.bool true) ∧ Below w.heap.size w w' := by
  have HU := hid hu; have HV := hid hv
  obtain ⟨a, cap, rfl, hc1, hm1, hw1, ha, hr, _⟩ := hu
  obtain ⟨a', cap', rfl, hc2, hm2, hw2, ha', hr', _⟩ := hv
  have HA := hid ha; have HA' := hid ha'; have HR := hid hr; have HR' := hid hr'
  clear ha ha' hr hr'
  unfold maxLen at hm1 hm2
  go_enter Tryd.func11, Tryd.ntmps11
  go_wp2_with fail
  go_loopw [5] (fun i wr => ∃ k : Nat, k ≤ n ∧ i = .int .i64 k ∧ Below w.heap.size w wr) (fun i _ => n - (intOf i).toNat)
  case atStart => exact ⟨0, Nat.zero_le _, rfl, Below.refl _ _⟩
  case round =>
    obtain ⟨k, hk, rfl, hB⟩ := hrel
    by_cases hlt : k < n
    · obtain ⟨g, rfl, _, hg, hcell⟩ := HA.out (by omega)
      obtain ⟨g', rfl, _, hg', hcell'⟩ := HA'.out (by omega)
      have c0 := (hB.cell (p := ⟨g, k, none⟩) (by show g < _; omega)).trans (hcell k hlt).1
      have d0 := (hB.cell (p := ⟨g', k, none⟩) (by show g' < _; omega)).trans (hcell' k hlt).1
      have A0 := ((HR.out k hlt).2.2.rd (by unfold maxLen; omega)).next hB
      have D0 := ((HR'.out k hlt).2.2.rd (by unfold maxLen; omega)).next hB
      have hsz := hB.size
      have hgs : g < w.heap.size := by omega
      have hgs' : g' < w.heap.size := by omega
      clear hcell hcell'
      generalize T k = t at c0 A0
      generalize T' k = t' at d0 D0
      generalize G k = gk at A0 D0
      go_wp2_with fail
      go_region_held3 (fun W => W.cell? ⟨g, k, none⟩ = some (.slice (some ⟨t, 0, none⟩) s s) ∧ W.cell? ⟨g', k, none⟩ = some (.slice (some ⟨t', 0, none⟩) s s)) (first | exact ⟨by assumption, by assumption⟩ | (refine ⟨?_, ?_⟩ <;> (refine (Below.cell (by assumption) ?_).trans (by assumption); (first | omega | (simp; omega))))) ((go_at_call 20; refine (eqI_any _ _ s gk _ (A0.next (by (repeat' (first | with_reducible exact Below.refl _ _ | with_reducible assumption | with_reducible refine gr_alloc ?_ _ | with_reducible refine gr_drew ?_ | with_reducible refine gr_drewN ?_ _ | with_reducible refine gr_trans ?_ (by assumption) | with_reducible refine gr_set ?_ ?_ _ | (simp; done) | omega | (simp; omega))))) (D0.next (by (repeat' (first | with_reducible exact Below.refl _ _ | with_reducible assumption | with_reducible refine gr_alloc ?_ _ | with_reducible refine gr_drew ?_ | with_reducible refine gr_drewN ?_ _ | with_reducible refine gr_trans ?_ (by assumption) | with_reducible refine gr_set ?_ ?_ _ | (simp; done) | omega | (simp; omega)))))).mono ?_; rintro e z1 ⟨rfl, hz1⟩; have hs1 := hz1.size; (try simp at hs1)))
      have hB1 : Below w.heap.size w z1 := by (repeat' (first | with_reducible exact Below.refl _ _ | with_reducible assumption | with_reducible refine gr_alloc ?_ _ | with_reducible refine gr_drew ?_ | with_reducible refine gr_drewN ?_ _ | with_reducible refine gr_trans ?_ (by assumption) | with_reducible refine gr_set ?_ ?_ _ | (simp; done) | omega | (simp; omega)))
      clear c0 d0 A0 D0
      go_wp2_with fail
      go_roundw
      case rel => exact ⟨k + 1, by omega, by go_num, hB1⟩
      case measure => simp [intOf]; omega
    · have e : k = n := by omega
      subst e
      go_wp2_with fail
      go_ret
      exact ⟨rfl, hB⟩

set_option maxRecDepth 100000 in
set_option maxHeartbeats 1000000 in
theorem markRows2_any (B C : Nat) (u : Value) (n : Nat) (G : Nat → Nat → Int) (T : Nat → Nat) (w : World) (hn : n ≤ 10000000) (hu : RowsC B C w u 2 n G T) :
    Calls Tryd.prog 12 #[u, .int .i64 1] w fun e w' => e = .returned (.int .i64 (1 + 2 * n)) ∧ RowsC B C w' u 2 n (fun i j => 1 + 2 * i + j) T ∧ Below B w w' := by
  have HU := hid hu
  obtain ⟨a, cap, rfl, hc1, hm1, hw1, ha, hr, hso⟩ := hu
  have HSO := hid hso
  clear ha hr hso
  unfold maxLen at hm1
  go_enter Tryd.func12, Tryd.ntmps12
  go_wp2_with fail
  go_loopw [5, 1] (fun i m wr => ∃ k : Nat, k ≤ n ∧ i = .int .i64 k ∧ m = .int .i64 (1 + 2 * k) ∧ RowsC B C wr (.slice a n cap) 2 n (fun i j => if i < k then 1 + 2 * (i : Int) + j else G i j) T ∧ Below B w wr) (fun i _ _ => n - (intOf i).toNat)
  case atStart => exact ⟨0, Nat.zero_le _, rfl, by simp, by simpa using HU.out, Below.refl _ _⟩
  case round =>
    obtain ⟨k, hk, rfl, rfl, hR, hB⟩ := hrel
    obtain ⟨a1, cap1, e1, _, _, hC, ha, hr, _⟩ := hR
    cases e1
    by_cases hlt : k < n
    · obtain ⟨g, rfl, hgB, hg, hcell⟩ := ha (by omega)
      obtain ⟨hTB, hTC, hcl⟩ := hr k hlt
      have c0 := (hcell k hlt).1
      have HC := hid hcell; have HR := hid hr; have HB := hid hB; have HL := hid hcl
      clear hcell hr hB ha hcl
      go_wp2_with fail
      refine (markK_any (T k) 2 2 (1 + 2 * k) _ _ HL.out (by omega) (by omega) (by omega) (by omega)).mono ?_
      rintro e w1 ⟨rfl, hcl1, hkb⟩
      have hsz := hkb.2.2.2.1
      have HX := hid hcl1; have HK := hid hkb
      clear hcl1 hkb c0
      go_wp2_with fail
      go_roundw
      case rel => exact ⟨k + 1, by omega, by go_num, by go_num, ⟨_, cap, rfl, hc1, by unfold maxLen; omega, by omega, fun _ => ⟨g, rfl, hgB, hg, fun i hi => ⟨(HK.out.cell (by omega) (by have := (HC.out k hlt).2; omega)).trans (HC.out i hi).1, (HC.out i hi).2⟩⟩, fun i hi => by
          by_cases e : i = k
          · subst e
            exact ⟨hTB, hTC, HX.out.congr (fun j _ => by simp)⟩
          · have hne : T i ≠ T k := by
              rcases Nat.lt_or_gt_of_ne e with h | h
              · have := HSO.out i k h hlt; omega
              · have := HSO.out k i h hi; omega
            exact ⟨(HR.out i hi).1, (HR.out i hi).2.1, ((HR.out i hi).2.2.kb HK.out hne).congr (fun j _ => by
              by_cases h : i < k
              · simp [h, show i < k + 1 by omega]
              · simp [h, show ¬ i < k + 1 by omega])⟩, HSO.out⟩, HB.out.trans (HK.out.below hTB (by omega))⟩
      case measure => simp [intOf]; omega
    · have e : k = n := by omega
      subst e
      have HA := hid ha; have HR := hid hr
      clear ha hr
      go_wp2_with fail
      go_ret
      exact ⟨rfl, ⟨_, cap, rfl, hc1, by unfold maxLen; omega, hC, HA.out, fun i hi => ⟨(HR.out i hi).1, (HR.out i hi).2.1, (HR.out i hi).2.2.congr (fun j _ => by simp [hi])⟩, HSO.out⟩, hB⟩

set_option maxRecDepth 100000 in
set_option maxHeartbeats 1000000 in
theorem heldRows2_any (B C : Nat) (u : Value) (n : Nat) (T : Nat → Nat) (w : World) (hn : n ≤ 10000000) (hu : RowsC B C w u 2 n (fun i j => 1 + 2 * i + j) T) :
    Calls Tryd.prog 13 #[u, .int .i64 1] w fun e w' => e = .returned (.int .i64 (1 + 2 * n)) ∧ Below w.heap.size w w' := by
  have HU := hid hu
  obtain ⟨a, cap, rfl, hc1, hm1, hw1, _⟩ := hu
  unfold maxLen at hm1
  go_enter Tryd.func13, Tryd.ntmps13
  go_wp2_with fail
  go_loopw [5, 1] (fun i m wr => ∃ k : Nat, k ≤ n ∧ i = .int .i64 k ∧ m = .int .i64 (1 + 2 * k) ∧ Below w.heap.size w wr) (fun i _ _ => n - (intOf i).toNat)
  case atStart => exact ⟨0, Nat.zero_le _, rfl, by simp, Below.refl _ _⟩
  case round =>
    obtain ⟨k, hk, rfl, rfl, hB⟩ := hrel
    have hR := HU.out.next hB
    obtain ⟨a1, cap1, e1, _, _, hC, ha, hr, _⟩ := hR
    cases e1
    by_cases hlt : k < n
    · obtain ⟨g, rfl, hgB, hg, hcell⟩ := ha (by omega)
      obtain ⟨hTB, hTC, hcl⟩ := hr k hlt
      have c0 := (hcell k hlt).1
      have HB := hid hB; have HL := hid hcl
      clear hcell hr hB ha hcl
      go_wp2_with fail
      refine (heldK_any (T k) 2 2 (1 + 2 * k) _ HL.out (by omega) (by omega) (by omega) (by omega)).mono ?_
      rintro e w1 ⟨rfl, hb1⟩
      have hsz := hb1.size
      go_wp2_with fail
      go_roundw
      case rel => exact ⟨k + 1, by omega, by go_num, by go_num, gr_trans HB.out hb1⟩
      case measure => simp [intOf]; omega
    · have e : k = n := by omega
      subst e
      clear ha hr
      go_wp2_with fail
      go_ret
      exact ⟨rfl, hB⟩

set_option maxRecDepth 100000 in
set_option maxHeartbeats 1000000 in
theorem markRows3_any (B C : Nat) (u : Value) (n : Nat) (G : Nat → Nat → Int) (T : Nat → Nat) (w : World) (hn : n ≤ 10000000) (hu : RowsC B C w u 3 n G T) :
    Calls Tryd.prog 12 #[u, .int .i64 1] w fun e w' => e = .returned (.int .i64 (1 + 3 * n)) ∧ RowsC B C w' u 3 n (fun i j => 1 + 3 * i + j) T ∧ Below B w w' := by
  have HU := hid hu
  obtain ⟨a, cap, rfl, hc1, hm1, hw1, ha, hr, hso⟩ := hu
  have HSO := hid hso
  clear ha hr hso
  unfold maxLen at hm1
  go_enter Tryd.func12, Tryd.ntmps12
  go_wp2_with fail
  go_loopw [5, 1] (fun i m wr => ∃ k : Nat, k ≤ n ∧ i = .int .i64 k ∧ m = .int .i64 (1 + 3 * k) ∧ RowsC B C wr (.slice a n cap) 3 n (fun i j => if i < k then 1 + 3 * (i : Int) + j else G i j) T ∧ Below B w wr) (fun i _ _ => n - (intOf i).toNat)
  case atStart => exact ⟨0, Nat.zero_le _, rfl, by simp, by simpa using HU.out, Below.refl _ _⟩
  case round =>
    obtain ⟨k, hk, rfl, rfl, hR, hB⟩ := hrel
    obtain ⟨a1, cap1, e1, _, _, hC, ha, hr, _⟩ := hR
    cases e1
    by_cases hlt : k < n
    · obtain ⟨g, rfl, hgB, hg, hcell⟩ := ha (by omega)
      obtain ⟨hTB, hTC, hcl⟩ := hr k hlt
      have c0 := (hcell k hlt).1
      have HC := hid hcell; have HR := hid hr; have HB := hid hB; have HL := hid hcl
      clear hcell hr hB ha hcl
      go_wp2_with fail
      refine (markK_any (T k) 3 3 (1 + 3 * k) _ _ HL.out (by omega) (by omega) (by omega) (by omega)).mono ?_
      rintro e w1 ⟨rfl, hcl1, hkb⟩
      have hsz := hkb.2.2.2.1
      have HX := hid hcl1; have HK := hid hkb
      clear hcl1 hkb c0
      go_wp2_with fail
      go_roundw
      case rel => exact ⟨k + 1, by omega, by go_num, by go_num, ⟨_, cap, rfl, hc1, by unfold maxLen; omega, by omega, fun _ => ⟨g, rfl, hgB, hg, fun i hi => ⟨(HK.out.cell (by omega) (by have := (HC.out k hlt).2; omega)).trans (HC.out i hi).1, (HC.out i hi).2⟩⟩, fun i hi => by
          by_cases e : i = k
          · subst e
            exact ⟨hTB, hTC, HX.out.congr (fun j _ => by simp)⟩
          · have hne : T i ≠ T k := by
              rcases Nat.lt_or_gt_of_ne e with h | h
              · have := HSO.out i k h hlt; omega
              · have := HSO.out k i h hi; omega
            exact ⟨(HR.out i hi).1, (HR.out i hi).2.1, ((HR.out i hi).2.2.kb HK.out hne).congr (fun j _ => by
              by_cases h : i < k
              · simp [h, show i < k + 1 by omega]
              · simp [h, show ¬ i < k + 1 by omega])⟩, HSO.out⟩, HB.out.trans (HK.out.below hTB (by omega))⟩
      case measure => simp [intOf]; omega
    · have e : k = n := by omega
      subst e
      have HA := hid ha; have HR := hid hr
      clear ha hr
      go_wp2_with fail
      go_ret
      exact ⟨rfl, ⟨_, cap, rfl, hc1, by unfold maxLen; omega, hC, HA.out, fun i hi => ⟨(HR.out i hi).1, (HR.out i hi).2.1, (HR.out i hi).2.2.congr (fun j _ => by simp [hi])⟩, HSO.out⟩, hB⟩

set_option maxRecDepth 100000 in
set_option maxHeartbeats 1000000 in
theorem heldRows3_any (B C : Nat) (u : Value) (n : Nat) (T : Nat → Nat) (w : World) (hn : n ≤ 10000000) (hu : RowsC B C w u 3 n (fun i j => 1 + 3 * i + j) T) :
    Calls Tryd.prog 13 #[u, .int .i64 1] w fun e w' => e = .returned (.int .i64 (1 + 3 * n)) ∧ Below w.heap.size w w' := by
  have HU := hid hu
  obtain ⟨a, cap, rfl, hc1, hm1, hw1, _⟩ := hu
  unfold maxLen at hm1
  go_enter Tryd.func13, Tryd.ntmps13
  go_wp2_with fail
  go_loopw [5, 1] (fun i m wr => ∃ k : Nat, k ≤ n ∧ i = .int .i64 k ∧ m = .int .i64 (1 + 3 * k) ∧ Below w.heap.size w wr) (fun i _ _ => n - (intOf i).toNat)
  case atStart => exact ⟨0, Nat.zero_le _, rfl, by simp, Below.refl _ _⟩
  case round =>
    obtain ⟨k, hk, rfl, rfl, hB⟩ := hrel
    have hR := HU.out.next hB
    obtain ⟨a1, cap1, e1, _, _, hC, ha, hr, _⟩ := hR
    cases e1
    by_cases hlt : k < n
    · obtain ⟨g, rfl, hgB, hg, hcell⟩ := ha (by omega)
      obtain ⟨hTB, hTC, hcl⟩ := hr k hlt
      have c0 := (hcell k hlt).1
      have HB := hid hB; have HL := hid hcl
      clear hcell hr hB ha hcl
      go_wp2_with fail
      refine (heldK_any (T k) 3 3 (1 + 3 * k) _ HL.out (by omega) (by omega) (by omega) (by omega)).mono ?_
      rintro e w1 ⟨rfl, hb1⟩
      have hsz := hb1.size
      go_wp2_with fail
      go_roundw
      case rel => exact ⟨k + 1, by omega, by go_num, by go_num, gr_trans HB.out hb1⟩
      case measure => simp [intOf]; omega
    · have e : k = n := by omega
      subst e
      clear ha hr
      go_wp2_with fail
      go_ret
      exact ⟨rfl, hB⟩


end Go.Proofs.YtmhlolimaeejfaaDoor
