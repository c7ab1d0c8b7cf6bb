/- Lists of quadratic forms: copies, comparisons, marks. -/
import Derived.Test.YtofoahdnkcbhbaaQ
import Derived.Test.YtofoahdnkcbhbaaList2
import Derived.Test.YtofoahdnkcbhbaaBx
import Derived.Deep.RegionHeld3
import Derived.Deep.DeepCutAuto
namespace Go.Proofs.Ytofoahdnkcbhbaa
open Go.RowKit

/-- A slice of n quadratic forms, their numbers g 0, .., g (3 n - 1). -/
def RdU (w : World) (v : Value) (n : Nat) (g : Nat → Int) : Prop :=
  (v = .slice none 0 0 ∧ n = 0) ∨ ∃ b cap, v = .slice (some ⟨b, 0, none⟩) n cap ∧ n ≤ cap ∧ cap ≤ maxLen ∧ b < w.heap.size ∧ ∀ i, i < 3 * n → w.cell? ⟨b, i, none⟩ = some (.int .i64 (g i))

/-- Three numbers in block b from offset o on. -/
structure At3 (w : World) (b o : Nat) (x y z : Int) : Prop where
  lt : b < w.heap.size
  c0 : w.cell? ⟨b, o, none⟩ = some (.int .i64 x)
  c1 : w.cell? ⟨b, o + 1, none⟩ = some (.int .i64 y)
  c2 : w.cell? ⟨b, o + 2, none⟩ = some (.int .i64 z)
theorem At3.next {w w' : World} {b o : Nat} {x y z : Int} (h : At3 w b o x y z) {B : Nat} (hb : Below B w w') (hB : b < B) : At3 w' b o x y z :=
  ⟨Nat.lt_of_lt_of_le h.lt hb.size, (hb.cell (p := ⟨b, o, none⟩) hB).trans h.c0, (hb.cell (p := ⟨b, o + 1, none⟩) hB).trans h.c1, (hb.cell (p := ⟨b, o + 2, none⟩) hB).trans h.c2⟩
theorem At3.drew {w : World} {b o : Nat} {x y z : Int} (h : At3 w b o x y z) : At3 w.drew b o x y z := h.next (gr_drew (Below.refl _ w)) h.lt
theorem At3.drewN {w : World} {b o : Nat} {x y z : Int} (h : At3 w b o x y z) (n : Nat) : At3 (w.drewN n) b o x y z := h.next (gr_drewN (Below.refl _ w) n) h.lt
theorem At3.alloc {w : World} {b o : Nat} {x y z : Int} (h : At3 w b o x y z) (ob : Obj) : At3 (w.alloc ob) b o x y z := h.next (gr_alloc (Below.refl _ w) ob) h.lt
theorem RdU.at3 {w : World} {b n : Nat} {g : Nat → Int} (hb : b < w.heap.size) (h : ∀ i, i < 3 * n → w.cell? ⟨b, i, none⟩ = some (.int .i64 (g i))) {k : Nat} (hk : k < n) : At3 w b (k * 3) (g (k * 3)) (g (k * 3 + 1)) (g (k * 3 + 2)) :=
  ⟨hb, h _ (by omega), h _ (by omega), h _ (by omega)⟩
theorem cellsAt2 {W : World} {b o b' o' : Nat} {x y z x' y' z' : Int} (K : At3 W b o x y z) (L : At3 W b' o' x' y' z') :
    W.cell? ⟨b, o, none⟩ = some (.int .i64 x) ∧ W.cell? ⟨b, o + 1, none⟩ = some (.int .i64 y) ∧ W.cell? ⟨b, o + 2, none⟩ = some (.int .i64 z) ∧ W.cell? ⟨b', o', none⟩ = some (.int .i64 x') ∧ W.cell? ⟨b', o' + 1, none⟩ = some (.int .i64 y') ∧ W.cell? ⟨b', o' + 2, none⟩ = some (.int .i64 z') := ⟨K.c0, K.c1, K.c2, L.c0, L.c1, L.c2⟩

set_option maxRecDepth 100000 in
set_option maxHeartbeats 1000000 in
theorem eqU_any (u v : Value) (n : Nat) (g : Nat → Int) (w : World) (hu : RdU w u n g) (hv : RdU w v n g) :
    Calls Try.prog 20 #[u, v] w fun e w' => e = .returned (.bool true) ∧ Below w.heap.size w w' := by
  rcases hu with ⟨rfl, hn⟩ | ⟨b, cap, rfl, hc1, hm1, hb1, hcell1⟩
  · rcases hv with ⟨rfl, _⟩ | ⟨b', cap', rfl, hc2, hm2, hb2, hcell2⟩
    · go_enter Try.func20, Try.ntmps20
      go_wp2
      refine wp_loop_rounds 1 ?_
      rw [rounds_succ]; go_wp2
      go_ret
      exact ⟨rfl, Below.refl _ _⟩
    · subst hn
      go_enter Try.func20, Try.ntmps20
      go_wp2
      refine wp_loop_rounds 1 ?_
      rw [rounds_succ]; go_wp2
      go_ret
      exact ⟨rfl, Below.refl _ _⟩
  · unfold maxLen at hm1
    have hlen : ∃ a' cap', v = .slice a' n cap' := by
      rcases hv with ⟨rfl, rfl⟩ | ⟨b', cap', rfl, _⟩
      · exact ⟨_, _, rfl⟩
      · exact ⟨_, _, rfl⟩
    obtain ⟨a', cap', rfl⟩ := hlen
    have HV := hid hv
    have HC := hid hcell1
    clear hv hcell1
    go_enter Try.func20, Try.ntmps20
    go_wp2
    go_loopw [5] (fun i wr => ∃ k : Nat, k ≤ n ∧ i = .int .i64 k ∧ Below w.heap.size w wr) (fun i _ => n - (intOf i).toNat)
    case atStart => exact ⟨0, Nat.zero_le _, rfl, Below.refl _ _⟩
    case round =>
      obtain ⟨k, hk, rfl, hB⟩ := hrel
      by_cases hlt : k < n
      · rcases HV.out with ⟨h0, rfl⟩ | ⟨b', cap'', h0, hc2, hm2, hb2, hcell2⟩
        · omega
        · cases h0
          have C := (RdU.at3 hb1 HC.out hlt).next hB hb1
          have D := (RdU.at3 hb2 hcell2 hlt).next hB hb2
          clear hcell2
          unfold maxLen at hm2
          generalize g (k * 3) = x at C D
          generalize g (k * 3 + 1) = y at C D
          generalize g (k * 3 + 2) = z at C D
          obtain ⟨_, c0, c1, c2⟩ := id C
          obtain ⟨_, d0, d1, d2⟩ := id D
          go_wp2_with fail
          go_region_held3 (fun W => W.cell? ⟨b, k * 3, none⟩ = some (.int .i64 x) ∧ W.cell? ⟨b, k * 3 + 1, none⟩ = some (.int .i64 y) ∧ W.cell? ⟨b, k * 3 + 2, none⟩ = some (.int .i64 z) ∧ W.cell? ⟨b', k * 3, none⟩ = some (.int .i64 x) ∧ W.cell? ⟨b', k * 3 + 1, none⟩ = some (.int .i64 y) ∧ W.cell? ⟨b', k * 3 + 2, none⟩ = some (.int .i64 z)) (refine cellsAt2 ?_ ?_ <;> (repeat (first | with_reducible assumption | with_reducible refine At3.drew ?_ | with_reducible refine At3.drewN ?_ _ | with_reducible refine At3.alloc ?_ _ | (with_reducible refine At3.next ?_ (by assumption) ?_; rotate_left; first | omega | (simp; omega))))) ((go_at_call 17; refine (eqQuadratic_same _ _ _ _).mono ?_; rintro e w9 ⟨rfl, hb9⟩; have hz9 := hb9.size; (try simp at hz9)))
          all_goals (go_wp2_with fail; go_roundw)
          all_goals first
            | (case rel => exact ⟨k + 1, by omega, by go_num, by (repeat' (first | with_reducible exact Below.refl _ _ | with_reducible assumption | with_reducible refine gr_alloc ?_ _ | with_reducible refine gr_drew ?_ | with_reducible refine gr_drewN ?_ _ | with_reducible refine gr_trans ?_ (by assumption) | with_reducible refine gr_set ?_ ?_ _ | (simp; done) | omega | (simp; omega)))⟩)
            | (case measure => simp [intOf]; omega)
      · go_wp2
        go_ret
        exact ⟨rfl, hB⟩

/-- A slice of n quadratic forms that lies in a block of its own, from B on; or nil. -/
def OwnU (B : Nat) (w : World) (v : Value) (n : Nat) (g : Nat → Int) : Prop :=
  (v = .slice none 0 0 ∧ n = 0) ∨ ∃ k cap, v = .slice (some ⟨k, 0, none⟩) n cap ∧ B ≤ k ∧ n ≤ cap ∧ cap ≤ maxLen ∧ Cl w k (3 * n) g
/-- A slice of n quadratic forms in a block below B; or nil. -/
def RdBU (B : Nat) (w : World) (v : Value) (n : Nat) (g : Nat → Int) : Prop :=
  (v = .slice none 0 0 ∧ n = 0) ∨ ∃ b cap, v = .slice (some ⟨b, 0, none⟩) n cap ∧ n ≤ cap ∧ cap ≤ maxLen ∧ b < B ∧ ∀ i, i < 3 * n → w.cell? ⟨b, i, none⟩ = some (.int .i64 (g i))
theorem RdBU.rd {B : Nat} {w : World} {v : Value} {n : Nat} {g : Nat → Int} (h : RdBU B w v n g) (hB : B ≤ w.heap.size) : RdU w v n g := by
  rcases h with h | ⟨b, cap, h1, h2, h3, h4, h5⟩
  · exact .inl h
  · exact .inr ⟨b, cap, h1, h2, h3, by omega, h5⟩
theorem RdBU.below {B : Nat} {w w' : World} {v : Value} {n : Nat} {g : Nat → Int} (h : RdBU B w v n g) {C : Nat} (hb : Below C w w') (hC : B ≤ C) : RdBU B w' v n g := by
  rcases h with h | ⟨b, cap, h1, h2, h3, h4, h5⟩
  · exact .inl h
  · exact .inr ⟨b, cap, h1, h2, h3, h4, fun i hi => (hb.cell (p := ⟨b, i, none⟩) (by show b < C; omega)).trans (h5 i hi)⟩
theorem OwnU.rdB {B : Nat} {w : World} {v : Value} {n : Nat} {g : Nat → Int} (h : OwnU B w v n g) : RdBU w.heap.size w v n g := by
  rcases h with h | ⟨b, cap, h1, _, h2, h3, h5⟩
  · exact .inl h
  · exact .inr ⟨b, cap, h1, h2, h3, h5.1, fun i hi => (h5.2 i hi).1⟩
theorem OwnU.rd {B : Nat} {w : World} {v : Value} {n : Nat} {g : Nat → Int} (h : OwnU B w v n g) : RdU w v n g := h.rdB.rd (Nat.le_refl _)
theorem OwnU.next {B : Nat} {w w' : World} {v : Value} {n : Nat} {g : Nat → Int} (h : OwnU B w v n g) (hb : Below w.heap.size w w') : OwnU B w' v n g := by
  rcases h with h | ⟨b, cap, h1, h6, h2, h3, h5⟩
  · exact .inl h
  · exact .inr ⟨b, cap, h1, h6, h2, h3, h5.below hb⟩
theorem OwnU.base {B B' : Nat} {w : World} {v : Value} {n : Nat} {g : Nat → Int} (h : OwnU B w v n g) (hB : B' ≤ B) : OwnU B' w v n g := by
  rcases h with h | ⟨b, cap, h1, h6, h2, h3, h5⟩
  · exact .inl h
  · exact .inr ⟨b, cap, h1, by omega, h2, h3, h5⟩
/-- A list of quadratic forms that the call laid, and a code. -/
def QlsOut (code : Int) (n : Nat) (g : Nat → Int) (w : World) (e : Ending) (w' : World) : Prop :=
  ∃ v, e = .returned (.tuple #[v, .int .i64 code]) ∧ OwnU w.heap.size w' v (if code = 0 then n else 0) g ∧ Below w.heap.size w w'

set_option maxRecDepth 100000 in
set_option maxHeartbeats 1000000 in
theorem markU_any (B : Nat) (v : Value) (n : Nat) (g : Nat → Int) (w : World) (h : OwnU B w v n g) (hl : n ≤ 1000) :
    Calls Try.prog 21 #[v, .int .i64 1] w fun e w' => e = .returned (.int .i64 (1 + 3 * n)) ∧ OwnU B w' v n (fun i => 1 + i) ∧ Below B w w' := by
  rcases h with ⟨rfl, rfl⟩ | ⟨k, cap, rfl, hBk, hlc, hcm, h0⟩
  · go_enter Try.func21, Try.ntmps21
    go_wp2
    refine wp_loop_rounds 1 ?_
    rw [rounds_succ]; go_wp2
    go_ret
    exact ⟨rfl, .inl ⟨rfl, rfl⟩, Below.refl _ _⟩
  · unfold maxLen at hcm
    go_enter Try.func21, Try.ntmps21
    go_wp2_with fail
    go_loopw [5, 1] (fun i c wr => ∃ j : Nat, j ≤ n ∧ i = .int .i64 j ∧ c = .int .i64 (1 + 3 * j) ∧ Cl wr k (3 * n) (fun t => if t < 3 * j then 1 + t else g t) ∧ Below B w wr) (fun i _ _ => n - (intOf i).toNat)
    case atStart => exact ⟨0, Nat.zero_le _, rfl, rfl, h0.congr (fun i _ => by simp), Below.refl _ _⟩
    case round =>
      obtain ⟨j, hj, rfl, rfl, hC, hU⟩ := hrel
      by_cases hlt : j < n
      · obtain ⟨c0, f0⟩ := hC.2 (j * 3) (by omega)
        obtain ⟨c1, f1⟩ := hC.2 (j * 3 + 1) (by omega)
        obtain ⟨c2, f2⟩ := hC.2 (j * 3 + 2) (by omega)
        have hS := hid (((hC.set (i := j * 3) (by omega) (1 + 3 * j)).set (i := j * 3 + 1) (by omega) (1 + 3 * j + 1)).set (i := j * 3 + 2) (by omega) (1 + 3 * j + 1 + 1))
        have hU2 := hid (below_set (below_set (below_set hU (p := ⟨k, j * 3, none⟩) hBk (.int .i64 (1 + 3 * j))) (p := ⟨k, j * 3 + 1, none⟩) hBk (.int .i64 (1 + 3 * j + 1))) (p := ⟨k, j * 3 + 2, none⟩) hBk (.int .i64 (1 + 3 * j + 1 + 1)))
        clear hC hU h0
        go_wp2_with fail
        refine wp_loop_rounds 4 ?_
        rw [rounds_succ]; go_wp2_with fail
        rw [rounds_succ]; go_wp2_with fail
        rw [rounds_succ]; go_wp2_with fail
        rw [rounds_succ]; go_wp2_with fail
        go_roundw
        case rel => exact ⟨j + 1, by omega, by go_num, by go_num, hS.out.congr (fun i hi => by
          by_cases h : i < 3 * j
          · simp [h, show i < 3 * (j + 1) by omega, show ¬ i = j * 3 by omega, show ¬ i = j * 3 + 1 by omega, show ¬ i = j * 3 + 2 by omega]
          · by_cases h2 : i < 3 * (j + 1)
            · simp only [h2, if_true]
              by_cases e2 : i = j * 3 + 2
              · simp only [e2, if_true]; omega
              · by_cases e1 : i = j * 3 + 1
                · simp only [e1, if_true]; omega
                · have e0 : i = j * 3 := by omega
                  simp [e0]; omega
            · simp [h, h2, show ¬ i = j * 3 by omega, show ¬ i = j * 3 + 1 by omega, show ¬ i = j * 3 + 2 by omega]), hU2.out⟩
        case measure => simp [intOf]; omega
      · have e : j = n := by omega
        subst e
        go_wp2
        go_ret
        exact ⟨rfl, .inr ⟨k, cap, rfl, hBk, hlc, by unfold maxLen; omega, hC.congr (fun i hi => by simp [hi])⟩, hU⟩

set_option maxRecDepth 100000 in
set_option maxHeartbeats 1000000 in
theorem heldU_any (B : Nat) (v : Value) (n : Nat) (w : World) (h : OwnU B w v n (fun i => 1 + i)) (hl : n ≤ 1000) :
    Calls Try.prog 22 #[v, .int .i64 1] w fun e w' => e = .returned (.int .i64 (1 + 3 * n)) ∧ Below w.heap.size w w' := by
  rcases h with ⟨rfl, rfl⟩ | ⟨k, cap, rfl, hBk, hlc, hcm, h0⟩
  · go_enter Try.func22, Try.ntmps22
    go_wp2
    refine wp_loop_rounds 1 ?_
    rw [rounds_succ]; go_wp2
    go_ret
    exact ⟨rfl, Below.refl _ _⟩
  · unfold maxLen at hcm
    go_enter Try.func22, Try.ntmps22
    go_wp2_with fail
    go_loopw [5, 1] (fun i c wr => ∃ j : Nat, j ≤ n ∧ i = .int .i64 j ∧ c = .int .i64 (1 + 3 * j) ∧ Below w.heap.size w wr) (fun i _ _ => n - (intOf i).toNat)
    case atStart => exact ⟨0, Nat.zero_le _, rfl, rfl, Below.refl _ _⟩
    case round =>
      obtain ⟨j, hj, rfl, rfl, hU⟩ := hrel
      by_cases hlt : j < n
      · have c0 : wr.cell? ⟨k, j * 3, none⟩ = some (.int .i64 (1 + 3 * j)) := (hU.cell (p := ⟨k, j * 3, none⟩) h0.1).trans ((h0.2 (j * 3) (by omega)).1.trans (congrArg (fun z => some (Value.int .i64 z)) (show (1 + ((j * 3 : Nat) : Int)) = 1 + 3 * j by omega)))
        have c1 : wr.cell? ⟨k, j * 3 + 1, none⟩ = some (.int .i64 (1 + 3 * j + 1)) := (hU.cell (p := ⟨k, j * 3 + 1, none⟩) h0.1).trans ((h0.2 (j * 3 + 1) (by omega)).1.trans (congrArg (fun z => some (Value.int .i64 z)) (show (1 + ((j * 3 + 1 : Nat) : Int)) = 1 + 3 * j + 1 by omega)))
        have c2 : wr.cell? ⟨k, j * 3 + 2, none⟩ = some (.int .i64 (1 + 3 * j + 1 + 1)) := (hU.cell (p := ⟨k, j * 3 + 2, none⟩) h0.1).trans ((h0.2 (j * 3 + 2) (by omega)).1.trans (congrArg (fun z => some (Value.int .i64 z)) (show (1 + ((j * 3 + 2 : Nat) : Int)) = 1 + 3 * j + 1 + 1 by omega)))
        have HU := hid hU
        clear hU h0
        go_wp2_with fail
        refine wp_loop_rounds 4 ?_
        rw [rounds_succ]; go_wp2_with fail
        rw [rounds_succ]; go_wp2_with fail
        rw [rounds_succ]; go_wp2_with fail
        rw [rounds_succ]; go_wp2_with fail
        go_roundw
        case rel => exact ⟨j + 1, by omega, by go_num, by go_num, by have hU := HU.out; (repeat' (first | with_reducible exact Below.refl _ _ | with_reducible assumption | with_reducible refine gr_alloc ?_ _ | with_reducible refine gr_drew ?_ | with_reducible refine gr_drewN ?_ _ | with_reducible refine gr_trans ?_ (by assumption) | with_reducible refine gr_set ?_ ?_ _ | (simp; done) | omega | (simp; omega)))⟩
        case measure => simp [intOf]; omega
      · have e : j = n := by omega
        subst e
        go_wp2
        go_ret
        exact ⟨rfl, hU⟩

end Go.Proofs.Ytofoahdnkcbhbaa
