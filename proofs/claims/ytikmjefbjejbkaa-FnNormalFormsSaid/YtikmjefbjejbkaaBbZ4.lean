/- Several texts in one: XFlS, XMlS. -/
import Derived.Test.YtikmjefbjejbkaaBbZ2
import Derived.Test.YtikmjefbjejbkaaBbZ3
import Derived.Deep.RegionHeld3
import Derived.Deep.DeepCutAuto

/- Lists of forms: copies, comparisons, marks. -/
namespace Go.Proofs.Ytikmjefbjejbkaa
open Go.RowKit

/-- A slice of n forms, their numbers g 0, .., g (3 n - 1). -/
def RdX (w : World) (v : Value) (n : Nat) (g : Nat → Int) : Prop :=
  (v = .slice none 0 0 ∧ n = 0) ∨ ∃ b cap, v = .slice (some ⟨b, 0, none⟩) n cap ∧ n ≤ cap ∧ cap ≤ maxLen ∧ b < w.heap.size ∧ ∀ i, i < 4 * n → w.cell? ⟨b, i, none⟩ = some (.int .i64 (g i))

/-- Four numbers in block b from offset o on. -/
structure At4 (w : World) (b o : Nat) (x y z u : Int) : Prop where
  lt : b < w.heap.size
  c0 : w.cell? ⟨b, o, none⟩ = some (.int .i64 x)
  c1 : w.cell? ⟨b, o + 1, none⟩ = some (.int .i64 y)
  c2 : w.cell? ⟨b, o + 2, none⟩ = some (.int .i64 z)
  c3 : w.cell? ⟨b, o + 3, none⟩ = some (.int .i64 u)
theorem At4.next {w w' : World} {b o : Nat} {x y z u : Int} (h : At4 w b o x y z u) {B : Nat} (hb : Below B w w') (hB : b < B) : At4 w' b o x y z u :=
  ⟨Nat.lt_of_lt_of_le h.lt hb.size, (hb.cell (p := ⟨b, o, none⟩) hB).trans h.c0, (hb.cell (p := ⟨b, o + 1, none⟩) hB).trans h.c1, (hb.cell (p := ⟨b, o + 2, none⟩) hB).trans h.c2, (hb.cell (p := ⟨b, o + 3, none⟩) hB).trans h.c3⟩
theorem At4.drew {w : World} {b o : Nat} {x y z u : Int} (h : At4 w b o x y z u) : At4 w.drew b o x y z u := h.next (gr_drew (Below.refl _ w)) h.lt
theorem At4.drewN {w : World} {b o : Nat} {x y z u : Int} (h : At4 w b o x y z u) (n : Nat) : At4 (w.drewN n) b o x y z u := h.next (gr_drewN (Below.refl _ w) n) h.lt
theorem At4.alloc {w : World} {b o : Nat} {x y z u : Int} (h : At4 w b o x y z u) (ob : Obj) : At4 (w.alloc ob) b o x y z u := h.next (gr_alloc (Below.refl _ w) ob) h.lt
theorem RdX.at4 {w : World} {b n : Nat} {g : Nat → Int} (hb : b < w.heap.size) (h : ∀ i, i < 4 * n → w.cell? ⟨b, i, none⟩ = some (.int .i64 (g i))) {k : Nat} (hk : k < n) : At4 w b (k * 4) (g (k * 4)) (g (k * 4 + 1)) (g (k * 4 + 2)) (g (k * 4 + 3)) :=
  ⟨hb, h _ (by omega), h _ (by omega), h _ (by omega), h _ (by omega)⟩
theorem cellsAt4 {W : World} {b o b' o' : Nat} {x y z u x' y' z' u' : Int} (K : At4 W b o x y z u) (L : At4 W b' o' x' y' z' u') :
    W.cell? ⟨b, o, none⟩ = some (.int .i64 x) ∧ W.cell? ⟨b, o + 1, none⟩ = some (.int .i64 y) ∧ W.cell? ⟨b, o + 2, none⟩ = some (.int .i64 z) ∧ W.cell? ⟨b, o + 3, none⟩ = some (.int .i64 u) ∧ W.cell? ⟨b', o', none⟩ = some (.int .i64 x') ∧ W.cell? ⟨b', o' + 1, none⟩ = some (.int .i64 y') ∧ W.cell? ⟨b', o' + 2, none⟩ = some (.int .i64 z') ∧ W.cell? ⟨b', o' + 3, none⟩ = some (.int .i64 u') := ⟨K.c0, K.c1, K.c2, K.c3, L.c0, L.c1, L.c2, L.c3⟩



/-- A slice of n forms that lies in a block of its own, from B on; or nil. -/
def OwnX (B : Nat) (w : World) (v : Value) (n : Nat) (g : Nat → Int) : Prop :=
  (v = .slice none 0 0 ∧ n = 0) ∨ ∃ k cap, v = .slice (some ⟨k, 0, none⟩) n cap ∧ B ≤ k ∧ n ≤ cap ∧ cap ≤ maxLen ∧ Cl w k (4 * n) g
/-- A slice of n forms in a block below B; or nil. -/
def RdBX (B : Nat) (w : World) (v : Value) (n : Nat) (g : Nat → Int) : Prop :=
  (v = .slice none 0 0 ∧ n = 0) ∨ ∃ b cap, v = .slice (some ⟨b, 0, none⟩) n cap ∧ n ≤ cap ∧ cap ≤ maxLen ∧ b < B ∧ ∀ i, i < 4 * n → w.cell? ⟨b, i, none⟩ = some (.int .i64 (g i))
theorem RdBX.rd {B : Nat} {w : World} {v : Value} {n : Nat} {g : Nat → Int} (h : RdBX B w v n g) (hB : B ≤ w.heap.size) : RdX w v n g := by
  rcases h with h | ⟨b, cap, h1, h2, h3, h4, h5⟩
  · exact .inl h
  · exact .inr ⟨b, cap, h1, h2, h3, by omega, h5⟩
theorem RdBX.below {B : Nat} {w w' : World} {v : Value} {n : Nat} {g : Nat → Int} (h : RdBX B w v n g) {C : Nat} (hb : Below C w w') (hC : B ≤ C) : RdBX B w' v n g := by
  rcases h with h | ⟨b, cap, h1, h2, h3, h4, h5⟩
  · exact .inl h
  · exact .inr ⟨b, cap, h1, h2, h3, h4, fun i hi => (hb.cell (p := ⟨b, i, none⟩) (by show b < C; omega)).trans (h5 i hi)⟩
theorem OwnX.rdB {B : Nat} {w : World} {v : Value} {n : Nat} {g : Nat → Int} (h : OwnX B w v n g) : RdBX w.heap.size w v n g := by
  rcases h with h | ⟨b, cap, h1, _, h2, h3, h5⟩
  · exact .inl h
  · exact .inr ⟨b, cap, h1, h2, h3, h5.1, fun i hi => (h5.2 i hi).1⟩
theorem OwnX.rd {B : Nat} {w : World} {v : Value} {n : Nat} {g : Nat → Int} (h : OwnX B w v n g) : RdX w v n g := h.rdB.rd (Nat.le_refl _)
theorem OwnX.next {B : Nat} {w w' : World} {v : Value} {n : Nat} {g : Nat → Int} (h : OwnX B w v n g) (hb : Below w.heap.size w w') : OwnX B w' v n g := by
  rcases h with h | ⟨b, cap, h1, h6, h2, h3, h5⟩
  · exact .inl h
  · exact .inr ⟨b, cap, h1, h6, h2, h3, h5.below hb⟩
theorem OwnX.base {B B' : Nat} {w : World} {v : Value} {n : Nat} {g : Nat → Int} (h : OwnX B w v n g) (hB : B' ≤ B) : OwnX B' w v n g := by
  rcases h with h | ⟨b, cap, h1, h6, h2, h3, h5⟩
  · exact .inl h
  · exact .inr ⟨b, cap, h1, by omega, h2, h3, h5⟩
/-- A list of forms that the call laid, and a code. -/
def FlsOut (code : Int) (n : Nat) (g : Nat → Int) (w : World) (e : Ending) (w' : World) : Prop :=
  ∃ v, e = .returned (.tuple #[v, .int .i64 code]) ∧ OwnX w.heap.size w' v (if code = 0 then n else 0) g ∧ Below w.heap.size w w'





end Go.Proofs.Ytikmjefbjejbkaa

/- Lists of matrices: comparisons, marks. -/
namespace Go.Proofs.Ytikmjefbjejbkaa
open Go.RowKit

set_option maxRecDepth 100000 in
set_option maxHeartbeats 1000000 in
theorem eqMX_any (u v : Value) (n : Nat) (g : Nat → Int) (w : World) (hu : RdX w u n g) (hv : RdX w v n g) :
    Calls Try.prog 14 #[u, v] w fun e w' => e = .returned (.bool true) ∧ Below w.heap.size w w' := by
  rcases hu with ⟨rfl, hn⟩ | ⟨b, cap, rfl, hc1, hm1, hb1, hcell1⟩
  · rcases hv with ⟨rfl, _⟩ | ⟨b', cap', rfl, hc2, hm2, hb2, hcell2⟩
    · go_enter Try.func14, Try.ntmps14
      go_wp2
      refine wp_loop_rounds 1 ?_
      rw [rounds_succ]; go_wp2
      go_ret
      exact ⟨rfl, Below.refl _ _⟩
    · subst hn
      go_enter Try.func14, Try.ntmps14
      go_wp2
      refine wp_loop_rounds 1 ?_
      rw [rounds_succ]; go_wp2
      go_ret
      exact ⟨rfl, Below.refl _ _⟩
  · unfold maxLen at hm1
    have hlen : ∃ a' cap', v = .slice a' n cap' := by
      rcases hv with ⟨rfl, rfl⟩ | ⟨b', cap', rfl, _⟩
      · exact ⟨_, _, rfl⟩
      · exact ⟨_, _, rfl⟩
    obtain ⟨a', cap', rfl⟩ := hlen
    have HV := hid hv
    have HC := hid hcell1
    clear hv hcell1
    go_enter Try.func14, Try.ntmps14
    go_wp2
    go_loopw [5] (fun i wr => ∃ k : Nat, k ≤ n ∧ i = .int .i64 k ∧ Below w.heap.size w wr) (fun i _ => n - (intOf i).toNat)
    case atStart => exact ⟨0, Nat.zero_le _, rfl, Below.refl _ _⟩
    case round =>
      obtain ⟨k, hk, rfl, hB⟩ := hrel
      by_cases hlt : k < n
      · rcases HV.out with ⟨h0, rfl⟩ | ⟨b', cap'', h0, hc2, hm2, hb2, hcell2⟩
        · omega
        · cases h0
          have C := (RdX.at4 hb1 HC.out hlt).next hB hb1
          have D := (RdX.at4 hb2 hcell2 hlt).next hB hb2
          clear hcell2
          unfold maxLen at hm2
          generalize g (k * 4) = x at C D
          generalize g (k * 4 + 1) = y at C D
          generalize g (k * 4 + 2) = z at C D
          generalize g (k * 4 + 3) = u at C D
          obtain ⟨_, c0, c1, c2, c3⟩ := id C
          obtain ⟨_, d0, d1, d2, d3⟩ := id D
          go_wp2_with fail
          go_region_held3 (fun W => W.cell? ⟨b, k * 4, none⟩ = some (.int .i64 x) ∧ W.cell? ⟨b, k * 4 + 1, none⟩ = some (.int .i64 y) ∧ W.cell? ⟨b, k * 4 + 2, none⟩ = some (.int .i64 z) ∧ W.cell? ⟨b, k * 4 + 3, none⟩ = some (.int .i64 u) ∧ W.cell? ⟨b', k * 4, none⟩ = some (.int .i64 x) ∧ W.cell? ⟨b', k * 4 + 1, none⟩ = some (.int .i64 y) ∧ W.cell? ⟨b', k * 4 + 2, none⟩ = some (.int .i64 z) ∧ W.cell? ⟨b', k * 4 + 3, none⟩ = some (.int .i64 u)) (refine cellsAt4 ?_ ?_ <;> (repeat (first | with_reducible assumption | with_reducible refine At4.drew ?_ | with_reducible refine At4.drewN ?_ _ | with_reducible refine At4.alloc ?_ _ | (with_reducible refine At4.next ?_ (by assumption) ?_; rotate_left; first | omega | (simp; omega))))) ((go_at_call 59; refine (eqMatrix_same _ _ _ _ _).mono ?_; rintro e w9 ⟨rfl, hb9⟩; have hz9 := hb9.size; (try simp at hz9)))
          all_goals (go_wp2_with fail; go_roundw)
          all_goals first
            | (case rel => exact ⟨k + 1, by omega, by go_num, by (repeat' (first | with_reducible exact Below.refl _ _ | with_reducible assumption | with_reducible refine gr_alloc ?_ _ | with_reducible refine gr_drew ?_ | with_reducible refine gr_drewN ?_ _ | with_reducible refine gr_trans ?_ (by assumption) | with_reducible refine gr_set ?_ ?_ _ | (simp; done) | omega | (simp; omega)))⟩)
            | (case measure => simp [intOf]; omega)
      · go_wp2
        go_ret
        exact ⟨rfl, hB⟩

set_option maxRecDepth 100000 in
set_option maxHeartbeats 1000000 in
theorem markMX_any (B : Nat) (v : Value) (n : Nat) (g : Nat → Int) (w : World) (h : OwnX B w v n g) (hl : n ≤ 100000) :
    Calls Try.prog 15 #[v, .int .i64 1] w fun e w' => e = .returned (.int .i64 (1 + 4 * n)) ∧ OwnX B w' v n (fun i => 1 + i) ∧ Below B w w' := by
  rcases h with ⟨rfl, rfl⟩ | ⟨k, cap, rfl, hBk, hlc, hcm, h0⟩
  · go_enter Try.func15, Try.ntmps15
    go_wp2
    refine wp_loop_rounds 1 ?_
    rw [rounds_succ]; go_wp2
    go_ret
    exact ⟨rfl, .inl ⟨rfl, rfl⟩, Below.refl _ _⟩
  · unfold maxLen at hcm
    go_enter Try.func15, Try.ntmps15
    go_wp2_with fail
    go_loopw [5, 1] (fun i c wr => ∃ j : Nat, j ≤ n ∧ i = .int .i64 j ∧ c = .int .i64 (1 + 4 * j) ∧ Cl wr k (4 * n) (fun t => if t < 4 * j then 1 + t else g t) ∧ Below B w wr) (fun i _ _ => n - (intOf i).toNat)
    case atStart => exact ⟨0, Nat.zero_le _, rfl, rfl, h0.congr (fun i _ => by simp), Below.refl _ _⟩
    case round =>
      obtain ⟨j, hj, rfl, rfl, hC, hU⟩ := hrel
      by_cases hlt : j < n
      · obtain ⟨c0, f0⟩ := hC.2 (j * 4) (by omega)
        obtain ⟨c1, f1⟩ := hC.2 (j * 4 + 1) (by omega)
        obtain ⟨c2, f2⟩ := hC.2 (j * 4 + 2) (by omega)
        obtain ⟨c3, f3⟩ := hC.2 (j * 4 + 3) (by omega)
        have hS := hid ((((hC.set (i := j * 4) (by omega) (1 + 4 * j)).set (i := j * 4 + 1) (by omega) (1 + 4 * j + 1)).set (i := j * 4 + 2) (by omega) (1 + 4 * j + 1 + 1)).set (i := j * 4 + 3) (by omega) (1 + 4 * j + 1 + 1 + 1))
        have hU2 := hid (below_set (below_set (below_set (below_set hU (p := ⟨k, j * 4, none⟩) hBk (.int .i64 (1 + 4 * j))) (p := ⟨k, j * 4 + 1, none⟩) hBk (.int .i64 (1 + 4 * j + 1))) (p := ⟨k, j * 4 + 2, none⟩) hBk (.int .i64 (1 + 4 * j + 1 + 1))) (p := ⟨k, j * 4 + 3, none⟩) hBk (.int .i64 (1 + 4 * j + 1 + 1 + 1)))
        clear hC hU h0
        go_wp2_with fail
        refine wp_loop_rounds 5 ?_
        rw [rounds_succ]; go_wp2_with fail
        rw [rounds_succ]; go_wp2_with fail
        rw [rounds_succ]; go_wp2_with fail
        rw [rounds_succ]; go_wp2_with fail
        rw [rounds_succ]; go_wp2_with fail
        go_roundw
        case rel => exact ⟨j + 1, by omega, by go_num, by go_num, hS.out.congr (fun i hi => by
          by_cases h : i < 4 * j
          · simp [h, show i < 4 * (j + 1) by omega, show ¬ i = j * 4 by omega, show ¬ i = j * 4 + 1 by omega, show ¬ i = j * 4 + 2 by omega, show ¬ i = j * 4 + 3 by omega]
          · by_cases h2 : i < 4 * (j + 1)
            · simp only [h2, if_true]
              by_cases e3 : i = j * 4 + 3
              · simp only [e3, if_true]; omega
              by_cases e2 : i = j * 4 + 2
              · simp only [e2, if_true]; omega
              · by_cases e1 : i = j * 4 + 1
                · simp only [e1, if_true]; omega
                · have e0 : i = j * 4 := by omega
                  simp [e0]; omega
            · simp [h, h2, show ¬ i = j * 4 by omega, show ¬ i = j * 4 + 1 by omega, show ¬ i = j * 4 + 2 by omega, show ¬ i = j * 4 + 3 by omega]), hU2.out⟩
        case measure => simp [intOf]; omega
      · have e : j = n := by omega
        subst e
        go_wp2
        go_ret
        exact ⟨rfl, .inr ⟨k, cap, rfl, hBk, hlc, by unfold maxLen; omega, hC.congr (fun i hi => by simp [hi])⟩, hU⟩

set_option maxRecDepth 100000 in
set_option maxHeartbeats 1000000 in
theorem heldMX_any (B : Nat) (v : Value) (n : Nat) (w : World) (h : OwnX B w v n (fun i => 1 + i)) (hl : n ≤ 100000) :
    Calls Try.prog 16 #[v, .int .i64 1] w fun e w' => e = .returned (.int .i64 (1 + 4 * n)) ∧ Below w.heap.size w w' := by
  rcases h with ⟨rfl, rfl⟩ | ⟨k, cap, rfl, hBk, hlc, hcm, h0⟩
  · go_enter Try.func16, Try.ntmps16
    go_wp2
    refine wp_loop_rounds 1 ?_
    rw [rounds_succ]; go_wp2
    go_ret
    exact ⟨rfl, Below.refl _ _⟩
  · unfold maxLen at hcm
    go_enter Try.func16, Try.ntmps16
    go_wp2_with fail
    go_loopw [5, 1] (fun i c wr => ∃ j : Nat, j ≤ n ∧ i = .int .i64 j ∧ c = .int .i64 (1 + 4 * j) ∧ Below w.heap.size w wr) (fun i _ _ => n - (intOf i).toNat)
    case atStart => exact ⟨0, Nat.zero_le _, rfl, rfl, Below.refl _ _⟩
    case round =>
      obtain ⟨j, hj, rfl, rfl, hU⟩ := hrel
      by_cases hlt : j < n
      · have c0 : wr.cell? ⟨k, j * 4, none⟩ = some (.int .i64 (1 + 4 * j)) := (hU.cell (p := ⟨k, j * 4, none⟩) h0.1).trans ((h0.2 (j * 4) (by omega)).1.trans (congrArg (fun z => some (Value.int .i64 z)) (show (1 + ((j * 4 : Nat) : Int)) = 1 + 4 * j by omega)))
        have c1 : wr.cell? ⟨k, j * 4 + 1, none⟩ = some (.int .i64 (1 + 4 * j + 1)) := (hU.cell (p := ⟨k, j * 4 + 1, none⟩) h0.1).trans ((h0.2 (j * 4 + 1) (by omega)).1.trans (congrArg (fun z => some (Value.int .i64 z)) (show (1 + ((j * 4 + 1 : Nat) : Int)) = 1 + 4 * j + 1 by omega)))
        have c2 : wr.cell? ⟨k, j * 4 + 2, none⟩ = some (.int .i64 (1 + 4 * j + 1 + 1)) := (hU.cell (p := ⟨k, j * 4 + 2, none⟩) h0.1).trans ((h0.2 (j * 4 + 2) (by omega)).1.trans (congrArg (fun z => some (Value.int .i64 z)) (show (1 + ((j * 4 + 2 : Nat) : Int)) = 1 + 4 * j + 1 + 1 by omega)))
        have c3 : wr.cell? ⟨k, j * 4 + 3, none⟩ = some (.int .i64 (1 + 4 * j + 1 + 1 + 1)) := (hU.cell (p := ⟨k, j * 4 + 3, none⟩) h0.1).trans ((h0.2 (j * 4 + 3) (by omega)).1.trans (congrArg (fun z => some (Value.int .i64 z)) (show (1 + ((j * 4 + 3 : Nat) : Int)) = 1 + 4 * j + 1 + 1 + 1 by omega)))
        have HU := hid hU
        clear hU h0
        go_wp2_with fail
        refine wp_loop_rounds 5 ?_
        rw [rounds_succ]; go_wp2_with fail
        rw [rounds_succ]; go_wp2_with fail
        rw [rounds_succ]; go_wp2_with fail
        rw [rounds_succ]; go_wp2_with fail
        rw [rounds_succ]; go_wp2_with fail
        go_roundw
        case rel => exact ⟨j + 1, by omega, by go_num, by go_num, by have hU := HU.out; (repeat' (first | with_reducible exact Below.refl _ _ | with_reducible assumption | with_reducible refine gr_alloc ?_ _ | with_reducible refine gr_drew ?_ | with_reducible refine gr_drewN ?_ _ | with_reducible refine gr_trans ?_ (by assumption) | with_reducible refine gr_set ?_ ?_ _ | (simp; done) | omega | (simp; omega)))⟩
        case measure => simp [intOf]; omega
      · have e : j = n := by omega
        subst e
        go_wp2
        go_ret
        exact ⟨rfl, hU⟩



end Go.Proofs.Ytikmjefbjejbkaa
