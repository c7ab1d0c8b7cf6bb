/- Chapter 2: the model's l02To (its drawn region 2 by hand: mkto.py). -/
import Derived.Test.YtikmjefbjejbkaaBbPo
namespace Go.Proofs.Ytikmjefbjejbkaa
open Go.RowKit

theorem RowM.rda {w : World} {B g n cap : Nat} {L : List Red.F4} (h : RowM B w (.slice (some ⟨g, 0, none⟩) n cap) L) : RdA w g cap L ∧ n = L.length := by
  obtain ⟨a, c, e⟩ := h.val
  cases e
  exact ⟨RdA.of h, rfl⟩
theorem cells12A {W : World} {i o j k : Nat} {a b c d p q r s x y z t : Int} (A : At4 W i o a b c d) (B : Arr W j p q r s) (C : Arr W k x y z t) :
    W.cell? ⟨i, o, none⟩ = some (.int .i64 a) ∧ W.cell? ⟨i, o + 1, none⟩ = some (.int .i64 b) ∧ W.cell? ⟨i, o + 2, none⟩ = some (.int .i64 c) ∧ W.cell? ⟨i, o + 3, none⟩ = some (.int .i64 d) ∧ W.cell? ⟨j, 0, none⟩ = some (.int .i64 p) ∧ W.cell? ⟨j, 1, none⟩ = some (.int .i64 q) ∧ W.cell? ⟨j, 2, none⟩ = some (.int .i64 r) ∧ W.cell? ⟨j, 3, none⟩ = some (.int .i64 s) ∧ W.cell? ⟨k, 0, none⟩ = some (.int .i64 x) ∧ W.cell? ⟨k, 1, none⟩ = some (.int .i64 y) ∧ W.cell? ⟨k, 2, none⟩ = some (.int .i64 z) ∧ W.cell? ⟨k, 3, none⟩ = some (.int .i64 t) :=
  ⟨A.c0, A.c1, A.c2, A.c3, B.c0, B.c1, B.c2, B.c3, C.c0, C.c1, C.c2, C.c3⟩
/-- The first place of a row. -/
structure First (w : World) (g : Nat) (x y z u : Int) : Prop where
  lt : g < w.heap.size
  c0 : w.cell? ⟨g, 0, none⟩ = some (.int .i64 x)
  c1 : w.cell? ⟨g, 1, none⟩ = some (.int .i64 y)
  c2 : w.cell? ⟨g, 2, none⟩ = some (.int .i64 z)
  c3 : w.cell? ⟨g, 3, none⟩ = some (.int .i64 u)
theorem First.next {w w' : World} {g : Nat} {x y z u : Int} (h : First w g x y z u) (hb : Below w.heap.size w w') : First w' g x y z u :=
  ⟨Nat.lt_of_lt_of_le h.lt hb.size, (hb.cell (p := ⟨g, 0, none⟩) h.lt).trans h.c0, (hb.cell (p := ⟨g, 1, none⟩) h.lt).trans h.c1, (hb.cell (p := ⟨g, 2, none⟩) h.lt).trans h.c2, (hb.cell (p := ⟨g, 3, none⟩) h.lt).trans h.c3⟩
theorem First.drew {w : World} {g : Nat} {x y z u : Int} (h : First w g x y z u) : First w.drew g x y z u := h.next (gr_drew (Below.refl _ w))
theorem First.alloc {w : World} {g : Nat} {x y z u : Int} (h : First w g x y z u) (o : Obj) : First (w.alloc o) g x y z u := h.next (gr_alloc (Below.refl _ w) o)
theorem first_at {w : World} {B g n cap : Nat} {xs : List Red.F4} {x y z u : Int} (h : RowFm B w (.slice (some ⟨g, 0, none⟩) n cap) xs) (hx : xs[0]? = some (x, y, z, u)) : First w g x y z u := by
  have hat := h.rda.1.at4 0 _ hx
  simp only [Nat.zero_mul] at hat
  obtain ⟨h0, h1, h2, h3, h4⟩ := hat
  simp only [Nat.zero_add] at h2 h3 h4
  exact ⟨h0, h1, h2, h3, h4⟩
theorem Arr.elimzM {G : Prop} {w : World} {k : Nat} (h : Arr w k 0 0 0 0) (K : Arr w k 0 0 0 0 → G) : G := K h
theorem units_at {w : World} {B : Nat} {v : Value} {us : List Red.F4} (h : RowM B w v us) (hne : us ≠ []) : ∃ g cap, v = .slice (some ⟨g, 0, none⟩) us.length cap ∧ RdA w g cap us := by
  have hp := List.length_pos_iff.2 hne
  rcases id h.2 with ⟨_, h0⟩ | ⟨g, cap, cur, rfl, _⟩
  · omega
  · exact ⟨g, cap, rfl, h.rda.1⟩
theorem first_pos {w : World} {B g n cap : Nat} {xs : List Red.F4} {q : Red.F4} (h : RowFm B w (.slice (some ⟨g, 0, none⟩) n cap) xs) (hx : xs[0]? = some q) : (0 : Int) < (n : Int) ∧ (0 : Int) ≤ (n : Int) ∧ 0 < n := by
  have := (List.getElem?_eq_some_iff.1 hx).1
  have := h.rda.2
  omega
theorem row_cap {w : World} {B g n cap : Nat} {xs : List Red.F4} (h : RowFm B w (.slice (some ⟨g, 0, none⟩) n cap) xs) : n ≤ cap ∧ cap ≤ 2 ^ 63 - 1 := by
  have h1 := h.rda.1.le
  have h2 := h.rda.1.mx
  have h3 := h.rda.2
  unfold maxLen at h2
  omega
/-- A row of matrices in order that holds the ways, in some order. -/
def ToOut (T M N : Red.F4) (us : List Red.F4) (w : World) (e : Ending) (w' : World) : Prop :=
  ∃ g n cap xs, e = .returned (.slice (some ⟨g, 0, none⟩) n cap) ∧ Rd.Asc xs ∧ xs.Perm (Rd.wys T M us N) ∧ RowM w.heap.size w' (.slice (some ⟨g, 0, none⟩) n cap) xs ∧ Below w.heap.size w w'
/-- A stronger condition on the worlds serves. -/
theorem wpAnyH_strong {P : Program} {md : Region.Mode} {ops : Array Oper} {Q : Exit → Act → World → Prop} {S S' : World → Prop} (h : ∀ w, S' w → S w) :
    ∀ (fuel : Nat) (listed : Array Bool) (a : Act) (w : World), wpAnyH P md ops Q S' fuel listed a w → wpAnyH P md ops Q S fuel listed a w
  | 0, _, _, _, hk => hk
  | fuel + 1, _, _, _, hk => ⟨hk.1, fun i hi => wpOp_mono (fun a' w' h' => ⟨h _ h'.1, wpAnyH_strong h fuel _ a' w' h'.2⟩) (hk.2 i hi)⟩
def set4W (W : World) (z : Nat) (a b c d : Value) : World := (((W.setCell ⟨z, 0, none⟩ a).setCell ⟨z, 1, none⟩ b).setCell ⟨z, 2, none⟩ c).setCell ⟨z, 3, none⟩ d
theorem set4_heap {W : World} {z k : Nat} (h : k ≠ z) (a b c d : Value) : (((((W.setCell ⟨z, 0, none⟩ a).setCell ⟨z, 1, none⟩ b).setCell ⟨z, 2, none⟩ c).setCell ⟨z, 3, none⟩ d)).heap[k]? = W.heap[k]? := by
  rw [Below.heap_setCell _ _ _ k h, Below.heap_setCell _ _ _ k h, Below.heap_setCell _ _ _ k h, Below.heap_setCell _ _ _ k h]
theorem cell_heap {W W' : World} {k : Nat} (h : W'.heap[k]? = W.heap[k]?) (o : Nat) : W'.cell? ⟨k, o, none⟩ = W.cell? ⟨k, o, none⟩ := World.cell?_of_block (a := ⟨k, o, none⟩) h
theorem First.at {W W' : World} {g : Nat} {x y z u : Int} (F : First W g x y z u) (h : W'.heap[g]? = W.heap[g]?) (hs : W.heap.size ≤ W'.heap.size) : First W' g x y z u :=
  ⟨Nat.lt_of_lt_of_le F.lt hs, (cell_heap h _).trans F.c0, (cell_heap h _).trans F.c1, (cell_heap h _).trans F.c2, (cell_heap h _).trans F.c3⟩
theorem RdA.atB {W W' : World} {g cap : Nat} {L : List Red.F4} (F : RdA W g cap L) (h : W'.heap[g]? = W.heap[g]?) (hs : W.heap.size ≤ W'.heap.size) : RdA W' g cap L :=
  ⟨Nat.lt_of_lt_of_le F.lt hs, F.le, F.mx, fun k q hk => ⟨Nat.lt_of_lt_of_le F.lt hs, (cell_heap h _).trans (F.at4 k q hk).c0, (cell_heap h _).trans (F.at4 k q hk).c1, (cell_heap h _).trans (F.at4 k q hk).c2, (cell_heap h _).trans (F.at4 k q hk).c3⟩⟩
/-- An empty row. -/
def Emp (W : World) (g : Nat) : Prop := W.heap[g]? = some (.cells #[] 44 (0, 0))
theorem Emp.lt {W : World} {g : Nat} (h : Emp W g) : g < W.heap.size := (Array.getElem?_eq_some_iff.1 h).1
theorem Emp.next {W W' : World} {g : Nat} (h : Emp W g) (hb : Below W.heap.size W W') : Emp W' g := (hb.block g h.lt).trans h
theorem Emp.row {W : World} {B g : Nat} (h : Emp W g) (hB : B ≤ g) : RowM B W (.slice (some ⟨g, 0, none⟩) 0 0) [] := ⟨rfl, .inr ⟨g, 0, #[], rfl, hB, h, Nat.le_refl _, by decide, rfl, rfl⟩⟩
theorem rowM_ge {w : World} {B : Nat} {us : List Red.F4} {g n cap : Nat} (h : RowM B w (.slice (some ⟨g, 0, none⟩) n cap) us) : B ≤ g := by
  rcases h.2 with ⟨h0, _⟩ | ⟨g', cap', cur, hv, hb, _⟩
  · cases h0
  · cases hv; exact hb
theorem rowFm_ge {w : World} {B : Nat} {us : List Red.F4} {g n cap : Nat} (h : RowFm B w (.slice (some ⟨g, 0, none⟩) n cap) us) : B ≤ g := by
  rcases h.2 with ⟨h0, _⟩ | ⟨g', cap', cur, hv, hb, _⟩
  · cases h0
  · cases hv; exact hb
theorem units_at2 {w : World} {B : Nat} {v : Value} {us : List Red.F4} (h : RowM B w v us) (hne : us ≠ []) : ∃ g cap, v = .slice (some ⟨g, 0, none⟩) us.length cap ∧ RdA w g cap us ∧ B ≤ g := by
  obtain ⟨g, cap, rfl, h2⟩ := units_at h hne
  exact ⟨g, cap, rfl, h2, rowM_ge h⟩
theorem alloc_size (W : World) (o : Obj) : (W.alloc o).heap.size = W.heap.size + 1 := World.size_alloc W o
theorem cells8G {W : World} {i g : Nat} {a b c d p q r s : Int} (A : Arr W i a b c d) (G : First W g p q r s) :
    W.cell? ⟨i, 0, none⟩ = some (.int .i64 a) ∧ W.cell? ⟨i, 1, none⟩ = some (.int .i64 b) ∧ W.cell? ⟨i, 2, none⟩ = some (.int .i64 c) ∧ W.cell? ⟨i, 3, none⟩ = some (.int .i64 d) ∧ W.cell? ⟨g, 0, none⟩ = some (.int .i64 p) ∧ W.cell? ⟨g, 1, none⟩ = some (.int .i64 q) ∧ W.cell? ⟨g, 2, none⟩ = some (.int .i64 r) ∧ W.cell? ⟨g, 3, none⟩ = some (.int .i64 s) :=
  ⟨A.c0, A.c1, A.c2, A.c3, G.c0, G.c1, G.c2, G.c3⟩
set_option maxRecDepth 100000 in
set_option maxHeartbeats 4000000 in
theorem sTo_any (a b c d : Int) (s : Bool) (T M N : Red.F4) (hU : Red.UB T) (hs : ∀ u, Rd.Sm u → Rd.dt u * Rd.dt u = 1 → decide (0 < dsc (Rd.ch T u).1 (Rd.ch T u).2.1 (Rd.ch T u).2.2.1 (Rd.ch T u).2.2.2) = s)
    (hN : ∀ xs, Rd.Got s T (Rd.uni 81) xs → xs[0]? = some N)
    (hR : ∀ w, Calls Try.prog 70 #[.agg #[.int .i64 a, .int .i64 b, .int .i64 c, .int .i64 d]] w fun e w' => e = .returned (.tuple #[vF T, vF M]) ∧ Below w.heap.size w w') (w : World) :
    Calls Try.prog 77 #[.agg #[.int .i64 a, .int .i64 b, .int .i64 c, .int .i64 d]] w (ToOut T M N (Rd.uni 81) w) := by
  have hum : ∀ u ∈ Rd.uni 81, Rd.Sm u ∧ Rd.dt u * Rd.dt u = 1 := fun u hu => Rd.uni_mem (Nat.le_refl _) hu
  have hul := Rd.uni_len 81
  have hun := fun W => sUnits_any W
  have hf := fun W => sForms_any s T hU hs W
  have hne : Rd.uni 81 ≠ [] := fun e => by have h := Rd.uni_has (u := (1, 0, 0, 1)) (by unfold Rd.Sm; decide) (by decide); rw [e] at h; cases h
  unfold UnOut at hun
  generalize Rd.uni 81 = us at *
  have HF := hid hf; have HUN := hid hne
  have HC := hid (fun u (h1 : Rd.Sm u) (h2 : Rd.dt u * Rd.dt u = 1) W => sCh_any T u (Rd.ch_bd hU h1 h2) W)
  have HR := hid hR; have HN := hid hN; have HNU := hid hun; have HM := hid hum; have HL := hid hul
  clear hU hs hR hN hun hum hul hf hne
  have HWT : ∀ k u, us[k]? = some u → Hid (Rd.wys T M (us.take (k + 1)) N = Rd.wys T M (us.take k) N ++ (if Rd.ch T u = N then [Rd.mm M u] else [])) := fun k u hu => hid (by
    rw [List.take_add_one, hu]
    unfold Rd.wys
    rw [Option.toList_some, List.filter_append, List.map_append]
    congr 1
    by_cases h : Rd.ch T u = N
    · simp [h]
    · simp [h])
  obtain ⟨ta, tb, tc, td⟩ := T
  obtain ⟨ma, mb, mc, md⟩ := M
  obtain ⟨n0, n1, n2, n3⟩ := N
  have HW := hid HWT
  clear HWT
  unfold vF at HR HF HC
  dsimp only at HR HF HC
  have A0 := Arr.new w a b c d 26
  have U0 := gr_alloc (Below.refl w.heap.size w) (.cells #[.int .i64 a, .int .i64 b, .int .i64 c, .int .i64 d] 26)
  go_enter Try.func77, Try.ntmps77
  obtain ⟨_, a0, a1, a2, a3, _⟩ := id A0
  go_wp2_with fail
  generalize w.alloc (.cells #[.int .i64 a, .int .i64 b, .int .i64 c, .int .i64 d] 26) = W0 at A0 U0 ⊢
  refine (HR.out _).mono ?_
  rintro e w1 ⟨rfl, hb1⟩
  have U1 := gr_trans U0 hb1
  clear a0 a1 a2 a3 A0 U0 hb1
  have T2 := (Arr.new w1 ta tb tc td 26).alloc (.cells #[.int .i64 ma, .int .i64 mb, .int .i64 mc, .int .i64 md] 44)
  have M2 := Arr.new (w1.alloc (.cells #[.int .i64 ta, .int .i64 tb, .int .i64 tc, .int .i64 td] 26)) ma mb mc md 44
  simp only [World.size_alloc] at M2
  have U2 := gr_alloc (gr_alloc U1 (.cells #[.int .i64 ta, .int .i64 tb, .int .i64 tc, .int .i64 td] 26)) (.cells #[.int .i64 ma, .int .i64 mb, .int .i64 mc, .int .i64 md] 44)
  have hwj := U1.size
  go_upto_region 2 with fail
  generalize w1.heap.size = j at *
  generalize (w1.alloc (.cells #[.int .i64 ta, .int .i64 tb, .int .i64 tc, .int .i64 td] 26)).alloc (.cells #[.int .i64 ma, .int .i64 mb, .int .i64 mc, .int .i64 md] 44) = W2 at T2 M2 U2 ⊢
  clear U1
  have HT2 := hid T2; have HM2 := hid M2; have HU2 := hid U2
  clear T2 M2 U2
  go_cut [5, 6, 7] (fun s5 s6 s7 wx => ∃ j5 gu cu go, s5 = .pointer (some ⟨j5, 0, none⟩) ∧ s6 = .slice (some ⟨gu, 0, none⟩) us.length cu ∧ s7 = .slice (some ⟨go, 0, none⟩) 0 0 ∧ Arr wx j5 n0 n1 n2 n3 ∧ RdA wx gu cu us ∧ RowM w.heap.size wx (.slice (some ⟨go, 0, none⟩) 0 0) [] ∧ Below W2.heap.size W2 wx)
  case first =>
    have T := HT2.out.drew
    have U := gr_drew (Below.refl W2.heap.size W2)
    have hs0 : W2.heap.size ≤ W2.drew.heap.size := Nat.le_refl _
    refine wp_region_held_drew (S := (fun W => W.cell? ⟨j, 0, none⟩ = some (.int .i64 ta) ∧ W.cell? ⟨j, 1, none⟩ = some (.int .i64 tb) ∧ W.cell? ⟨j, 2, none⟩ = some (.int .i64 tc) ∧ W.cell? ⟨j, 3, none⟩ = some (.int .i64 td))) (by kernel_rfl) (cells4 T) (fun hHeld => ?_)
    (refine wpAnyH_take (i := 0) (v := ?_) rfl (by kernel_rfl) (by kernel_rfl) (by kernel_rfl) (fun _ _ _ h => h) (Or.inl ⟨by rfl, ?_⟩) (by assumption) ?_; rotate_left 1; (focus (intro w hSw; (try dsimp only at hSw); go_simp; (first | done | with_reducible rfl))); ((try simp only [Act.put]); (try simp only [List.setIfInBounds_toArray]); (try simp only [List.set_cons_succ]); (try simp only [List.set_cons_zero])))
    generalize W2.drew = V0 at T U hs0 hHeld ⊢
    have hj0 := T.lt
    refine wpAnyH_ready (rs := [1, 5, 6]) (by kernel_rfl) (by simp) ?_
    refine AllReadyH.cons (o := _) rfl (fun K hK => ?_) (AllReadyH.cons (o := _) rfl (fun K hK => ?_) (AllReadyH.cons (o := _) rfl (fun K hK => ?_) AllReadyH.nil))
    · go_simp
      refine (HF.out _).mono ?_
      rintro e V1 ⟨g, n, cap, xs, rfl, hgot, hlen, hrow, hy⟩
      have G := first_at hrow (HN.out xs hgot)
      obtain ⟨hn1, hn2, hn3⟩ := first_pos hrow (HN.out xs hgot)
      obtain ⟨hc1, hc2⟩ := row_cap hrow
      have hg := rowFm_ge hrow; have hgl := G.lt
      clear hgot hlen hrow
      have T := T.next hy
      have hs1 := hy.size
      have U := gr_trans U hy
      clear hy
      go_wp2_with fail
      refine hK.out _ _ (cells4 T) (fun hHeld => ?_)
      clear hK K
      ((try simp only [Act.put]); (try simp only [List.setIfInBounds_toArray]); (try simp only [List.set_cons_succ]); (try simp only [List.set_cons_zero]))
      refine wpAnyH_strong (S := (fun W => W.cell? ⟨j, 0, none⟩ = some (.int .i64 ta) ∧ W.cell? ⟨j, 1, none⟩ = some (.int .i64 tb) ∧ W.cell? ⟨j, 2, none⟩ = some (.int .i64 tc) ∧ W.cell? ⟨j, 3, none⟩ = some (.int .i64 td))) (S' := (fun W => W.cell? ⟨j, 0, none⟩ = some (.int .i64 ta) ∧ W.cell? ⟨j, 1, none⟩ = some (.int .i64 tb) ∧ W.cell? ⟨j, 2, none⟩ = some (.int .i64 tc) ∧ W.cell? ⟨j, 3, none⟩ = some (.int .i64 td) ∧ W.cell? ⟨g, 0, none⟩ = some (.int .i64 n0) ∧ W.cell? ⟨g, 1, none⟩ = some (.int .i64 n1) ∧ W.cell? ⟨g, 2, none⟩ = some (.int .i64 n2) ∧ W.cell? ⟨g, 3, none⟩ = some (.int .i64 n3))) (fun _ h => ⟨h.1, h.2.1, h.2.2.1, h.2.2.2.1⟩) _ _ _ _ ?_
      clear hHeld
      have hHeld := cells8G T G
      (refine wpAnyH_take (i := 2) (v := ?_) rfl (by kernel_rfl) (by kernel_rfl) (by kernel_rfl) (fun _ _ _ h => h) (Or.inl ⟨by rfl, ?_⟩) (by assumption) ?_; rotate_left 1; (focus (intro w hSw; (try dsimp only at hSw); go_simp; (first | done | with_reducible rfl))); ((try simp only [Act.put]); (try simp only [List.setIfInBounds_toArray]); (try simp only [List.set_cons_succ]); (try simp only [List.set_cons_zero]))); (refine wpAnyH_take (i := 3) (v := ?_) rfl (by kernel_rfl) (by kernel_rfl) (by kernel_rfl) (fun _ _ _ h => h) (Or.inl ⟨by rfl, ?_⟩) (by assumption) ?_; rotate_left 1; (focus (intro w hSw; (try dsimp only at hSw); go_simp; (first | done | with_reducible rfl))); ((try simp only [Act.put]); (try simp only [List.setIfInBounds_toArray]); (try simp only [List.set_cons_succ]); (try simp only [List.set_cons_zero])))
      refine wpAnyH_ready (rs := [4, 5, 6]) (by kernel_rfl) (by simp) ?_
      refine AllReadyH.cons (o := _) rfl (fun K hK => ?_) (AllReadyH.cons (o := _) rfl (fun K hK => ?_) (AllReadyH.cons (o := _) rfl (fun K hK => ?_) AllReadyH.nil))
      · go_simp
        refine (HNU.out _).mono ?_
        rintro e V2 ⟨uv, rfl, hru, hy⟩
        obtain ⟨gu, cu, hgu, R, hru2⟩ := units_at2 hru HUN.out
        subst hgu
        clear hru
        have hrl := R.lt
        have T := T.next hy
        have G := G.next hy
        have hs2 := hy.size
        have U := gr_trans U hy
        clear hy
        go_wp2_with fail
        refine hK.out _ _ (cells8G T G) (fun hHeld => ?_)
        clear hK K
        ((try simp only [Act.put]); (try simp only [List.setIfInBounds_toArray]); (try simp only [List.set_cons_succ]); (try simp only [List.set_cons_zero]))
        refine wpAnyH_ready (rs := [5, 6]) (by kernel_rfl) (by simp) ?_
        refine AllReadyH.cons (o := _) rfl (fun K hK => ?_) (AllReadyH.cons (o := _) rfl (fun K hK => ?_) AllReadyH.nil)
        · go_simp
          have T := T.next (gr_alloc (Below.refl _ V2) (.cells #[] 44))
          have G := G.next (gr_alloc (Below.refl _ V2) (.cells #[] 44))
          have R := R.next (gr_alloc (Below.refl _ V2) (.cells #[] 44)) R.lt
          have E : Emp (V2.alloc (.cells #[] 44)) V2.heap.size := heap_alloc_new V2 _
          have hE : W2.heap.size ≤ V2.heap.size := U.size
          have U := gr_alloc U (.cells #[] 44)
          have hs3 := Nat.le_of_eq (alloc_size V2 (.cells #[] 44)).symm
          refine hK.out _ _ (cells8G T G) (fun hHeld => ?_)
          clear hK K
          ((try simp only [Act.put]); (try simp only [List.setIfInBounds_toArray]); (try simp only [List.set_cons_succ]); (try simp only [List.set_cons_zero]))
          generalize V2.alloc (.cells #[] 44) = V3 at T G E R U hs3 hHeld ⊢
          refine wpAnyH_ready (rs := [6]) (by kernel_rfl) (by simp) ?_
          refine AllReadyH.cons (o := _) rfl (fun K hK => ?_) AllReadyH.nil
          · go_simp
            have T := T.next (gr_alloc (Below.refl _ V3) (.cells #[.int .i64 0, .int .i64 0, .int .i64 0, .int .i64 0] 26))
            have G := G.next (gr_alloc (Below.refl _ V3) (.cells #[.int .i64 0, .int .i64 0, .int .i64 0, .int .i64 0] 26))
            have E := E.next (gr_alloc (Below.refl _ V3) (.cells #[.int .i64 0, .int .i64 0, .int .i64 0, .int .i64 0] 26))
            have R := R.next (gr_alloc (Below.refl _ V3) (.cells #[.int .i64 0, .int .i64 0, .int .i64 0, .int .i64 0] 26)) R.lt
            have Z := Arr.new V3 0 0 0 0 26
            have U := gr_alloc U (.cells #[.int .i64 0, .int .i64 0, .int .i64 0, .int .i64 0] 26)
            have hs4 := Nat.le_of_eq (alloc_size V3 (.cells #[.int .i64 0, .int .i64 0, .int .i64 0, .int .i64 0] 26)).symm
            refine hK.out _ _ (cells8G T G) (fun hHeld => ?_)
            clear hK K
            ((try simp only [Act.put]); (try simp only [List.setIfInBounds_toArray]); (try simp only [List.set_cons_succ]); (try simp only [List.set_cons_zero]))
            generalize V3.alloc (.cells #[.int .i64 0, .int .i64 0, .int .i64 0, .int .i64 0] 26) = V4 at T G Z E R U hs4 hHeld ⊢
            refine wpAnyH_ready (rs := [7]) (by kernel_rfl) (by simp) ?_
            refine AllReadyH.cons (o := _) rfl (fun K hK => ?_) AllReadyH.nil
            · obtain ⟨hzl, z0, z1, z2, z3, y0, y1, y2, y3⟩ := id Z
              have hTl := T.lt; have hGl := G.lt; have hEl := E.lt; have hRl := R.lt
              go_simp
              have hsz : V4.heap.size ≤ ((((V4.setCell ⟨V3.heap.size, 0, none⟩ (.int .i64 n0)).setCell ⟨V3.heap.size, 1, none⟩ (.int .i64 n1)).setCell ⟨V3.heap.size, 2, none⟩ (.int .i64 n2)).setCell ⟨V3.heap.size, 3, none⟩ (.int .i64 n3)).heap.size := by simp only [World.size_setCell]; exact Nat.le_refl _
              have T := T.oth4M (i := V3.heap.size) (by omega) (.int .i64 n0) (.int .i64 n1) (.int .i64 n2) (.int .i64 n3)
              have G := G.at (W' := ((((V4.setCell ⟨V3.heap.size, 0, none⟩ (.int .i64 n0)).setCell ⟨V3.heap.size, 1, none⟩ (.int .i64 n1)).setCell ⟨V3.heap.size, 2, none⟩ (.int .i64 n2)).setCell ⟨V3.heap.size, 3, none⟩ (.int .i64 n3))) (set4_heap (by omega) _ _ _ _) hsz
              have E : Emp ((((V4.setCell ⟨V3.heap.size, 0, none⟩ (.int .i64 n0)).setCell ⟨V3.heap.size, 1, none⟩ (.int .i64 n1)).setCell ⟨V3.heap.size, 2, none⟩ (.int .i64 n2)).setCell ⟨V3.heap.size, 3, none⟩ (.int .i64 n3)) _ := (set4_heap (by omega) _ _ _ _).trans E
              have R := R.atB (W' := ((((V4.setCell ⟨V3.heap.size, 0, none⟩ (.int .i64 n0)).setCell ⟨V3.heap.size, 1, none⟩ (.int .i64 n1)).setCell ⟨V3.heap.size, 2, none⟩ (.int .i64 n2)).setCell ⟨V3.heap.size, 3, none⟩ (.int .i64 n3))) (set4_heap (by omega) _ _ _ _) hsz
              have Z := Arr.store4 Z.box (x := n0) (y := n1) (z := n2) (u := n3)
              have U : Below W2.heap.size W2 ((((V4.setCell ⟨V3.heap.size, 0, none⟩ (.int .i64 n0)).setCell ⟨V3.heap.size, 1, none⟩ (.int .i64 n1)).setCell ⟨V3.heap.size, 2, none⟩ (.int .i64 n2)).setCell ⟨V3.heap.size, 3, none⟩ (.int .i64 n3)) := by (repeat' (first | with_reducible exact Below.refl _ _ | with_reducible assumption | with_reducible refine gr_alloc ?_ _ | with_reducible refine gr_drew ?_ | with_reducible refine gr_drewN ?_ _ | with_reducible refine gr_trans ?_ (by assumption) | with_reducible refine gr_set ?_ ?_ _ | (simp; done) | omega | (simp; omega)))
              refine hK.out _ _ (cells8G T G) (fun hHeld => ?_)
              clear hK K z0 z1 z2 z3 y0 y1 y2 y3
              ((try simp only [Act.put]); (try simp only [List.setIfInBounds_toArray]); (try simp only [List.set_cons_succ]); (try simp only [List.set_cons_zero]))
              generalize ((((V4.setCell ⟨V3.heap.size, 0, none⟩ (.int .i64 n0)).setCell ⟨V3.heap.size, 1, none⟩ (.int .i64 n1)).setCell ⟨V3.heap.size, 2, none⟩ (.int .i64 n2)).setCell ⟨V3.heap.size, 3, none⟩ (.int .i64 n3)) = V5 at T G Z E R U hsz hHeld ⊢
              (refine wpAnyH_take (i := 8) (oi := { dst := some 6, op := .assign (.tmp 18), type := _, pos := _, after := _, guard := _ }) (v := ?_) rfl (by kernel_rfl) (by kernel_rfl) (by kernel_rfl) (fun _ _ _ h => h) (Or.inl ⟨by rfl, ?_⟩) (by assumption) ?_; rotate_left 1; (focus (intro w hSw; (try dsimp only at hSw); go_simp; (first | done | with_reducible rfl))); ((try simp only [Act.put]); (try simp only [List.setIfInBounds_toArray]); (try simp only [List.set_cons_succ]); (try simp only [List.set_cons_zero])))
              (refine wpAnyH_take (i := 9) (oi := { dst := some 7, op := .assign (.tmp 19), type := _, pos := _, after := _, guard := _ }) (v := ?_) rfl (by kernel_rfl) (by kernel_rfl) (by kernel_rfl) (fun _ _ _ h => h) (Or.inl ⟨by rfl, ?_⟩) (by assumption) ?_; rotate_left 1; (focus (intro w hSw; (try dsimp only at hSw); go_simp; (first | done | with_reducible rfl))); ((try simp only [Act.put]); (try simp only [List.setIfInBounds_toArray]); (try simp only [List.set_cons_succ]); (try simp only [List.set_cons_zero])))
              refine wpAnyH_done (by kernel_rfl) ?_ _
              go_wp2_with fail
              go_meet
              exact ⟨_, _, _, _, rfl, rfl, rfl, Z, R, E.row (by have := HU2.out.size; omega), U⟩
        · go_simp
          have T := T.next (gr_alloc (Below.refl _ V2) (.cells #[.int .i64 0, .int .i64 0, .int .i64 0, .int .i64 0] 26))
          have G := G.next (gr_alloc (Below.refl _ V2) (.cells #[.int .i64 0, .int .i64 0, .int .i64 0, .int .i64 0] 26))
          have R := R.next (gr_alloc (Below.refl _ V2) (.cells #[.int .i64 0, .int .i64 0, .int .i64 0, .int .i64 0] 26)) R.lt
          have Z := Arr.new V2 0 0 0 0 26
          have U := gr_alloc U (.cells #[.int .i64 0, .int .i64 0, .int .i64 0, .int .i64 0] 26)
          have hs3 := Nat.le_of_eq (alloc_size V2 (.cells #[.int .i64 0, .int .i64 0, .int .i64 0, .int .i64 0] 26)).symm
          refine hK.out _ _ (cells8G T G) (fun hHeld => ?_)
          clear hK K
          ((try simp only [Act.put]); (try simp only [List.setIfInBounds_toArray]); (try simp only [List.set_cons_succ]); (try simp only [List.set_cons_zero]))
          generalize V2.alloc (.cells #[.int .i64 0, .int .i64 0, .int .i64 0, .int .i64 0] 26) = V3 at T G Z R U hs3 hHeld ⊢
          refine wpAnyH_ready (rs := [5, 7]) (by kernel_rfl) (by simp) ?_
          refine AllReadyH.cons (o := _) rfl (fun K hK => ?_) (AllReadyH.cons (o := _) rfl (fun K hK => ?_) AllReadyH.nil)
          · go_simp
            have T := T.next (gr_alloc (Below.refl _ V3) (.cells #[] 44))
            have G := G.next (gr_alloc (Below.refl _ V3) (.cells #[] 44))
            have Z := Z.next (gr_alloc (Below.refl _ V3) (.cells #[] 44))
            have R := R.next (gr_alloc (Below.refl _ V3) (.cells #[] 44)) R.lt
            have E : Emp (V3.alloc (.cells #[] 44)) V3.heap.size := heap_alloc_new V3 _
            have hE : W2.heap.size ≤ V3.heap.size := U.size
            have U := gr_alloc U (.cells #[] 44)
            have hs4 := Nat.le_of_eq (alloc_size V3 (.cells #[] 44)).symm
            refine hK.out _ _ (cells8G T G) (fun hHeld => ?_)
            clear hK K
            ((try simp only [Act.put]); (try simp only [List.setIfInBounds_toArray]); (try simp only [List.set_cons_succ]); (try simp only [List.set_cons_zero]))
            generalize V3.alloc (.cells #[] 44) = V4 at T G Z E R U hs4 hHeld ⊢
            refine wpAnyH_ready (rs := [7]) (by kernel_rfl) (by simp) ?_
            refine AllReadyH.cons (o := _) rfl (fun K hK => ?_) AllReadyH.nil
            · obtain ⟨hzl, z0, z1, z2, z3, y0, y1, y2, y3⟩ := id Z
              have hTl := T.lt; have hGl := G.lt; have hEl := E.lt; have hRl := R.lt
              go_simp
              have hsz : V4.heap.size ≤ ((((V4.setCell ⟨V2.heap.size, 0, none⟩ (.int .i64 n0)).setCell ⟨V2.heap.size, 1, none⟩ (.int .i64 n1)).setCell ⟨V2.heap.size, 2, none⟩ (.int .i64 n2)).setCell ⟨V2.heap.size, 3, none⟩ (.int .i64 n3)).heap.size := by simp only [World.size_setCell]; exact Nat.le_refl _
              have T := T.oth4M (i := V2.heap.size) (by omega) (.int .i64 n0) (.int .i64 n1) (.int .i64 n2) (.int .i64 n3)
              have G := G.at (W' := ((((V4.setCell ⟨V2.heap.size, 0, none⟩ (.int .i64 n0)).setCell ⟨V2.heap.size, 1, none⟩ (.int .i64 n1)).setCell ⟨V2.heap.size, 2, none⟩ (.int .i64 n2)).setCell ⟨V2.heap.size, 3, none⟩ (.int .i64 n3))) (set4_heap (by omega) _ _ _ _) hsz
              have E : Emp ((((V4.setCell ⟨V2.heap.size, 0, none⟩ (.int .i64 n0)).setCell ⟨V2.heap.size, 1, none⟩ (.int .i64 n1)).setCell ⟨V2.heap.size, 2, none⟩ (.int .i64 n2)).setCell ⟨V2.heap.size, 3, none⟩ (.int .i64 n3)) _ := (set4_heap (by omega) _ _ _ _).trans E
              have R := R.atB (W' := ((((V4.setCell ⟨V2.heap.size, 0, none⟩ (.int .i64 n0)).setCell ⟨V2.heap.size, 1, none⟩ (.int .i64 n1)).setCell ⟨V2.heap.size, 2, none⟩ (.int .i64 n2)).setCell ⟨V2.heap.size, 3, none⟩ (.int .i64 n3))) (set4_heap (by omega) _ _ _ _) hsz
              have Z := Arr.store4 Z.box (x := n0) (y := n1) (z := n2) (u := n3)
              have U : Below W2.heap.size W2 ((((V4.setCell ⟨V2.heap.size, 0, none⟩ (.int .i64 n0)).setCell ⟨V2.heap.size, 1, none⟩ (.int .i64 n1)).setCell ⟨V2.heap.size, 2, none⟩ (.int .i64 n2)).setCell ⟨V2.heap.size, 3, none⟩ (.int .i64 n3)) := by (repeat' (first | with_reducible exact Below.refl _ _ | with_reducible assumption | with_reducible refine gr_alloc ?_ _ | with_reducible refine gr_drew ?_ | with_reducible refine gr_drewN ?_ _ | with_reducible refine gr_trans ?_ (by assumption) | with_reducible refine gr_set ?_ ?_ _ | (simp; done) | omega | (simp; omega)))
              refine hK.out _ _ (cells8G T G) (fun hHeld => ?_)
              clear hK K z0 z1 z2 z3 y0 y1 y2 y3
              ((try simp only [Act.put]); (try simp only [List.setIfInBounds_toArray]); (try simp only [List.set_cons_succ]); (try simp only [List.set_cons_zero]))
              generalize ((((V4.setCell ⟨V2.heap.size, 0, none⟩ (.int .i64 n0)).setCell ⟨V2.heap.size, 1, none⟩ (.int .i64 n1)).setCell ⟨V2.heap.size, 2, none⟩ (.int .i64 n2)).setCell ⟨V2.heap.size, 3, none⟩ (.int .i64 n3)) = V5 at T G Z E R U hsz hHeld ⊢
              (refine wpAnyH_take (i := 8) (oi := { dst := some 6, op := .assign (.tmp 18), type := _, pos := _, after := _, guard := _ }) (v := ?_) rfl (by kernel_rfl) (by kernel_rfl) (by kernel_rfl) (fun _ _ _ h => h) (Or.inl ⟨by rfl, ?_⟩) (by assumption) ?_; rotate_left 1; (focus (intro w hSw; (try dsimp only at hSw); go_simp; (first | done | with_reducible rfl))); ((try simp only [Act.put]); (try simp only [List.setIfInBounds_toArray]); (try simp only [List.set_cons_succ]); (try simp only [List.set_cons_zero])))
              (refine wpAnyH_take (i := 9) (oi := { dst := some 7, op := .assign (.tmp 19), type := _, pos := _, after := _, guard := _ }) (v := ?_) rfl (by kernel_rfl) (by kernel_rfl) (by kernel_rfl) (fun _ _ _ h => h) (Or.inl ⟨by rfl, ?_⟩) (by assumption) ?_; rotate_left 1; (focus (intro w hSw; (try dsimp only at hSw); go_simp; (first | done | with_reducible rfl))); ((try simp only [Act.put]); (try simp only [List.setIfInBounds_toArray]); (try simp only [List.set_cons_succ]); (try simp only [List.set_cons_zero])))
              refine wpAnyH_done (by kernel_rfl) ?_ _
              go_wp2_with fail
              go_meet
              exact ⟨_, _, _, _, rfl, rfl, rfl, Z, R, E.row (by have := HU2.out.size; omega), U⟩
          · obtain ⟨hzl, z0, z1, z2, z3, y0, y1, y2, y3⟩ := id Z
            have hTl := T.lt; have hGl := G.lt; have hRl := R.lt
            go_simp
            have hsz : V3.heap.size ≤ ((((V3.setCell ⟨V2.heap.size, 0, none⟩ (.int .i64 n0)).setCell ⟨V2.heap.size, 1, none⟩ (.int .i64 n1)).setCell ⟨V2.heap.size, 2, none⟩ (.int .i64 n2)).setCell ⟨V2.heap.size, 3, none⟩ (.int .i64 n3)).heap.size := by simp only [World.size_setCell]; exact Nat.le_refl _
            have T := T.oth4M (i := V2.heap.size) (by omega) (.int .i64 n0) (.int .i64 n1) (.int .i64 n2) (.int .i64 n3)
            have G := G.at (W' := ((((V3.setCell ⟨V2.heap.size, 0, none⟩ (.int .i64 n0)).setCell ⟨V2.heap.size, 1, none⟩ (.int .i64 n1)).setCell ⟨V2.heap.size, 2, none⟩ (.int .i64 n2)).setCell ⟨V2.heap.size, 3, none⟩ (.int .i64 n3))) (set4_heap (by omega) _ _ _ _) hsz
            have R := R.atB (W' := ((((V3.setCell ⟨V2.heap.size, 0, none⟩ (.int .i64 n0)).setCell ⟨V2.heap.size, 1, none⟩ (.int .i64 n1)).setCell ⟨V2.heap.size, 2, none⟩ (.int .i64 n2)).setCell ⟨V2.heap.size, 3, none⟩ (.int .i64 n3))) (set4_heap (by omega) _ _ _ _) hsz
            have Z := Arr.store4 Z.box (x := n0) (y := n1) (z := n2) (u := n3)
            have U : Below W2.heap.size W2 ((((V3.setCell ⟨V2.heap.size, 0, none⟩ (.int .i64 n0)).setCell ⟨V2.heap.size, 1, none⟩ (.int .i64 n1)).setCell ⟨V2.heap.size, 2, none⟩ (.int .i64 n2)).setCell ⟨V2.heap.size, 3, none⟩ (.int .i64 n3)) := by (repeat' (first | with_reducible exact Below.refl _ _ | with_reducible assumption | with_reducible refine gr_alloc ?_ _ | with_reducible refine gr_drew ?_ | with_reducible refine gr_drewN ?_ _ | with_reducible refine gr_trans ?_ (by assumption) | with_reducible refine gr_set ?_ ?_ _ | (simp; done) | omega | (simp; omega)))
            refine hK.out _ _ (cells8G T G) (fun hHeld => ?_)
            clear hK K z0 z1 z2 z3 y0 y1 y2 y3
            ((try simp only [Act.put]); (try simp only [List.setIfInBounds_toArray]); (try simp only [List.set_cons_succ]); (try simp only [List.set_cons_zero]))
            generalize ((((V3.setCell ⟨V2.heap.size, 0, none⟩ (.int .i64 n0)).setCell ⟨V2.heap.size, 1, none⟩ (.int .i64 n1)).setCell ⟨V2.heap.size, 2, none⟩ (.int .i64 n2)).setCell ⟨V2.heap.size, 3, none⟩ (.int .i64 n3)) = V4 at T G Z R U hsz hHeld ⊢
            (refine wpAnyH_take (i := 8) (oi := { dst := some 6, op := .assign (.tmp 18), type := _, pos := _, after := _, guard := _ }) (v := ?_) rfl (by kernel_rfl) (by kernel_rfl) (by kernel_rfl) (fun _ _ _ h => h) (Or.inl ⟨by rfl, ?_⟩) (by assumption) ?_; rotate_left 1; (focus (intro w hSw; (try dsimp only at hSw); go_simp; (first | done | with_reducible rfl))); ((try simp only [Act.put]); (try simp only [List.setIfInBounds_toArray]); (try simp only [List.set_cons_succ]); (try simp only [List.set_cons_zero])))
            refine wpAnyH_ready (rs := [5]) (by kernel_rfl) (by simp) ?_
            refine AllReadyH.cons (o := _) rfl (fun K hK => ?_) AllReadyH.nil
            · go_simp
              have T := T.next (gr_alloc (Below.refl _ V4) (.cells #[] 44))
              have G := G.next (gr_alloc (Below.refl _ V4) (.cells #[] 44))
              have Z := Z.next (gr_alloc (Below.refl _ V4) (.cells #[] 44))
              have R := R.next (gr_alloc (Below.refl _ V4) (.cells #[] 44)) R.lt
              have E : Emp (V4.alloc (.cells #[] 44)) V4.heap.size := heap_alloc_new V4 _
              have hE : W2.heap.size ≤ V4.heap.size := U.size
              have U := gr_alloc U (.cells #[] 44)
              have hs5 := Nat.le_of_eq (alloc_size V4 (.cells #[] 44)).symm
              refine hK.out _ _ (cells8G T G) (fun hHeld => ?_)
              clear hK K
              ((try simp only [Act.put]); (try simp only [List.setIfInBounds_toArray]); (try simp only [List.set_cons_succ]); (try simp only [List.set_cons_zero]))
              generalize V4.alloc (.cells #[] 44) = V5 at T G Z E R U hs5 hHeld ⊢
              (refine wpAnyH_take (i := 9) (oi := { dst := some 7, op := .assign (.tmp 19), type := _, pos := _, after := _, guard := _ }) (v := ?_) rfl (by kernel_rfl) (by kernel_rfl) (by kernel_rfl) (fun _ _ _ h => h) (Or.inl ⟨by rfl, ?_⟩) (by assumption) ?_; rotate_left 1; (focus (intro w hSw; (try dsimp only at hSw); go_simp; (first | done | with_reducible rfl))); ((try simp only [Act.put]); (try simp only [List.setIfInBounds_toArray]); (try simp only [List.set_cons_succ]); (try simp only [List.set_cons_zero])))
              refine wpAnyH_done (by kernel_rfl) ?_ _
              go_wp2_with fail
              go_meet
              exact ⟨_, _, _, _, rfl, rfl, rfl, Z, R, E.row (by have := HU2.out.size; omega), U⟩
      · go_simp
        have T := T.next (gr_alloc (Below.refl _ V1) (.cells #[] 44))
        have G := G.next (gr_alloc (Below.refl _ V1) (.cells #[] 44))
        have E : Emp (V1.alloc (.cells #[] 44)) V1.heap.size := heap_alloc_new V1 _
        have hE : W2.heap.size ≤ V1.heap.size := U.size
        have U := gr_alloc U (.cells #[] 44)
        have hs2 := Nat.le_of_eq (alloc_size V1 (.cells #[] 44)).symm
        refine hK.out _ _ (cells8G T G) (fun hHeld => ?_)
        clear hK K
        ((try simp only [Act.put]); (try simp only [List.setIfInBounds_toArray]); (try simp only [List.set_cons_succ]); (try simp only [List.set_cons_zero]))
        generalize V1.alloc (.cells #[] 44) = V2 at T G E U hs2 hHeld ⊢
        refine wpAnyH_ready (rs := [4, 6]) (by kernel_rfl) (by simp) ?_
        refine AllReadyH.cons (o := _) rfl (fun K hK => ?_) (AllReadyH.cons (o := _) rfl (fun K hK => ?_) AllReadyH.nil)
        · go_simp
          refine (HNU.out _).mono ?_
          rintro e V3 ⟨uv, rfl, hru, hy⟩
          obtain ⟨gu, cu, hgu, R, hru2⟩ := units_at2 hru HUN.out
          subst hgu
          clear hru
          have hrl := R.lt
          have T := T.next hy
          have G := G.next hy
          have E := E.next hy
          have hs3 := hy.size
          have U := gr_trans U hy
          clear hy
          go_wp2_with fail
          refine hK.out _ _ (cells8G T G) (fun hHeld => ?_)
          clear hK K
          ((try simp only [Act.put]); (try simp only [List.setIfInBounds_toArray]); (try simp only [List.set_cons_succ]); (try simp only [List.set_cons_zero]))
          refine wpAnyH_ready (rs := [6]) (by kernel_rfl) (by simp) ?_
          refine AllReadyH.cons (o := _) rfl (fun K hK => ?_) AllReadyH.nil
          · go_simp
            have T := T.next (gr_alloc (Below.refl _ V3) (.cells #[.int .i64 0, .int .i64 0, .int .i64 0, .int .i64 0] 26))
            have G := G.next (gr_alloc (Below.refl _ V3) (.cells #[.int .i64 0, .int .i64 0, .int .i64 0, .int .i64 0] 26))
            have E := E.next (gr_alloc (Below.refl _ V3) (.cells #[.int .i64 0, .int .i64 0, .int .i64 0, .int .i64 0] 26))
            have R := R.next (gr_alloc (Below.refl _ V3) (.cells #[.int .i64 0, .int .i64 0, .int .i64 0, .int .i64 0] 26)) R.lt
            have Z := Arr.new V3 0 0 0 0 26
            have U := gr_alloc U (.cells #[.int .i64 0, .int .i64 0, .int .i64 0, .int .i64 0] 26)
            have hs4 := Nat.le_of_eq (alloc_size V3 (.cells #[.int .i64 0, .int .i64 0, .int .i64 0, .int .i64 0] 26)).symm
            refine hK.out _ _ (cells8G T G) (fun hHeld => ?_)
            clear hK K
            ((try simp only [Act.put]); (try simp only [List.setIfInBounds_toArray]); (try simp only [List.set_cons_succ]); (try simp only [List.set_cons_zero]))
            generalize V3.alloc (.cells #[.int .i64 0, .int .i64 0, .int .i64 0, .int .i64 0] 26) = V4 at T G Z E R U hs4 hHeld ⊢
            refine wpAnyH_ready (rs := [7]) (by kernel_rfl) (by simp) ?_
            refine AllReadyH.cons (o := _) rfl (fun K hK => ?_) AllReadyH.nil
            · obtain ⟨hzl, z0, z1, z2, z3, y0, y1, y2, y3⟩ := id Z
              have hTl := T.lt; have hGl := G.lt; have hEl := E.lt; have hRl := R.lt
              go_simp
              have hsz : V4.heap.size ≤ ((((V4.setCell ⟨V3.heap.size, 0, none⟩ (.int .i64 n0)).setCell ⟨V3.heap.size, 1, none⟩ (.int .i64 n1)).setCell ⟨V3.heap.size, 2, none⟩ (.int .i64 n2)).setCell ⟨V3.heap.size, 3, none⟩ (.int .i64 n3)).heap.size := by simp only [World.size_setCell]; exact Nat.le_refl _
              have T := T.oth4M (i := V3.heap.size) (by omega) (.int .i64 n0) (.int .i64 n1) (.int .i64 n2) (.int .i64 n3)
              have G := G.at (W' := ((((V4.setCell ⟨V3.heap.size, 0, none⟩ (.int .i64 n0)).setCell ⟨V3.heap.size, 1, none⟩ (.int .i64 n1)).setCell ⟨V3.heap.size, 2, none⟩ (.int .i64 n2)).setCell ⟨V3.heap.size, 3, none⟩ (.int .i64 n3))) (set4_heap (by omega) _ _ _ _) hsz
              have E : Emp ((((V4.setCell ⟨V3.heap.size, 0, none⟩ (.int .i64 n0)).setCell ⟨V3.heap.size, 1, none⟩ (.int .i64 n1)).setCell ⟨V3.heap.size, 2, none⟩ (.int .i64 n2)).setCell ⟨V3.heap.size, 3, none⟩ (.int .i64 n3)) _ := (set4_heap (by omega) _ _ _ _).trans E
              have R := R.atB (W' := ((((V4.setCell ⟨V3.heap.size, 0, none⟩ (.int .i64 n0)).setCell ⟨V3.heap.size, 1, none⟩ (.int .i64 n1)).setCell ⟨V3.heap.size, 2, none⟩ (.int .i64 n2)).setCell ⟨V3.heap.size, 3, none⟩ (.int .i64 n3))) (set4_heap (by omega) _ _ _ _) hsz
              have Z := Arr.store4 Z.box (x := n0) (y := n1) (z := n2) (u := n3)
              have U : Below W2.heap.size W2 ((((V4.setCell ⟨V3.heap.size, 0, none⟩ (.int .i64 n0)).setCell ⟨V3.heap.size, 1, none⟩ (.int .i64 n1)).setCell ⟨V3.heap.size, 2, none⟩ (.int .i64 n2)).setCell ⟨V3.heap.size, 3, none⟩ (.int .i64 n3)) := by (repeat' (first | with_reducible exact Below.refl _ _ | with_reducible assumption | with_reducible refine gr_alloc ?_ _ | with_reducible refine gr_drew ?_ | with_reducible refine gr_drewN ?_ _ | with_reducible refine gr_trans ?_ (by assumption) | with_reducible refine gr_set ?_ ?_ _ | (simp; done) | omega | (simp; omega)))
              refine hK.out _ _ (cells8G T G) (fun hHeld => ?_)
              clear hK K z0 z1 z2 z3 y0 y1 y2 y3
              ((try simp only [Act.put]); (try simp only [List.setIfInBounds_toArray]); (try simp only [List.set_cons_succ]); (try simp only [List.set_cons_zero]))
              generalize ((((V4.setCell ⟨V3.heap.size, 0, none⟩ (.int .i64 n0)).setCell ⟨V3.heap.size, 1, none⟩ (.int .i64 n1)).setCell ⟨V3.heap.size, 2, none⟩ (.int .i64 n2)).setCell ⟨V3.heap.size, 3, none⟩ (.int .i64 n3)) = V5 at T G Z E R U hsz hHeld ⊢
              (refine wpAnyH_take (i := 8) (oi := { dst := some 6, op := .assign (.tmp 18), type := _, pos := _, after := _, guard := _ }) (v := ?_) rfl (by kernel_rfl) (by kernel_rfl) (by kernel_rfl) (fun _ _ _ h => h) (Or.inl ⟨by rfl, ?_⟩) (by assumption) ?_; rotate_left 1; (focus (intro w hSw; (try dsimp only at hSw); go_simp; (first | done | with_reducible rfl))); ((try simp only [Act.put]); (try simp only [List.setIfInBounds_toArray]); (try simp only [List.set_cons_succ]); (try simp only [List.set_cons_zero])))
              (refine wpAnyH_take (i := 9) (oi := { dst := some 7, op := .assign (.tmp 19), type := _, pos := _, after := _, guard := _ }) (v := ?_) rfl (by kernel_rfl) (by kernel_rfl) (by kernel_rfl) (fun _ _ _ h => h) (Or.inl ⟨by rfl, ?_⟩) (by assumption) ?_; rotate_left 1; (focus (intro w hSw; (try dsimp only at hSw); go_simp; (first | done | with_reducible rfl))); ((try simp only [Act.put]); (try simp only [List.setIfInBounds_toArray]); (try simp only [List.set_cons_succ]); (try simp only [List.set_cons_zero])))
              refine wpAnyH_done (by kernel_rfl) ?_ _
              go_wp2_with fail
              go_meet
              exact ⟨_, _, _, _, rfl, rfl, rfl, Z, R, E.row (by have := HU2.out.size; omega), U⟩
        · go_simp
          have T := T.next (gr_alloc (Below.refl _ V2) (.cells #[.int .i64 0, .int .i64 0, .int .i64 0, .int .i64 0] 26))
          have G := G.next (gr_alloc (Below.refl _ V2) (.cells #[.int .i64 0, .int .i64 0, .int .i64 0, .int .i64 0] 26))
          have E := E.next (gr_alloc (Below.refl _ V2) (.cells #[.int .i64 0, .int .i64 0, .int .i64 0, .int .i64 0] 26))
          have Z := Arr.new V2 0 0 0 0 26
          have U := gr_alloc U (.cells #[.int .i64 0, .int .i64 0, .int .i64 0, .int .i64 0] 26)
          have hs3 := Nat.le_of_eq (alloc_size V2 (.cells #[.int .i64 0, .int .i64 0, .int .i64 0, .int .i64 0] 26)).symm
          refine hK.out _ _ (cells8G T G) (fun hHeld => ?_)
          clear hK K
          ((try simp only [Act.put]); (try simp only [List.setIfInBounds_toArray]); (try simp only [List.set_cons_succ]); (try simp only [List.set_cons_zero]))
          generalize V2.alloc (.cells #[.int .i64 0, .int .i64 0, .int .i64 0, .int .i64 0] 26) = V3 at T G Z E U hs3 hHeld ⊢
          refine wpAnyH_ready (rs := [4]) (by kernel_rfl) (by simp) ?_
          refine AllReadyH.cons (o := _) rfl (fun K hK => ?_) AllReadyH.nil
          · go_simp
            refine (HNU.out _).mono ?_
            rintro e V4 ⟨uv, rfl, hru, hy⟩
            obtain ⟨gu, cu, hgu, R, hru2⟩ := units_at2 hru HUN.out
            subst hgu
            clear hru
            have hrl := R.lt
            have T := T.next hy
            have G := G.next hy
            have Z := Z.next hy
            have E := E.next hy
            have hs4 := hy.size
            have U := gr_trans U hy
            clear hy
            go_wp2_with fail
            refine hK.out _ _ (cells8G T G) (fun hHeld => ?_)
            clear hK K
            ((try simp only [Act.put]); (try simp only [List.setIfInBounds_toArray]); (try simp only [List.set_cons_succ]); (try simp only [List.set_cons_zero]))
            refine wpAnyH_ready (rs := [7]) (by kernel_rfl) (by simp) ?_
            refine AllReadyH.cons (o := _) rfl (fun K hK => ?_) AllReadyH.nil
            · obtain ⟨hzl, z0, z1, z2, z3, y0, y1, y2, y3⟩ := id Z
              have hTl := T.lt; have hGl := G.lt; have hEl := E.lt; have hRl := R.lt
              go_simp
              have hsz : V4.heap.size ≤ ((((V4.setCell ⟨V2.heap.size, 0, none⟩ (.int .i64 n0)).setCell ⟨V2.heap.size, 1, none⟩ (.int .i64 n1)).setCell ⟨V2.heap.size, 2, none⟩ (.int .i64 n2)).setCell ⟨V2.heap.size, 3, none⟩ (.int .i64 n3)).heap.size := by simp only [World.size_setCell]; exact Nat.le_refl _
              have T := T.oth4M (i := V2.heap.size) (by omega) (.int .i64 n0) (.int .i64 n1) (.int .i64 n2) (.int .i64 n3)
              have G := G.at (W' := ((((V4.setCell ⟨V2.heap.size, 0, none⟩ (.int .i64 n0)).setCell ⟨V2.heap.size, 1, none⟩ (.int .i64 n1)).setCell ⟨V2.heap.size, 2, none⟩ (.int .i64 n2)).setCell ⟨V2.heap.size, 3, none⟩ (.int .i64 n3))) (set4_heap (by omega) _ _ _ _) hsz
              have E : Emp ((((V4.setCell ⟨V2.heap.size, 0, none⟩ (.int .i64 n0)).setCell ⟨V2.heap.size, 1, none⟩ (.int .i64 n1)).setCell ⟨V2.heap.size, 2, none⟩ (.int .i64 n2)).setCell ⟨V2.heap.size, 3, none⟩ (.int .i64 n3)) _ := (set4_heap (by omega) _ _ _ _).trans E
              have R := R.atB (W' := ((((V4.setCell ⟨V2.heap.size, 0, none⟩ (.int .i64 n0)).setCell ⟨V2.heap.size, 1, none⟩ (.int .i64 n1)).setCell ⟨V2.heap.size, 2, none⟩ (.int .i64 n2)).setCell ⟨V2.heap.size, 3, none⟩ (.int .i64 n3))) (set4_heap (by omega) _ _ _ _) hsz
              have Z := Arr.store4 Z.box (x := n0) (y := n1) (z := n2) (u := n3)
              have U : Below W2.heap.size W2 ((((V4.setCell ⟨V2.heap.size, 0, none⟩ (.int .i64 n0)).setCell ⟨V2.heap.size, 1, none⟩ (.int .i64 n1)).setCell ⟨V2.heap.size, 2, none⟩ (.int .i64 n2)).setCell ⟨V2.heap.size, 3, none⟩ (.int .i64 n3)) := by (repeat' (first | with_reducible exact Below.refl _ _ | with_reducible assumption | with_reducible refine gr_alloc ?_ _ | with_reducible refine gr_drew ?_ | with_reducible refine gr_drewN ?_ _ | with_reducible refine gr_trans ?_ (by assumption) | with_reducible refine gr_set ?_ ?_ _ | (simp; done) | omega | (simp; omega)))
              refine hK.out _ _ (cells8G T G) (fun hHeld => ?_)
              clear hK K z0 z1 z2 z3 y0 y1 y2 y3
              ((try simp only [Act.put]); (try simp only [List.setIfInBounds_toArray]); (try simp only [List.set_cons_succ]); (try simp only [List.set_cons_zero]))
              generalize ((((V4.setCell ⟨V2.heap.size, 0, none⟩ (.int .i64 n0)).setCell ⟨V2.heap.size, 1, none⟩ (.int .i64 n1)).setCell ⟨V2.heap.size, 2, none⟩ (.int .i64 n2)).setCell ⟨V2.heap.size, 3, none⟩ (.int .i64 n3)) = V5 at T G Z E R U hsz hHeld ⊢
              (refine wpAnyH_take (i := 8) (oi := { dst := some 6, op := .assign (.tmp 18), type := _, pos := _, after := _, guard := _ }) (v := ?_) rfl (by kernel_rfl) (by kernel_rfl) (by kernel_rfl) (fun _ _ _ h => h) (Or.inl ⟨by rfl, ?_⟩) (by assumption) ?_; rotate_left 1; (focus (intro w hSw; (try dsimp only at hSw); go_simp; (first | done | with_reducible rfl))); ((try simp only [Act.put]); (try simp only [List.setIfInBounds_toArray]); (try simp only [List.set_cons_succ]); (try simp only [List.set_cons_zero])))
              (refine wpAnyH_take (i := 9) (oi := { dst := some 7, op := .assign (.tmp 19), type := _, pos := _, after := _, guard := _ }) (v := ?_) rfl (by kernel_rfl) (by kernel_rfl) (by kernel_rfl) (fun _ _ _ h => h) (Or.inl ⟨by rfl, ?_⟩) (by assumption) ?_; rotate_left 1; (focus (intro w hSw; (try dsimp only at hSw); go_simp; (first | done | with_reducible rfl))); ((try simp only [Act.put]); (try simp only [List.setIfInBounds_toArray]); (try simp only [List.set_cons_succ]); (try simp only [List.set_cons_zero])))
              refine wpAnyH_done (by kernel_rfl) ?_ _
              go_wp2_with fail
              go_meet
              exact ⟨_, _, _, _, rfl, rfl, rfl, Z, R, E.row (by have := HU2.out.size; omega), U⟩
      · go_simp
        have T := T.next (gr_alloc (Below.refl _ V1) (.cells #[.int .i64 0, .int .i64 0, .int .i64 0, .int .i64 0] 26))
        have G := G.next (gr_alloc (Below.refl _ V1) (.cells #[.int .i64 0, .int .i64 0, .int .i64 0, .int .i64 0] 26))
        have Z := Arr.new V1 0 0 0 0 26
        have U := gr_alloc U (.cells #[.int .i64 0, .int .i64 0, .int .i64 0, .int .i64 0] 26)
        have hs2 := Nat.le_of_eq (alloc_size V1 (.cells #[.int .i64 0, .int .i64 0, .int .i64 0, .int .i64 0] 26)).symm
        refine hK.out _ _ (cells8G T G) (fun hHeld => ?_)
        clear hK K
        ((try simp only [Act.put]); (try simp only [List.setIfInBounds_toArray]); (try simp only [List.set_cons_succ]); (try simp only [List.set_cons_zero]))
        generalize V1.alloc (.cells #[.int .i64 0, .int .i64 0, .int .i64 0, .int .i64 0] 26) = V2 at T G Z U hs2 hHeld ⊢
        refine wpAnyH_ready (rs := [4, 5]) (by kernel_rfl) (by simp) ?_
        refine AllReadyH.cons (o := _) rfl (fun K hK => ?_) (AllReadyH.cons (o := _) rfl (fun K hK => ?_) AllReadyH.nil)
        · go_simp
          refine (HNU.out _).mono ?_
          rintro e V3 ⟨uv, rfl, hru, hy⟩
          obtain ⟨gu, cu, hgu, R, hru2⟩ := units_at2 hru HUN.out
          subst hgu
          clear hru
          have hrl := R.lt
          have T := T.next hy
          have G := G.next hy
          have Z := Z.next hy
          have hs3 := hy.size
          have U := gr_trans U hy
          clear hy
          go_wp2_with fail
          refine hK.out _ _ (cells8G T G) (fun hHeld => ?_)
          clear hK K
          ((try simp only [Act.put]); (try simp only [List.setIfInBounds_toArray]); (try simp only [List.set_cons_succ]); (try simp only [List.set_cons_zero]))
          refine wpAnyH_ready (rs := [5, 7]) (by kernel_rfl) (by simp) ?_
          refine AllReadyH.cons (o := _) rfl (fun K hK => ?_) (AllReadyH.cons (o := _) rfl (fun K hK => ?_) AllReadyH.nil)
          · go_simp
            have T := T.next (gr_alloc (Below.refl _ V3) (.cells #[] 44))
            have G := G.next (gr_alloc (Below.refl _ V3) (.cells #[] 44))
            have Z := Z.next (gr_alloc (Below.refl _ V3) (.cells #[] 44))
            have R := R.next (gr_alloc (Below.refl _ V3) (.cells #[] 44)) R.lt
            have E : Emp (V3.alloc (.cells #[] 44)) V3.heap.size := heap_alloc_new V3 _
            have hE : W2.heap.size ≤ V3.heap.size := U.size
            have U := gr_alloc U (.cells #[] 44)
            have hs4 := Nat.le_of_eq (alloc_size V3 (.cells #[] 44)).symm
            refine hK.out _ _ (cells8G T G) (fun hHeld => ?_)
            clear hK K
            ((try simp only [Act.put]); (try simp only [List.setIfInBounds_toArray]); (try simp only [List.set_cons_succ]); (try simp only [List.set_cons_zero]))
            generalize V3.alloc (.cells #[] 44) = V4 at T G Z E R U hs4 hHeld ⊢
            refine wpAnyH_ready (rs := [7]) (by kernel_rfl) (by simp) ?_
            refine AllReadyH.cons (o := _) rfl (fun K hK => ?_) AllReadyH.nil
            · obtain ⟨hzl, z0, z1, z2, z3, y0, y1, y2, y3⟩ := id Z
              have hTl := T.lt; have hGl := G.lt; have hEl := E.lt; have hRl := R.lt
              go_simp
              have hsz : V4.heap.size ≤ ((((V4.setCell ⟨V1.heap.size, 0, none⟩ (.int .i64 n0)).setCell ⟨V1.heap.size, 1, none⟩ (.int .i64 n1)).setCell ⟨V1.heap.size, 2, none⟩ (.int .i64 n2)).setCell ⟨V1.heap.size, 3, none⟩ (.int .i64 n3)).heap.size := by simp only [World.size_setCell]; exact Nat.le_refl _
              have T := T.oth4M (i := V1.heap.size) (by omega) (.int .i64 n0) (.int .i64 n1) (.int .i64 n2) (.int .i64 n3)
              have G := G.at (W' := ((((V4.setCell ⟨V1.heap.size, 0, none⟩ (.int .i64 n0)).setCell ⟨V1.heap.size, 1, none⟩ (.int .i64 n1)).setCell ⟨V1.heap.size, 2, none⟩ (.int .i64 n2)).setCell ⟨V1.heap.size, 3, none⟩ (.int .i64 n3))) (set4_heap (by omega) _ _ _ _) hsz
              have E : Emp ((((V4.setCell ⟨V1.heap.size, 0, none⟩ (.int .i64 n0)).setCell ⟨V1.heap.size, 1, none⟩ (.int .i64 n1)).setCell ⟨V1.heap.size, 2, none⟩ (.int .i64 n2)).setCell ⟨V1.heap.size, 3, none⟩ (.int .i64 n3)) _ := (set4_heap (by omega) _ _ _ _).trans E
              have R := R.atB (W' := ((((V4.setCell ⟨V1.heap.size, 0, none⟩ (.int .i64 n0)).setCell ⟨V1.heap.size, 1, none⟩ (.int .i64 n1)).setCell ⟨V1.heap.size, 2, none⟩ (.int .i64 n2)).setCell ⟨V1.heap.size, 3, none⟩ (.int .i64 n3))) (set4_heap (by omega) _ _ _ _) hsz
              have Z := Arr.store4 Z.box (x := n0) (y := n1) (z := n2) (u := n3)
              have U : Below W2.heap.size W2 ((((V4.setCell ⟨V1.heap.size, 0, none⟩ (.int .i64 n0)).setCell ⟨V1.heap.size, 1, none⟩ (.int .i64 n1)).setCell ⟨V1.heap.size, 2, none⟩ (.int .i64 n2)).setCell ⟨V1.heap.size, 3, none⟩ (.int .i64 n3)) := by (repeat' (first | with_reducible exact Below.refl _ _ | with_reducible assumption | with_reducible refine gr_alloc ?_ _ | with_reducible refine gr_drew ?_ | with_reducible refine gr_drewN ?_ _ | with_reducible refine gr_trans ?_ (by assumption) | with_reducible refine gr_set ?_ ?_ _ | (simp; done) | omega | (simp; omega)))
              refine hK.out _ _ (cells8G T G) (fun hHeld => ?_)
              clear hK K z0 z1 z2 z3 y0 y1 y2 y3
              ((try simp only [Act.put]); (try simp only [List.setIfInBounds_toArray]); (try simp only [List.set_cons_succ]); (try simp only [List.set_cons_zero]))
              generalize ((((V4.setCell ⟨V1.heap.size, 0, none⟩ (.int .i64 n0)).setCell ⟨V1.heap.size, 1, none⟩ (.int .i64 n1)).setCell ⟨V1.heap.size, 2, none⟩ (.int .i64 n2)).setCell ⟨V1.heap.size, 3, none⟩ (.int .i64 n3)) = V5 at T G Z E R U hsz hHeld ⊢
              (refine wpAnyH_take (i := 8) (oi := { dst := some 6, op := .assign (.tmp 18), type := _, pos := _, after := _, guard := _ }) (v := ?_) rfl (by kernel_rfl) (by kernel_rfl) (by kernel_rfl) (fun _ _ _ h => h) (Or.inl ⟨by rfl, ?_⟩) (by assumption) ?_; rotate_left 1; (focus (intro w hSw; (try dsimp only at hSw); go_simp; (first | done | with_reducible rfl))); ((try simp only [Act.put]); (try simp only [List.setIfInBounds_toArray]); (try simp only [List.set_cons_succ]); (try simp only [List.set_cons_zero])))
              (refine wpAnyH_take (i := 9) (oi := { dst := some 7, op := .assign (.tmp 19), type := _, pos := _, after := _, guard := _ }) (v := ?_) rfl (by kernel_rfl) (by kernel_rfl) (by kernel_rfl) (fun _ _ _ h => h) (Or.inl ⟨by rfl, ?_⟩) (by assumption) ?_; rotate_left 1; (focus (intro w hSw; (try dsimp only at hSw); go_simp; (first | done | with_reducible rfl))); ((try simp only [Act.put]); (try simp only [List.setIfInBounds_toArray]); (try simp only [List.set_cons_succ]); (try simp only [List.set_cons_zero])))
              refine wpAnyH_done (by kernel_rfl) ?_ _
              go_wp2_with fail
              go_meet
              exact ⟨_, _, _, _, rfl, rfl, rfl, Z, R, E.row (by have := HU2.out.size; omega), U⟩
          · obtain ⟨hzl, z0, z1, z2, z3, y0, y1, y2, y3⟩ := id Z
            have hTl := T.lt; have hGl := G.lt; have hRl := R.lt
            go_simp
            have hsz : V3.heap.size ≤ ((((V3.setCell ⟨V1.heap.size, 0, none⟩ (.int .i64 n0)).setCell ⟨V1.heap.size, 1, none⟩ (.int .i64 n1)).setCell ⟨V1.heap.size, 2, none⟩ (.int .i64 n2)).setCell ⟨V1.heap.size, 3, none⟩ (.int .i64 n3)).heap.size := by simp only [World.size_setCell]; exact Nat.le_refl _
            have T := T.oth4M (i := V1.heap.size) (by omega) (.int .i64 n0) (.int .i64 n1) (.int .i64 n2) (.int .i64 n3)
            have G := G.at (W' := ((((V3.setCell ⟨V1.heap.size, 0, none⟩ (.int .i64 n0)).setCell ⟨V1.heap.size, 1, none⟩ (.int .i64 n1)).setCell ⟨V1.heap.size, 2, none⟩ (.int .i64 n2)).setCell ⟨V1.heap.size, 3, none⟩ (.int .i64 n3))) (set4_heap (by omega) _ _ _ _) hsz
            have R := R.atB (W' := ((((V3.setCell ⟨V1.heap.size, 0, none⟩ (.int .i64 n0)).setCell ⟨V1.heap.size, 1, none⟩ (.int .i64 n1)).setCell ⟨V1.heap.size, 2, none⟩ (.int .i64 n2)).setCell ⟨V1.heap.size, 3, none⟩ (.int .i64 n3))) (set4_heap (by omega) _ _ _ _) hsz
            have Z := Arr.store4 Z.box (x := n0) (y := n1) (z := n2) (u := n3)
            have U : Below W2.heap.size W2 ((((V3.setCell ⟨V1.heap.size, 0, none⟩ (.int .i64 n0)).setCell ⟨V1.heap.size, 1, none⟩ (.int .i64 n1)).setCell ⟨V1.heap.size, 2, none⟩ (.int .i64 n2)).setCell ⟨V1.heap.size, 3, none⟩ (.int .i64 n3)) := by (repeat' (first | with_reducible exact Below.refl _ _ | with_reducible assumption | with_reducible refine gr_alloc ?_ _ | with_reducible refine gr_drew ?_ | with_reducible refine gr_drewN ?_ _ | with_reducible refine gr_trans ?_ (by assumption) | with_reducible refine gr_set ?_ ?_ _ | (simp; done) | omega | (simp; omega)))
            refine hK.out _ _ (cells8G T G) (fun hHeld => ?_)
            clear hK K z0 z1 z2 z3 y0 y1 y2 y3
            ((try simp only [Act.put]); (try simp only [List.setIfInBounds_toArray]); (try simp only [List.set_cons_succ]); (try simp only [List.set_cons_zero]))
            generalize ((((V3.setCell ⟨V1.heap.size, 0, none⟩ (.int .i64 n0)).setCell ⟨V1.heap.size, 1, none⟩ (.int .i64 n1)).setCell ⟨V1.heap.size, 2, none⟩ (.int .i64 n2)).setCell ⟨V1.heap.size, 3, none⟩ (.int .i64 n3)) = V4 at T G Z R U hsz hHeld ⊢
            (refine wpAnyH_take (i := 8) (oi := { dst := some 6, op := .assign (.tmp 18), type := _, pos := _, after := _, guard := _ }) (v := ?_) rfl (by kernel_rfl) (by kernel_rfl) (by kernel_rfl) (fun _ _ _ h => h) (Or.inl ⟨by rfl, ?_⟩) (by assumption) ?_; rotate_left 1; (focus (intro w hSw; (try dsimp only at hSw); go_simp; (first | done | with_reducible rfl))); ((try simp only [Act.put]); (try simp only [List.setIfInBounds_toArray]); (try simp only [List.set_cons_succ]); (try simp only [List.set_cons_zero])))
            refine wpAnyH_ready (rs := [5]) (by kernel_rfl) (by simp) ?_
            refine AllReadyH.cons (o := _) rfl (fun K hK => ?_) AllReadyH.nil
            · go_simp
              have T := T.next (gr_alloc (Below.refl _ V4) (.cells #[] 44))
              have G := G.next (gr_alloc (Below.refl _ V4) (.cells #[] 44))
              have Z := Z.next (gr_alloc (Below.refl _ V4) (.cells #[] 44))
              have R := R.next (gr_alloc (Below.refl _ V4) (.cells #[] 44)) R.lt
              have E : Emp (V4.alloc (.cells #[] 44)) V4.heap.size := heap_alloc_new V4 _
              have hE : W2.heap.size ≤ V4.heap.size := U.size
              have U := gr_alloc U (.cells #[] 44)
              have hs5 := Nat.le_of_eq (alloc_size V4 (.cells #[] 44)).symm
              refine hK.out _ _ (cells8G T G) (fun hHeld => ?_)
              clear hK K
              ((try simp only [Act.put]); (try simp only [List.setIfInBounds_toArray]); (try simp only [List.set_cons_succ]); (try simp only [List.set_cons_zero]))
              generalize V4.alloc (.cells #[] 44) = V5 at T G Z E R U hs5 hHeld ⊢
              (refine wpAnyH_take (i := 9) (oi := { dst := some 7, op := .assign (.tmp 19), type := _, pos := _, after := _, guard := _ }) (v := ?_) rfl (by kernel_rfl) (by kernel_rfl) (by kernel_rfl) (fun _ _ _ h => h) (Or.inl ⟨by rfl, ?_⟩) (by assumption) ?_; rotate_left 1; (focus (intro w hSw; (try dsimp only at hSw); go_simp; (first | done | with_reducible rfl))); ((try simp only [Act.put]); (try simp only [List.setIfInBounds_toArray]); (try simp only [List.set_cons_succ]); (try simp only [List.set_cons_zero])))
              refine wpAnyH_done (by kernel_rfl) ?_ _
              go_wp2_with fail
              go_meet
              exact ⟨_, _, _, _, rfl, rfl, rfl, Z, R, E.row (by have := HU2.out.size; omega), U⟩
        · go_simp
          have T := T.next (gr_alloc (Below.refl _ V2) (.cells #[] 44))
          have G := G.next (gr_alloc (Below.refl _ V2) (.cells #[] 44))
          have Z := Z.next (gr_alloc (Below.refl _ V2) (.cells #[] 44))
          have E : Emp (V2.alloc (.cells #[] 44)) V2.heap.size := heap_alloc_new V2 _
          have hE : W2.heap.size ≤ V2.heap.size := U.size
          have U := gr_alloc U (.cells #[] 44)
          have hs3 := Nat.le_of_eq (alloc_size V2 (.cells #[] 44)).symm
          refine hK.out _ _ (cells8G T G) (fun hHeld => ?_)
          clear hK K
          ((try simp only [Act.put]); (try simp only [List.setIfInBounds_toArray]); (try simp only [List.set_cons_succ]); (try simp only [List.set_cons_zero]))
          generalize V2.alloc (.cells #[] 44) = V3 at T G Z E U hs3 hHeld ⊢
          refine wpAnyH_ready (rs := [4]) (by kernel_rfl) (by simp) ?_
          refine AllReadyH.cons (o := _) rfl (fun K hK => ?_) AllReadyH.nil
          · go_simp
            refine (HNU.out _).mono ?_
            rintro e V4 ⟨uv, rfl, hru, hy⟩
            obtain ⟨gu, cu, hgu, R, hru2⟩ := units_at2 hru HUN.out
            subst hgu
            clear hru
            have hrl := R.lt
            have T := T.next hy
            have G := G.next hy
            have Z := Z.next hy
            have E := E.next hy
            have hs4 := hy.size
            have U := gr_trans U hy
            clear hy
            go_wp2_with fail
            refine hK.out _ _ (cells8G T G) (fun hHeld => ?_)
            clear hK K
            ((try simp only [Act.put]); (try simp only [List.setIfInBounds_toArray]); (try simp only [List.set_cons_succ]); (try simp only [List.set_cons_zero]))
            refine wpAnyH_ready (rs := [7]) (by kernel_rfl) (by simp) ?_
            refine AllReadyH.cons (o := _) rfl (fun K hK => ?_) AllReadyH.nil
            · obtain ⟨hzl, z0, z1, z2, z3, y0, y1, y2, y3⟩ := id Z
              have hTl := T.lt; have hGl := G.lt; have hEl := E.lt; have hRl := R.lt
              go_simp
              have hsz : V4.heap.size ≤ ((((V4.setCell ⟨V1.heap.size, 0, none⟩ (.int .i64 n0)).setCell ⟨V1.heap.size, 1, none⟩ (.int .i64 n1)).setCell ⟨V1.heap.size, 2, none⟩ (.int .i64 n2)).setCell ⟨V1.heap.size, 3, none⟩ (.int .i64 n3)).heap.size := by simp only [World.size_setCell]; exact Nat.le_refl _
              have T := T.oth4M (i := V1.heap.size) (by omega) (.int .i64 n0) (.int .i64 n1) (.int .i64 n2) (.int .i64 n3)
              have G := G.at (W' := ((((V4.setCell ⟨V1.heap.size, 0, none⟩ (.int .i64 n0)).setCell ⟨V1.heap.size, 1, none⟩ (.int .i64 n1)).setCell ⟨V1.heap.size, 2, none⟩ (.int .i64 n2)).setCell ⟨V1.heap.size, 3, none⟩ (.int .i64 n3))) (set4_heap (by omega) _ _ _ _) hsz
              have E : Emp ((((V4.setCell ⟨V1.heap.size, 0, none⟩ (.int .i64 n0)).setCell ⟨V1.heap.size, 1, none⟩ (.int .i64 n1)).setCell ⟨V1.heap.size, 2, none⟩ (.int .i64 n2)).setCell ⟨V1.heap.size, 3, none⟩ (.int .i64 n3)) _ := (set4_heap (by omega) _ _ _ _).trans E
              have R := R.atB (W' := ((((V4.setCell ⟨V1.heap.size, 0, none⟩ (.int .i64 n0)).setCell ⟨V1.heap.size, 1, none⟩ (.int .i64 n1)).setCell ⟨V1.heap.size, 2, none⟩ (.int .i64 n2)).setCell ⟨V1.heap.size, 3, none⟩ (.int .i64 n3))) (set4_heap (by omega) _ _ _ _) hsz
              have Z := Arr.store4 Z.box (x := n0) (y := n1) (z := n2) (u := n3)
              have U : Below W2.heap.size W2 ((((V4.setCell ⟨V1.heap.size, 0, none⟩ (.int .i64 n0)).setCell ⟨V1.heap.size, 1, none⟩ (.int .i64 n1)).setCell ⟨V1.heap.size, 2, none⟩ (.int .i64 n2)).setCell ⟨V1.heap.size, 3, none⟩ (.int .i64 n3)) := by (repeat' (first | with_reducible exact Below.refl _ _ | with_reducible assumption | with_reducible refine gr_alloc ?_ _ | with_reducible refine gr_drew ?_ | with_reducible refine gr_drewN ?_ _ | with_reducible refine gr_trans ?_ (by assumption) | with_reducible refine gr_set ?_ ?_ _ | (simp; done) | omega | (simp; omega)))
              refine hK.out _ _ (cells8G T G) (fun hHeld => ?_)
              clear hK K z0 z1 z2 z3 y0 y1 y2 y3
              ((try simp only [Act.put]); (try simp only [List.setIfInBounds_toArray]); (try simp only [List.set_cons_succ]); (try simp only [List.set_cons_zero]))
              generalize ((((V4.setCell ⟨V1.heap.size, 0, none⟩ (.int .i64 n0)).setCell ⟨V1.heap.size, 1, none⟩ (.int .i64 n1)).setCell ⟨V1.heap.size, 2, none⟩ (.int .i64 n2)).setCell ⟨V1.heap.size, 3, none⟩ (.int .i64 n3)) = V5 at T G Z E R U hsz hHeld ⊢
              (refine wpAnyH_take (i := 8) (oi := { dst := some 6, op := .assign (.tmp 18), type := _, pos := _, after := _, guard := _ }) (v := ?_) rfl (by kernel_rfl) (by kernel_rfl) (by kernel_rfl) (fun _ _ _ h => h) (Or.inl ⟨by rfl, ?_⟩) (by assumption) ?_; rotate_left 1; (focus (intro w hSw; (try dsimp only at hSw); go_simp; (first | done | with_reducible rfl))); ((try simp only [Act.put]); (try simp only [List.setIfInBounds_toArray]); (try simp only [List.set_cons_succ]); (try simp only [List.set_cons_zero])))
              (refine wpAnyH_take (i := 9) (oi := { dst := some 7, op := .assign (.tmp 19), type := _, pos := _, after := _, guard := _ }) (v := ?_) rfl (by kernel_rfl) (by kernel_rfl) (by kernel_rfl) (fun _ _ _ h => h) (Or.inl ⟨by rfl, ?_⟩) (by assumption) ?_; rotate_left 1; (focus (intro w hSw; (try dsimp only at hSw); go_simp; (first | done | with_reducible rfl))); ((try simp only [Act.put]); (try simp only [List.setIfInBounds_toArray]); (try simp only [List.set_cons_succ]); (try simp only [List.set_cons_zero])))
              refine wpAnyH_done (by kernel_rfl) ?_ _
              go_wp2_with fail
              go_meet
              exact ⟨_, _, _, _, rfl, rfl, rfl, Z, R, E.row (by have := HU2.out.size; omega), U⟩
    · go_simp
      have T := T.next (gr_alloc (Below.refl _ V0) (.cells #[] 44))
      have E : Emp (V0.alloc (.cells #[] 44)) V0.heap.size := heap_alloc_new V0 _
      have hE : W2.heap.size ≤ V0.heap.size := U.size
      have U := gr_alloc U (.cells #[] 44)
      have hs1 := Nat.le_of_eq (alloc_size V0 (.cells #[] 44)).symm
      refine hK.out _ _ (cells4 T) (fun hHeld => ?_)
      clear hK K
      ((try simp only [Act.put]); (try simp only [List.setIfInBounds_toArray]); (try simp only [List.set_cons_succ]); (try simp only [List.set_cons_zero]))
      generalize V0.alloc (.cells #[] 44) = V1 at T E U hs1 hHeld ⊢
      refine wpAnyH_ready (rs := [1, 6]) (by kernel_rfl) (by simp) ?_
      refine AllReadyH.cons (o := _) rfl (fun K hK => ?_) (AllReadyH.cons (o := _) rfl (fun K hK => ?_) AllReadyH.nil)
      · go_simp
        refine (HF.out _).mono ?_
        rintro e V2 ⟨g, n, cap, xs, rfl, hgot, hlen, hrow, hy⟩
        have G := first_at hrow (HN.out xs hgot)
        obtain ⟨hn1, hn2, hn3⟩ := first_pos hrow (HN.out xs hgot)
        obtain ⟨hc1, hc2⟩ := row_cap hrow
        have hg := rowFm_ge hrow; have hgl := G.lt
        clear hgot hlen hrow
        have T := T.next hy
        have E := E.next hy
        have hs2 := hy.size
        have U := gr_trans U hy
        clear hy
        go_wp2_with fail
        refine hK.out _ _ (cells4 T) (fun hHeld => ?_)
        clear hK K
        ((try simp only [Act.put]); (try simp only [List.setIfInBounds_toArray]); (try simp only [List.set_cons_succ]); (try simp only [List.set_cons_zero]))
        refine wpAnyH_strong (S := (fun W => W.cell? ⟨j, 0, none⟩ = some (.int .i64 ta) ∧ W.cell? ⟨j, 1, none⟩ = some (.int .i64 tb) ∧ W.cell? ⟨j, 2, none⟩ = some (.int .i64 tc) ∧ W.cell? ⟨j, 3, none⟩ = some (.int .i64 td))) (S' := (fun W => W.cell? ⟨j, 0, none⟩ = some (.int .i64 ta) ∧ W.cell? ⟨j, 1, none⟩ = some (.int .i64 tb) ∧ W.cell? ⟨j, 2, none⟩ = some (.int .i64 tc) ∧ W.cell? ⟨j, 3, none⟩ = some (.int .i64 td) ∧ W.cell? ⟨g, 0, none⟩ = some (.int .i64 n0) ∧ W.cell? ⟨g, 1, none⟩ = some (.int .i64 n1) ∧ W.cell? ⟨g, 2, none⟩ = some (.int .i64 n2) ∧ W.cell? ⟨g, 3, none⟩ = some (.int .i64 n3))) (fun _ h => ⟨h.1, h.2.1, h.2.2.1, h.2.2.2.1⟩) _ _ _ _ ?_
        clear hHeld
        have hHeld := cells8G T G
        (refine wpAnyH_take (i := 2) (v := ?_) rfl (by kernel_rfl) (by kernel_rfl) (by kernel_rfl) (fun _ _ _ h => h) (Or.inl ⟨by rfl, ?_⟩) (by assumption) ?_; rotate_left 1; (focus (intro w hSw; (try dsimp only at hSw); go_simp; (first | done | with_reducible rfl))); ((try simp only [Act.put]); (try simp only [List.setIfInBounds_toArray]); (try simp only [List.set_cons_succ]); (try simp only [List.set_cons_zero]))); (refine wpAnyH_take (i := 3) (v := ?_) rfl (by kernel_rfl) (by kernel_rfl) (by kernel_rfl) (fun _ _ _ h => h) (Or.inl ⟨by rfl, ?_⟩) (by assumption) ?_; rotate_left 1; (focus (intro w hSw; (try dsimp only at hSw); go_simp; (first | done | with_reducible rfl))); ((try simp only [Act.put]); (try simp only [List.setIfInBounds_toArray]); (try simp only [List.set_cons_succ]); (try simp only [List.set_cons_zero])))
        refine wpAnyH_ready (rs := [4, 6]) (by kernel_rfl) (by simp) ?_
        refine AllReadyH.cons (o := _) rfl (fun K hK => ?_) (AllReadyH.cons (o := _) rfl (fun K hK => ?_) AllReadyH.nil)
        · go_simp
          refine (HNU.out _).mono ?_
          rintro e V3 ⟨uv, rfl, hru, hy⟩
          obtain ⟨gu, cu, hgu, R, hru2⟩ := units_at2 hru HUN.out
          subst hgu
          clear hru
          have hrl := R.lt
          have T := T.next hy
          have G := G.next hy
          have E := E.next hy
          have hs3 := hy.size
          have U := gr_trans U hy
          clear hy
          go_wp2_with fail
          refine hK.out _ _ (cells8G T G) (fun hHeld => ?_)
          clear hK K
          ((try simp only [Act.put]); (try simp only [List.setIfInBounds_toArray]); (try simp only [List.set_cons_succ]); (try simp only [List.set_cons_zero]))
          refine wpAnyH_ready (rs := [6]) (by kernel_rfl) (by simp) ?_
          refine AllReadyH.cons (o := _) rfl (fun K hK => ?_) AllReadyH.nil
          · go_simp
            have T := T.next (gr_alloc (Below.refl _ V3) (.cells #[.int .i64 0, .int .i64 0, .int .i64 0, .int .i64 0] 26))
            have G := G.next (gr_alloc (Below.refl _ V3) (.cells #[.int .i64 0, .int .i64 0, .int .i64 0, .int .i64 0] 26))
            have E := E.next (gr_alloc (Below.refl _ V3) (.cells #[.int .i64 0, .int .i64 0, .int .i64 0, .int .i64 0] 26))
            have R := R.next (gr_alloc (Below.refl _ V3) (.cells #[.int .i64 0, .int .i64 0, .int .i64 0, .int .i64 0] 26)) R.lt
            have Z := Arr.new V3 0 0 0 0 26
            have U := gr_alloc U (.cells #[.int .i64 0, .int .i64 0, .int .i64 0, .int .i64 0] 26)
            have hs4 := Nat.le_of_eq (alloc_size V3 (.cells #[.int .i64 0, .int .i64 0, .int .i64 0, .int .i64 0] 26)).symm
            refine hK.out _ _ (cells8G T G) (fun hHeld => ?_)
            clear hK K
            ((try simp only [Act.put]); (try simp only [List.setIfInBounds_toArray]); (try simp only [List.set_cons_succ]); (try simp only [List.set_cons_zero]))
            generalize V3.alloc (.cells #[.int .i64 0, .int .i64 0, .int .i64 0, .int .i64 0] 26) = V4 at T G Z E R U hs4 hHeld ⊢
            refine wpAnyH_ready (rs := [7]) (by kernel_rfl) (by simp) ?_
            refine AllReadyH.cons (o := _) rfl (fun K hK => ?_) AllReadyH.nil
            · obtain ⟨hzl, z0, z1, z2, z3, y0, y1, y2, y3⟩ := id Z
              have hTl := T.lt; have hGl := G.lt; have hEl := E.lt; have hRl := R.lt
              go_simp
              have hsz : V4.heap.size ≤ ((((V4.setCell ⟨V3.heap.size, 0, none⟩ (.int .i64 n0)).setCell ⟨V3.heap.size, 1, none⟩ (.int .i64 n1)).setCell ⟨V3.heap.size, 2, none⟩ (.int .i64 n2)).setCell ⟨V3.heap.size, 3, none⟩ (.int .i64 n3)).heap.size := by simp only [World.size_setCell]; exact Nat.le_refl _
              have T := T.oth4M (i := V3.heap.size) (by omega) (.int .i64 n0) (.int .i64 n1) (.int .i64 n2) (.int .i64 n3)
              have G := G.at (W' := ((((V4.setCell ⟨V3.heap.size, 0, none⟩ (.int .i64 n0)).setCell ⟨V3.heap.size, 1, none⟩ (.int .i64 n1)).setCell ⟨V3.heap.size, 2, none⟩ (.int .i64 n2)).setCell ⟨V3.heap.size, 3, none⟩ (.int .i64 n3))) (set4_heap (by omega) _ _ _ _) hsz
              have E : Emp ((((V4.setCell ⟨V3.heap.size, 0, none⟩ (.int .i64 n0)).setCell ⟨V3.heap.size, 1, none⟩ (.int .i64 n1)).setCell ⟨V3.heap.size, 2, none⟩ (.int .i64 n2)).setCell ⟨V3.heap.size, 3, none⟩ (.int .i64 n3)) _ := (set4_heap (by omega) _ _ _ _).trans E
              have R := R.atB (W' := ((((V4.setCell ⟨V3.heap.size, 0, none⟩ (.int .i64 n0)).setCell ⟨V3.heap.size, 1, none⟩ (.int .i64 n1)).setCell ⟨V3.heap.size, 2, none⟩ (.int .i64 n2)).setCell ⟨V3.heap.size, 3, none⟩ (.int .i64 n3))) (set4_heap (by omega) _ _ _ _) hsz
              have Z := Arr.store4 Z.box (x := n0) (y := n1) (z := n2) (u := n3)
              have U : Below W2.heap.size W2 ((((V4.setCell ⟨V3.heap.size, 0, none⟩ (.int .i64 n0)).setCell ⟨V3.heap.size, 1, none⟩ (.int .i64 n1)).setCell ⟨V3.heap.size, 2, none⟩ (.int .i64 n2)).setCell ⟨V3.heap.size, 3, none⟩ (.int .i64 n3)) := by (repeat' (first | with_reducible exact Below.refl _ _ | with_reducible assumption | with_reducible refine gr_alloc ?_ _ | with_reducible refine gr_drew ?_ | with_reducible refine gr_drewN ?_ _ | with_reducible refine gr_trans ?_ (by assumption) | with_reducible refine gr_set ?_ ?_ _ | (simp; done) | omega | (simp; omega)))
              refine hK.out _ _ (cells8G T G) (fun hHeld => ?_)
              clear hK K z0 z1 z2 z3 y0 y1 y2 y3
              ((try simp only [Act.put]); (try simp only [List.setIfInBounds_toArray]); (try simp only [List.set_cons_succ]); (try simp only [List.set_cons_zero]))
              generalize ((((V4.setCell ⟨V3.heap.size, 0, none⟩ (.int .i64 n0)).setCell ⟨V3.heap.size, 1, none⟩ (.int .i64 n1)).setCell ⟨V3.heap.size, 2, none⟩ (.int .i64 n2)).setCell ⟨V3.heap.size, 3, none⟩ (.int .i64 n3)) = V5 at T G Z E R U hsz hHeld ⊢
              (refine wpAnyH_take (i := 8) (oi := { dst := some 6, op := .assign (.tmp 18), type := _, pos := _, after := _, guard := _ }) (v := ?_) rfl (by kernel_rfl) (by kernel_rfl) (by kernel_rfl) (fun _ _ _ h => h) (Or.inl ⟨by rfl, ?_⟩) (by assumption) ?_; rotate_left 1; (focus (intro w hSw; (try dsimp only at hSw); go_simp; (first | done | with_reducible rfl))); ((try simp only [Act.put]); (try simp only [List.setIfInBounds_toArray]); (try simp only [List.set_cons_succ]); (try simp only [List.set_cons_zero])))
              (refine wpAnyH_take (i := 9) (oi := { dst := some 7, op := .assign (.tmp 19), type := _, pos := _, after := _, guard := _ }) (v := ?_) rfl (by kernel_rfl) (by kernel_rfl) (by kernel_rfl) (fun _ _ _ h => h) (Or.inl ⟨by rfl, ?_⟩) (by assumption) ?_; rotate_left 1; (focus (intro w hSw; (try dsimp only at hSw); go_simp; (first | done | with_reducible rfl))); ((try simp only [Act.put]); (try simp only [List.setIfInBounds_toArray]); (try simp only [List.set_cons_succ]); (try simp only [List.set_cons_zero])))
              refine wpAnyH_done (by kernel_rfl) ?_ _
              go_wp2_with fail
              go_meet
              exact ⟨_, _, _, _, rfl, rfl, rfl, Z, R, E.row (by have := HU2.out.size; omega), U⟩
        · go_simp
          have T := T.next (gr_alloc (Below.refl _ V2) (.cells #[.int .i64 0, .int .i64 0, .int .i64 0, .int .i64 0] 26))
          have G := G.next (gr_alloc (Below.refl _ V2) (.cells #[.int .i64 0, .int .i64 0, .int .i64 0, .int .i64 0] 26))
          have E := E.next (gr_alloc (Below.refl _ V2) (.cells #[.int .i64 0, .int .i64 0, .int .i64 0, .int .i64 0] 26))
          have Z := Arr.new V2 0 0 0 0 26
          have U := gr_alloc U (.cells #[.int .i64 0, .int .i64 0, .int .i64 0, .int .i64 0] 26)
          have hs3 := Nat.le_of_eq (alloc_size V2 (.cells #[.int .i64 0, .int .i64 0, .int .i64 0, .int .i64 0] 26)).symm
          refine hK.out _ _ (cells8G T G) (fun hHeld => ?_)
          clear hK K
          ((try simp only [Act.put]); (try simp only [List.setIfInBounds_toArray]); (try simp only [List.set_cons_succ]); (try simp only [List.set_cons_zero]))
          generalize V2.alloc (.cells #[.int .i64 0, .int .i64 0, .int .i64 0, .int .i64 0] 26) = V3 at T G Z E U hs3 hHeld ⊢
          refine wpAnyH_ready (rs := [4]) (by kernel_rfl) (by simp) ?_
          refine AllReadyH.cons (o := _) rfl (fun K hK => ?_) AllReadyH.nil
          · go_simp
            refine (HNU.out _).mono ?_
            rintro e V4 ⟨uv, rfl, hru, hy⟩
            obtain ⟨gu, cu, hgu, R, hru2⟩ := units_at2 hru HUN.out
            subst hgu
            clear hru
            have hrl := R.lt
            have T := T.next hy
            have G := G.next hy
            have Z := Z.next hy
            have E := E.next hy
            have hs4 := hy.size
            have U := gr_trans U hy
            clear hy
            go_wp2_with fail
            refine hK.out _ _ (cells8G T G) (fun hHeld => ?_)
            clear hK K
            ((try simp only [Act.put]); (try simp only [List.setIfInBounds_toArray]); (try simp only [List.set_cons_succ]); (try simp only [List.set_cons_zero]))
            refine wpAnyH_ready (rs := [7]) (by kernel_rfl) (by simp) ?_
            refine AllReadyH.cons (o := _) rfl (fun K hK => ?_) AllReadyH.nil
            · obtain ⟨hzl, z0, z1, z2, z3, y0, y1, y2, y3⟩ := id Z
              have hTl := T.lt; have hGl := G.lt; have hEl := E.lt; have hRl := R.lt
              go_simp
              have hsz : V4.heap.size ≤ ((((V4.setCell ⟨V2.heap.size, 0, none⟩ (.int .i64 n0)).setCell ⟨V2.heap.size, 1, none⟩ (.int .i64 n1)).setCell ⟨V2.heap.size, 2, none⟩ (.int .i64 n2)).setCell ⟨V2.heap.size, 3, none⟩ (.int .i64 n3)).heap.size := by simp only [World.size_setCell]; exact Nat.le_refl _
              have T := T.oth4M (i := V2.heap.size) (by omega) (.int .i64 n0) (.int .i64 n1) (.int .i64 n2) (.int .i64 n3)
              have G := G.at (W' := ((((V4.setCell ⟨V2.heap.size, 0, none⟩ (.int .i64 n0)).setCell ⟨V2.heap.size, 1, none⟩ (.int .i64 n1)).setCell ⟨V2.heap.size, 2, none⟩ (.int .i64 n2)).setCell ⟨V2.heap.size, 3, none⟩ (.int .i64 n3))) (set4_heap (by omega) _ _ _ _) hsz
              have E : Emp ((((V4.setCell ⟨V2.heap.size, 0, none⟩ (.int .i64 n0)).setCell ⟨V2.heap.size, 1, none⟩ (.int .i64 n1)).setCell ⟨V2.heap.size, 2, none⟩ (.int .i64 n2)).setCell ⟨V2.heap.size, 3, none⟩ (.int .i64 n3)) _ := (set4_heap (by omega) _ _ _ _).trans E
              have R := R.atB (W' := ((((V4.setCell ⟨V2.heap.size, 0, none⟩ (.int .i64 n0)).setCell ⟨V2.heap.size, 1, none⟩ (.int .i64 n1)).setCell ⟨V2.heap.size, 2, none⟩ (.int .i64 n2)).setCell ⟨V2.heap.size, 3, none⟩ (.int .i64 n3))) (set4_heap (by omega) _ _ _ _) hsz
              have Z := Arr.store4 Z.box (x := n0) (y := n1) (z := n2) (u := n3)
              have U : Below W2.heap.size W2 ((((V4.setCell ⟨V2.heap.size, 0, none⟩ (.int .i64 n0)).setCell ⟨V2.heap.size, 1, none⟩ (.int .i64 n1)).setCell ⟨V2.heap.size, 2, none⟩ (.int .i64 n2)).setCell ⟨V2.heap.size, 3, none⟩ (.int .i64 n3)) := by (repeat' (first | with_reducible exact Below.refl _ _ | with_reducible assumption | with_reducible refine gr_alloc ?_ _ | with_reducible refine gr_drew ?_ | with_reducible refine gr_drewN ?_ _ | with_reducible refine gr_trans ?_ (by assumption) | with_reducible refine gr_set ?_ ?_ _ | (simp; done) | omega | (simp; omega)))
              refine hK.out _ _ (cells8G T G) (fun hHeld => ?_)
              clear hK K z0 z1 z2 z3 y0 y1 y2 y3
              ((try simp only [Act.put]); (try simp only [List.setIfInBounds_toArray]); (try simp only [List.set_cons_succ]); (try simp only [List.set_cons_zero]))
              generalize ((((V4.setCell ⟨V2.heap.size, 0, none⟩ (.int .i64 n0)).setCell ⟨V2.heap.size, 1, none⟩ (.int .i64 n1)).setCell ⟨V2.heap.size, 2, none⟩ (.int .i64 n2)).setCell ⟨V2.heap.size, 3, none⟩ (.int .i64 n3)) = V5 at T G Z E R U hsz hHeld ⊢
              (refine wpAnyH_take (i := 8) (oi := { dst := some 6, op := .assign (.tmp 18), type := _, pos := _, after := _, guard := _ }) (v := ?_) rfl (by kernel_rfl) (by kernel_rfl) (by kernel_rfl) (fun _ _ _ h => h) (Or.inl ⟨by rfl, ?_⟩) (by assumption) ?_; rotate_left 1; (focus (intro w hSw; (try dsimp only at hSw); go_simp; (first | done | with_reducible rfl))); ((try simp only [Act.put]); (try simp only [List.setIfInBounds_toArray]); (try simp only [List.set_cons_succ]); (try simp only [List.set_cons_zero])))
              (refine wpAnyH_take (i := 9) (oi := { dst := some 7, op := .assign (.tmp 19), type := _, pos := _, after := _, guard := _ }) (v := ?_) rfl (by kernel_rfl) (by kernel_rfl) (by kernel_rfl) (fun _ _ _ h => h) (Or.inl ⟨by rfl, ?_⟩) (by assumption) ?_; rotate_left 1; (focus (intro w hSw; (try dsimp only at hSw); go_simp; (first | done | with_reducible rfl))); ((try simp only [Act.put]); (try simp only [List.setIfInBounds_toArray]); (try simp only [List.set_cons_succ]); (try simp only [List.set_cons_zero])))
              refine wpAnyH_done (by kernel_rfl) ?_ _
              go_wp2_with fail
              go_meet
              exact ⟨_, _, _, _, rfl, rfl, rfl, Z, R, E.row (by have := HU2.out.size; omega), U⟩
      · go_simp
        have T := T.next (gr_alloc (Below.refl _ V1) (.cells #[.int .i64 0, .int .i64 0, .int .i64 0, .int .i64 0] 26))
        have E := E.next (gr_alloc (Below.refl _ V1) (.cells #[.int .i64 0, .int .i64 0, .int .i64 0, .int .i64 0] 26))
        have Z := Arr.new V1 0 0 0 0 26
        have U := gr_alloc U (.cells #[.int .i64 0, .int .i64 0, .int .i64 0, .int .i64 0] 26)
        have hs2 := Nat.le_of_eq (alloc_size V1 (.cells #[.int .i64 0, .int .i64 0, .int .i64 0, .int .i64 0] 26)).symm
        refine hK.out _ _ (cells4 T) (fun hHeld => ?_)
        clear hK K
        ((try simp only [Act.put]); (try simp only [List.setIfInBounds_toArray]); (try simp only [List.set_cons_succ]); (try simp only [List.set_cons_zero]))
        generalize V1.alloc (.cells #[.int .i64 0, .int .i64 0, .int .i64 0, .int .i64 0] 26) = V2 at T Z E U hs2 hHeld ⊢
        refine wpAnyH_ready (rs := [1]) (by kernel_rfl) (by simp) ?_
        refine AllReadyH.cons (o := _) rfl (fun K hK => ?_) AllReadyH.nil
        · go_simp
          refine (HF.out _).mono ?_
          rintro e V3 ⟨g, n, cap, xs, rfl, hgot, hlen, hrow, hy⟩
          have G := first_at hrow (HN.out xs hgot)
          obtain ⟨hn1, hn2, hn3⟩ := first_pos hrow (HN.out xs hgot)
          obtain ⟨hc1, hc2⟩ := row_cap hrow
          have hg := rowFm_ge hrow; have hgl := G.lt
          clear hgot hlen hrow
          have T := T.next hy
          have Z := Z.next hy
          have E := E.next hy
          have hs3 := hy.size
          have U := gr_trans U hy
          clear hy
          go_wp2_with fail
          refine hK.out _ _ (cells4 T) (fun hHeld => ?_)
          clear hK K
          ((try simp only [Act.put]); (try simp only [List.setIfInBounds_toArray]); (try simp only [List.set_cons_succ]); (try simp only [List.set_cons_zero]))
          refine wpAnyH_strong (S := (fun W => W.cell? ⟨j, 0, none⟩ = some (.int .i64 ta) ∧ W.cell? ⟨j, 1, none⟩ = some (.int .i64 tb) ∧ W.cell? ⟨j, 2, none⟩ = some (.int .i64 tc) ∧ W.cell? ⟨j, 3, none⟩ = some (.int .i64 td))) (S' := (fun W => W.cell? ⟨j, 0, none⟩ = some (.int .i64 ta) ∧ W.cell? ⟨j, 1, none⟩ = some (.int .i64 tb) ∧ W.cell? ⟨j, 2, none⟩ = some (.int .i64 tc) ∧ W.cell? ⟨j, 3, none⟩ = some (.int .i64 td) ∧ W.cell? ⟨g, 0, none⟩ = some (.int .i64 n0) ∧ W.cell? ⟨g, 1, none⟩ = some (.int .i64 n1) ∧ W.cell? ⟨g, 2, none⟩ = some (.int .i64 n2) ∧ W.cell? ⟨g, 3, none⟩ = some (.int .i64 n3))) (fun _ h => ⟨h.1, h.2.1, h.2.2.1, h.2.2.2.1⟩) _ _ _ _ ?_
          clear hHeld
          have hHeld := cells8G T G
          (refine wpAnyH_take (i := 2) (v := ?_) rfl (by kernel_rfl) (by kernel_rfl) (by kernel_rfl) (fun _ _ _ h => h) (Or.inl ⟨by rfl, ?_⟩) (by assumption) ?_; rotate_left 1; (focus (intro w hSw; (try dsimp only at hSw); go_simp; (first | done | with_reducible rfl))); ((try simp only [Act.put]); (try simp only [List.setIfInBounds_toArray]); (try simp only [List.set_cons_succ]); (try simp only [List.set_cons_zero]))); (refine wpAnyH_take (i := 3) (v := ?_) rfl (by kernel_rfl) (by kernel_rfl) (by kernel_rfl) (fun _ _ _ h => h) (Or.inl ⟨by rfl, ?_⟩) (by assumption) ?_; rotate_left 1; (focus (intro w hSw; (try dsimp only at hSw); go_simp; (first | done | with_reducible rfl))); ((try simp only [Act.put]); (try simp only [List.setIfInBounds_toArray]); (try simp only [List.set_cons_succ]); (try simp only [List.set_cons_zero])))
          refine wpAnyH_ready (rs := [4]) (by kernel_rfl) (by simp) ?_
          refine AllReadyH.cons (o := _) rfl (fun K hK => ?_) AllReadyH.nil
          · go_simp
            refine (HNU.out _).mono ?_
            rintro e V4 ⟨uv, rfl, hru, hy⟩
            obtain ⟨gu, cu, hgu, R, hru2⟩ := units_at2 hru HUN.out
            subst hgu
            clear hru
            have hrl := R.lt
            have T := T.next hy
            have G := G.next hy
            have Z := Z.next hy
            have E := E.next hy
            have hs4 := hy.size
            have U := gr_trans U hy
            clear hy
            go_wp2_with fail
            refine hK.out _ _ (cells8G T G) (fun hHeld => ?_)
            clear hK K
            ((try simp only [Act.put]); (try simp only [List.setIfInBounds_toArray]); (try simp only [List.set_cons_succ]); (try simp only [List.set_cons_zero]))
            refine wpAnyH_ready (rs := [7]) (by kernel_rfl) (by simp) ?_
            refine AllReadyH.cons (o := _) rfl (fun K hK => ?_) AllReadyH.nil
            · obtain ⟨hzl, z0, z1, z2, z3, y0, y1, y2, y3⟩ := id Z
              have hTl := T.lt; have hGl := G.lt; have hEl := E.lt; have hRl := R.lt
              go_simp
              have hsz : V4.heap.size ≤ ((((V4.setCell ⟨V1.heap.size, 0, none⟩ (.int .i64 n0)).setCell ⟨V1.heap.size, 1, none⟩ (.int .i64 n1)).setCell ⟨V1.heap.size, 2, none⟩ (.int .i64 n2)).setCell ⟨V1.heap.size, 3, none⟩ (.int .i64 n3)).heap.size := by simp only [World.size_setCell]; exact Nat.le_refl _
              have T := T.oth4M (i := V1.heap.size) (by omega) (.int .i64 n0) (.int .i64 n1) (.int .i64 n2) (.int .i64 n3)
              have G := G.at (W' := ((((V4.setCell ⟨V1.heap.size, 0, none⟩ (.int .i64 n0)).setCell ⟨V1.heap.size, 1, none⟩ (.int .i64 n1)).setCell ⟨V1.heap.size, 2, none⟩ (.int .i64 n2)).setCell ⟨V1.heap.size, 3, none⟩ (.int .i64 n3))) (set4_heap (by omega) _ _ _ _) hsz
              have E : Emp ((((V4.setCell ⟨V1.heap.size, 0, none⟩ (.int .i64 n0)).setCell ⟨V1.heap.size, 1, none⟩ (.int .i64 n1)).setCell ⟨V1.heap.size, 2, none⟩ (.int .i64 n2)).setCell ⟨V1.heap.size, 3, none⟩ (.int .i64 n3)) _ := (set4_heap (by omega) _ _ _ _).trans E
              have R := R.atB (W' := ((((V4.setCell ⟨V1.heap.size, 0, none⟩ (.int .i64 n0)).setCell ⟨V1.heap.size, 1, none⟩ (.int .i64 n1)).setCell ⟨V1.heap.size, 2, none⟩ (.int .i64 n2)).setCell ⟨V1.heap.size, 3, none⟩ (.int .i64 n3))) (set4_heap (by omega) _ _ _ _) hsz
              have Z := Arr.store4 Z.box (x := n0) (y := n1) (z := n2) (u := n3)
              have U : Below W2.heap.size W2 ((((V4.setCell ⟨V1.heap.size, 0, none⟩ (.int .i64 n0)).setCell ⟨V1.heap.size, 1, none⟩ (.int .i64 n1)).setCell ⟨V1.heap.size, 2, none⟩ (.int .i64 n2)).setCell ⟨V1.heap.size, 3, none⟩ (.int .i64 n3)) := by (repeat' (first | with_reducible exact Below.refl _ _ | with_reducible assumption | with_reducible refine gr_alloc ?_ _ | with_reducible refine gr_drew ?_ | with_reducible refine gr_drewN ?_ _ | with_reducible refine gr_trans ?_ (by assumption) | with_reducible refine gr_set ?_ ?_ _ | (simp; done) | omega | (simp; omega)))
              refine hK.out _ _ (cells8G T G) (fun hHeld => ?_)
              clear hK K z0 z1 z2 z3 y0 y1 y2 y3
              ((try simp only [Act.put]); (try simp only [List.setIfInBounds_toArray]); (try simp only [List.set_cons_succ]); (try simp only [List.set_cons_zero]))
              generalize ((((V4.setCell ⟨V1.heap.size, 0, none⟩ (.int .i64 n0)).setCell ⟨V1.heap.size, 1, none⟩ (.int .i64 n1)).setCell ⟨V1.heap.size, 2, none⟩ (.int .i64 n2)).setCell ⟨V1.heap.size, 3, none⟩ (.int .i64 n3)) = V5 at T G Z E R U hsz hHeld ⊢
              (refine wpAnyH_take (i := 8) (oi := { dst := some 6, op := .assign (.tmp 18), type := _, pos := _, after := _, guard := _ }) (v := ?_) rfl (by kernel_rfl) (by kernel_rfl) (by kernel_rfl) (fun _ _ _ h => h) (Or.inl ⟨by rfl, ?_⟩) (by assumption) ?_; rotate_left 1; (focus (intro w hSw; (try dsimp only at hSw); go_simp; (first | done | with_reducible rfl))); ((try simp only [Act.put]); (try simp only [List.setIfInBounds_toArray]); (try simp only [List.set_cons_succ]); (try simp only [List.set_cons_zero])))
              (refine wpAnyH_take (i := 9) (oi := { dst := some 7, op := .assign (.tmp 19), type := _, pos := _, after := _, guard := _ }) (v := ?_) rfl (by kernel_rfl) (by kernel_rfl) (by kernel_rfl) (fun _ _ _ h => h) (Or.inl ⟨by rfl, ?_⟩) (by assumption) ?_; rotate_left 1; (focus (intro w hSw; (try dsimp only at hSw); go_simp; (first | done | with_reducible rfl))); ((try simp only [Act.put]); (try simp only [List.setIfInBounds_toArray]); (try simp only [List.set_cons_succ]); (try simp only [List.set_cons_zero])))
              refine wpAnyH_done (by kernel_rfl) ?_ _
              go_wp2_with fail
              go_meet
              exact ⟨_, _, _, _, rfl, rfl, rfl, Z, R, E.row (by have := HU2.out.size; omega), U⟩
    · go_simp
      have T := T.next (gr_alloc (Below.refl _ V0) (.cells #[.int .i64 0, .int .i64 0, .int .i64 0, .int .i64 0] 26))
      have Z := Arr.new V0 0 0 0 0 26
      have U := gr_alloc U (.cells #[.int .i64 0, .int .i64 0, .int .i64 0, .int .i64 0] 26)
      have hs1 := Nat.le_of_eq (alloc_size V0 (.cells #[.int .i64 0, .int .i64 0, .int .i64 0, .int .i64 0] 26)).symm
      refine hK.out _ _ (cells4 T) (fun hHeld => ?_)
      clear hK K
      ((try simp only [Act.put]); (try simp only [List.setIfInBounds_toArray]); (try simp only [List.set_cons_succ]); (try simp only [List.set_cons_zero]))
      generalize V0.alloc (.cells #[.int .i64 0, .int .i64 0, .int .i64 0, .int .i64 0] 26) = V1 at T Z U hs1 hHeld ⊢
      refine wpAnyH_ready (rs := [1, 5]) (by kernel_rfl) (by simp) ?_
      refine AllReadyH.cons (o := _) rfl (fun K hK => ?_) (AllReadyH.cons (o := _) rfl (fun K hK => ?_) AllReadyH.nil)
      · go_simp
        refine (HF.out _).mono ?_
        rintro e V2 ⟨g, n, cap, xs, rfl, hgot, hlen, hrow, hy⟩
        have G := first_at hrow (HN.out xs hgot)
        obtain ⟨hn1, hn2, hn3⟩ := first_pos hrow (HN.out xs hgot)
        obtain ⟨hc1, hc2⟩ := row_cap hrow
        have hg := rowFm_ge hrow; have hgl := G.lt
        clear hgot hlen hrow
        have T := T.next hy
        have Z := Z.next hy
        have hs2 := hy.size
        have U := gr_trans U hy
        clear hy
        go_wp2_with fail
        refine hK.out _ _ (cells4 T) (fun hHeld => ?_)
        clear hK K
        ((try simp only [Act.put]); (try simp only [List.setIfInBounds_toArray]); (try simp only [List.set_cons_succ]); (try simp only [List.set_cons_zero]))
        refine wpAnyH_strong (S := (fun W => W.cell? ⟨j, 0, none⟩ = some (.int .i64 ta) ∧ W.cell? ⟨j, 1, none⟩ = some (.int .i64 tb) ∧ W.cell? ⟨j, 2, none⟩ = some (.int .i64 tc) ∧ W.cell? ⟨j, 3, none⟩ = some (.int .i64 td))) (S' := (fun W => W.cell? ⟨j, 0, none⟩ = some (.int .i64 ta) ∧ W.cell? ⟨j, 1, none⟩ = some (.int .i64 tb) ∧ W.cell? ⟨j, 2, none⟩ = some (.int .i64 tc) ∧ W.cell? ⟨j, 3, none⟩ = some (.int .i64 td) ∧ W.cell? ⟨g, 0, none⟩ = some (.int .i64 n0) ∧ W.cell? ⟨g, 1, none⟩ = some (.int .i64 n1) ∧ W.cell? ⟨g, 2, none⟩ = some (.int .i64 n2) ∧ W.cell? ⟨g, 3, none⟩ = some (.int .i64 n3))) (fun _ h => ⟨h.1, h.2.1, h.2.2.1, h.2.2.2.1⟩) _ _ _ _ ?_
        clear hHeld
        have hHeld := cells8G T G
        (refine wpAnyH_take (i := 2) (v := ?_) rfl (by kernel_rfl) (by kernel_rfl) (by kernel_rfl) (fun _ _ _ h => h) (Or.inl ⟨by rfl, ?_⟩) (by assumption) ?_; rotate_left 1; (focus (intro w hSw; (try dsimp only at hSw); go_simp; (first | done | with_reducible rfl))); ((try simp only [Act.put]); (try simp only [List.setIfInBounds_toArray]); (try simp only [List.set_cons_succ]); (try simp only [List.set_cons_zero]))); (refine wpAnyH_take (i := 3) (v := ?_) rfl (by kernel_rfl) (by kernel_rfl) (by kernel_rfl) (fun _ _ _ h => h) (Or.inl ⟨by rfl, ?_⟩) (by assumption) ?_; rotate_left 1; (focus (intro w hSw; (try dsimp only at hSw); go_simp; (first | done | with_reducible rfl))); ((try simp only [Act.put]); (try simp only [List.setIfInBounds_toArray]); (try simp only [List.set_cons_succ]); (try simp only [List.set_cons_zero])))
        refine wpAnyH_ready (rs := [4, 5]) (by kernel_rfl) (by simp) ?_
        refine AllReadyH.cons (o := _) rfl (fun K hK => ?_) (AllReadyH.cons (o := _) rfl (fun K hK => ?_) AllReadyH.nil)
        · go_simp
          refine (HNU.out _).mono ?_
          rintro e V3 ⟨uv, rfl, hru, hy⟩
          obtain ⟨gu, cu, hgu, R, hru2⟩ := units_at2 hru HUN.out
          subst hgu
          clear hru
          have hrl := R.lt
          have T := T.next hy
          have G := G.next hy
          have Z := Z.next hy
          have hs3 := hy.size
          have U := gr_trans U hy
          clear hy
          go_wp2_with fail
          refine hK.out _ _ (cells8G T G) (fun hHeld => ?_)
          clear hK K
          ((try simp only [Act.put]); (try simp only [List.setIfInBounds_toArray]); (try simp only [List.set_cons_succ]); (try simp only [List.set_cons_zero]))
          refine wpAnyH_ready (rs := [5, 7]) (by kernel_rfl) (by simp) ?_
          refine AllReadyH.cons (o := _) rfl (fun K hK => ?_) (AllReadyH.cons (o := _) rfl (fun K hK => ?_) AllReadyH.nil)
          · go_simp
            have T := T.next (gr_alloc (Below.refl _ V3) (.cells #[] 44))
            have G := G.next (gr_alloc (Below.refl _ V3) (.cells #[] 44))
            have Z := Z.next (gr_alloc (Below.refl _ V3) (.cells #[] 44))
            have R := R.next (gr_alloc (Below.refl _ V3) (.cells #[] 44)) R.lt
            have E : Emp (V3.alloc (.cells #[] 44)) V3.heap.size := heap_alloc_new V3 _
            have hE : W2.heap.size ≤ V3.heap.size := U.size
            have U := gr_alloc U (.cells #[] 44)
            have hs4 := Nat.le_of_eq (alloc_size V3 (.cells #[] 44)).symm
            refine hK.out _ _ (cells8G T G) (fun hHeld => ?_)
            clear hK K
            ((try simp only [Act.put]); (try simp only [List.setIfInBounds_toArray]); (try simp only [List.set_cons_succ]); (try simp only [List.set_cons_zero]))
            generalize V3.alloc (.cells #[] 44) = V4 at T G Z E R U hs4 hHeld ⊢
            refine wpAnyH_ready (rs := [7]) (by kernel_rfl) (by simp) ?_
            refine AllReadyH.cons (o := _) rfl (fun K hK => ?_) AllReadyH.nil
            · obtain ⟨hzl, z0, z1, z2, z3, y0, y1, y2, y3⟩ := id Z
              have hTl := T.lt; have hGl := G.lt; have hEl := E.lt; have hRl := R.lt
              go_simp
              have hsz : V4.heap.size ≤ ((((V4.setCell ⟨V0.heap.size, 0, none⟩ (.int .i64 n0)).setCell ⟨V0.heap.size, 1, none⟩ (.int .i64 n1)).setCell ⟨V0.heap.size, 2, none⟩ (.int .i64 n2)).setCell ⟨V0.heap.size, 3, none⟩ (.int .i64 n3)).heap.size := by simp only [World.size_setCell]; exact Nat.le_refl _
              have T := T.oth4M (i := V0.heap.size) (by omega) (.int .i64 n0) (.int .i64 n1) (.int .i64 n2) (.int .i64 n3)
              have G := G.at (W' := ((((V4.setCell ⟨V0.heap.size, 0, none⟩ (.int .i64 n0)).setCell ⟨V0.heap.size, 1, none⟩ (.int .i64 n1)).setCell ⟨V0.heap.size, 2, none⟩ (.int .i64 n2)).setCell ⟨V0.heap.size, 3, none⟩ (.int .i64 n3))) (set4_heap (by omega) _ _ _ _) hsz
              have E : Emp ((((V4.setCell ⟨V0.heap.size, 0, none⟩ (.int .i64 n0)).setCell ⟨V0.heap.size, 1, none⟩ (.int .i64 n1)).setCell ⟨V0.heap.size, 2, none⟩ (.int .i64 n2)).setCell ⟨V0.heap.size, 3, none⟩ (.int .i64 n3)) _ := (set4_heap (by omega) _ _ _ _).trans E
              have R := R.atB (W' := ((((V4.setCell ⟨V0.heap.size, 0, none⟩ (.int .i64 n0)).setCell ⟨V0.heap.size, 1, none⟩ (.int .i64 n1)).setCell ⟨V0.heap.size, 2, none⟩ (.int .i64 n2)).setCell ⟨V0.heap.size, 3, none⟩ (.int .i64 n3))) (set4_heap (by omega) _ _ _ _) hsz
              have Z := Arr.store4 Z.box (x := n0) (y := n1) (z := n2) (u := n3)
              have U : Below W2.heap.size W2 ((((V4.setCell ⟨V0.heap.size, 0, none⟩ (.int .i64 n0)).setCell ⟨V0.heap.size, 1, none⟩ (.int .i64 n1)).setCell ⟨V0.heap.size, 2, none⟩ (.int .i64 n2)).setCell ⟨V0.heap.size, 3, none⟩ (.int .i64 n3)) := by (repeat' (first | with_reducible exact Below.refl _ _ | with_reducible assumption | with_reducible refine gr_alloc ?_ _ | with_reducible refine gr_drew ?_ | with_reducible refine gr_drewN ?_ _ | with_reducible refine gr_trans ?_ (by assumption) | with_reducible refine gr_set ?_ ?_ _ | (simp; done) | omega | (simp; omega)))
              refine hK.out _ _ (cells8G T G) (fun hHeld => ?_)
              clear hK K z0 z1 z2 z3 y0 y1 y2 y3
              ((try simp only [Act.put]); (try simp only [List.setIfInBounds_toArray]); (try simp only [List.set_cons_succ]); (try simp only [List.set_cons_zero]))
              generalize ((((V4.setCell ⟨V0.heap.size, 0, none⟩ (.int .i64 n0)).setCell ⟨V0.heap.size, 1, none⟩ (.int .i64 n1)).setCell ⟨V0.heap.size, 2, none⟩ (.int .i64 n2)).setCell ⟨V0.heap.size, 3, none⟩ (.int .i64 n3)) = V5 at T G Z E R U hsz hHeld ⊢
              (refine wpAnyH_take (i := 8) (oi := { dst := some 6, op := .assign (.tmp 18), type := _, pos := _, after := _, guard := _ }) (v := ?_) rfl (by kernel_rfl) (by kernel_rfl) (by kernel_rfl) (fun _ _ _ h => h) (Or.inl ⟨by rfl, ?_⟩) (by assumption) ?_; rotate_left 1; (focus (intro w hSw; (try dsimp only at hSw); go_simp; (first | done | with_reducible rfl))); ((try simp only [Act.put]); (try simp only [List.setIfInBounds_toArray]); (try simp only [List.set_cons_succ]); (try simp only [List.set_cons_zero])))
              (refine wpAnyH_take (i := 9) (oi := { dst := some 7, op := .assign (.tmp 19), type := _, pos := _, after := _, guard := _ }) (v := ?_) rfl (by kernel_rfl) (by kernel_rfl) (by kernel_rfl) (fun _ _ _ h => h) (Or.inl ⟨by rfl, ?_⟩) (by assumption) ?_; rotate_left 1; (focus (intro w hSw; (try dsimp only at hSw); go_simp; (first | done | with_reducible rfl))); ((try simp only [Act.put]); (try simp only [List.setIfInBounds_toArray]); (try simp only [List.set_cons_succ]); (try simp only [List.set_cons_zero])))
              refine wpAnyH_done (by kernel_rfl) ?_ _
              go_wp2_with fail
              go_meet
              exact ⟨_, _, _, _, rfl, rfl, rfl, Z, R, E.row (by have := HU2.out.size; omega), U⟩
          · obtain ⟨hzl, z0, z1, z2, z3, y0, y1, y2, y3⟩ := id Z
            have hTl := T.lt; have hGl := G.lt; have hRl := R.lt
            go_simp
            have hsz : V3.heap.size ≤ ((((V3.setCell ⟨V0.heap.size, 0, none⟩ (.int .i64 n0)).setCell ⟨V0.heap.size, 1, none⟩ (.int .i64 n1)).setCell ⟨V0.heap.size, 2, none⟩ (.int .i64 n2)).setCell ⟨V0.heap.size, 3, none⟩ (.int .i64 n3)).heap.size := by simp only [World.size_setCell]; exact Nat.le_refl _
            have T := T.oth4M (i := V0.heap.size) (by omega) (.int .i64 n0) (.int .i64 n1) (.int .i64 n2) (.int .i64 n3)
            have G := G.at (W' := ((((V3.setCell ⟨V0.heap.size, 0, none⟩ (.int .i64 n0)).setCell ⟨V0.heap.size, 1, none⟩ (.int .i64 n1)).setCell ⟨V0.heap.size, 2, none⟩ (.int .i64 n2)).setCell ⟨V0.heap.size, 3, none⟩ (.int .i64 n3))) (set4_heap (by omega) _ _ _ _) hsz
            have R := R.atB (W' := ((((V3.setCell ⟨V0.heap.size, 0, none⟩ (.int .i64 n0)).setCell ⟨V0.heap.size, 1, none⟩ (.int .i64 n1)).setCell ⟨V0.heap.size, 2, none⟩ (.int .i64 n2)).setCell ⟨V0.heap.size, 3, none⟩ (.int .i64 n3))) (set4_heap (by omega) _ _ _ _) hsz
            have Z := Arr.store4 Z.box (x := n0) (y := n1) (z := n2) (u := n3)
            have U : Below W2.heap.size W2 ((((V3.setCell ⟨V0.heap.size, 0, none⟩ (.int .i64 n0)).setCell ⟨V0.heap.size, 1, none⟩ (.int .i64 n1)).setCell ⟨V0.heap.size, 2, none⟩ (.int .i64 n2)).setCell ⟨V0.heap.size, 3, none⟩ (.int .i64 n3)) := by (repeat' (first | with_reducible exact Below.refl _ _ | with_reducible assumption | with_reducible refine gr_alloc ?_ _ | with_reducible refine gr_drew ?_ | with_reducible refine gr_drewN ?_ _ | with_reducible refine gr_trans ?_ (by assumption) | with_reducible refine gr_set ?_ ?_ _ | (simp; done) | omega | (simp; omega)))
            refine hK.out _ _ (cells8G T G) (fun hHeld => ?_)
            clear hK K z0 z1 z2 z3 y0 y1 y2 y3
            ((try simp only [Act.put]); (try simp only [List.setIfInBounds_toArray]); (try simp only [List.set_cons_succ]); (try simp only [List.set_cons_zero]))
            generalize ((((V3.setCell ⟨V0.heap.size, 0, none⟩ (.int .i64 n0)).setCell ⟨V0.heap.size, 1, none⟩ (.int .i64 n1)).setCell ⟨V0.heap.size, 2, none⟩ (.int .i64 n2)).setCell ⟨V0.heap.size, 3, none⟩ (.int .i64 n3)) = V4 at T G Z R U hsz hHeld ⊢
            (refine wpAnyH_take (i := 8) (oi := { dst := some 6, op := .assign (.tmp 18), type := _, pos := _, after := _, guard := _ }) (v := ?_) rfl (by kernel_rfl) (by kernel_rfl) (by kernel_rfl) (fun _ _ _ h => h) (Or.inl ⟨by rfl, ?_⟩) (by assumption) ?_; rotate_left 1; (focus (intro w hSw; (try dsimp only at hSw); go_simp; (first | done | with_reducible rfl))); ((try simp only [Act.put]); (try simp only [List.setIfInBounds_toArray]); (try simp only [List.set_cons_succ]); (try simp only [List.set_cons_zero])))
            refine wpAnyH_ready (rs := [5]) (by kernel_rfl) (by simp) ?_
            refine AllReadyH.cons (o := _) rfl (fun K hK => ?_) AllReadyH.nil
            · go_simp
              have T := T.next (gr_alloc (Below.refl _ V4) (.cells #[] 44))
              have G := G.next (gr_alloc (Below.refl _ V4) (.cells #[] 44))
              have Z := Z.next (gr_alloc (Below.refl _ V4) (.cells #[] 44))
              have R := R.next (gr_alloc (Below.refl _ V4) (.cells #[] 44)) R.lt
              have E : Emp (V4.alloc (.cells #[] 44)) V4.heap.size := heap_alloc_new V4 _
              have hE : W2.heap.size ≤ V4.heap.size := U.size
              have U := gr_alloc U (.cells #[] 44)
              have hs5 := Nat.le_of_eq (alloc_size V4 (.cells #[] 44)).symm
              refine hK.out _ _ (cells8G T G) (fun hHeld => ?_)
              clear hK K
              ((try simp only [Act.put]); (try simp only [List.setIfInBounds_toArray]); (try simp only [List.set_cons_succ]); (try simp only [List.set_cons_zero]))
              generalize V4.alloc (.cells #[] 44) = V5 at T G Z E R U hs5 hHeld ⊢
              (refine wpAnyH_take (i := 9) (oi := { dst := some 7, op := .assign (.tmp 19), type := _, pos := _, after := _, guard := _ }) (v := ?_) rfl (by kernel_rfl) (by kernel_rfl) (by kernel_rfl) (fun _ _ _ h => h) (Or.inl ⟨by rfl, ?_⟩) (by assumption) ?_; rotate_left 1; (focus (intro w hSw; (try dsimp only at hSw); go_simp; (first | done | with_reducible rfl))); ((try simp only [Act.put]); (try simp only [List.setIfInBounds_toArray]); (try simp only [List.set_cons_succ]); (try simp only [List.set_cons_zero])))
              refine wpAnyH_done (by kernel_rfl) ?_ _
              go_wp2_with fail
              go_meet
              exact ⟨_, _, _, _, rfl, rfl, rfl, Z, R, E.row (by have := HU2.out.size; omega), U⟩
        · go_simp
          have T := T.next (gr_alloc (Below.refl _ V2) (.cells #[] 44))
          have G := G.next (gr_alloc (Below.refl _ V2) (.cells #[] 44))
          have Z := Z.next (gr_alloc (Below.refl _ V2) (.cells #[] 44))
          have E : Emp (V2.alloc (.cells #[] 44)) V2.heap.size := heap_alloc_new V2 _
          have hE : W2.heap.size ≤ V2.heap.size := U.size
          have U := gr_alloc U (.cells #[] 44)
          have hs3 := Nat.le_of_eq (alloc_size V2 (.cells #[] 44)).symm
          refine hK.out _ _ (cells8G T G) (fun hHeld => ?_)
          clear hK K
          ((try simp only [Act.put]); (try simp only [List.setIfInBounds_toArray]); (try simp only [List.set_cons_succ]); (try simp only [List.set_cons_zero]))
          generalize V2.alloc (.cells #[] 44) = V3 at T G Z E U hs3 hHeld ⊢
          refine wpAnyH_ready (rs := [4]) (by kernel_rfl) (by simp) ?_
          refine AllReadyH.cons (o := _) rfl (fun K hK => ?_) AllReadyH.nil
          · go_simp
            refine (HNU.out _).mono ?_
            rintro e V4 ⟨uv, rfl, hru, hy⟩
            obtain ⟨gu, cu, hgu, R, hru2⟩ := units_at2 hru HUN.out
            subst hgu
            clear hru
            have hrl := R.lt
            have T := T.next hy
            have G := G.next hy
            have Z := Z.next hy
            have E := E.next hy
            have hs4 := hy.size
            have U := gr_trans U hy
            clear hy
            go_wp2_with fail
            refine hK.out _ _ (cells8G T G) (fun hHeld => ?_)
            clear hK K
            ((try simp only [Act.put]); (try simp only [List.setIfInBounds_toArray]); (try simp only [List.set_cons_succ]); (try simp only [List.set_cons_zero]))
            refine wpAnyH_ready (rs := [7]) (by kernel_rfl) (by simp) ?_
            refine AllReadyH.cons (o := _) rfl (fun K hK => ?_) AllReadyH.nil
            · obtain ⟨hzl, z0, z1, z2, z3, y0, y1, y2, y3⟩ := id Z
              have hTl := T.lt; have hGl := G.lt; have hEl := E.lt; have hRl := R.lt
              go_simp
              have hsz : V4.heap.size ≤ ((((V4.setCell ⟨V0.heap.size, 0, none⟩ (.int .i64 n0)).setCell ⟨V0.heap.size, 1, none⟩ (.int .i64 n1)).setCell ⟨V0.heap.size, 2, none⟩ (.int .i64 n2)).setCell ⟨V0.heap.size, 3, none⟩ (.int .i64 n3)).heap.size := by simp only [World.size_setCell]; exact Nat.le_refl _
              have T := T.oth4M (i := V0.heap.size) (by omega) (.int .i64 n0) (.int .i64 n1) (.int .i64 n2) (.int .i64 n3)
              have G := G.at (W' := ((((V4.setCell ⟨V0.heap.size, 0, none⟩ (.int .i64 n0)).setCell ⟨V0.heap.size, 1, none⟩ (.int .i64 n1)).setCell ⟨V0.heap.size, 2, none⟩ (.int .i64 n2)).setCell ⟨V0.heap.size, 3, none⟩ (.int .i64 n3))) (set4_heap (by omega) _ _ _ _) hsz
              have E : Emp ((((V4.setCell ⟨V0.heap.size, 0, none⟩ (.int .i64 n0)).setCell ⟨V0.heap.size, 1, none⟩ (.int .i64 n1)).setCell ⟨V0.heap.size, 2, none⟩ (.int .i64 n2)).setCell ⟨V0.heap.size, 3, none⟩ (.int .i64 n3)) _ := (set4_heap (by omega) _ _ _ _).trans E
              have R := R.atB (W' := ((((V4.setCell ⟨V0.heap.size, 0, none⟩ (.int .i64 n0)).setCell ⟨V0.heap.size, 1, none⟩ (.int .i64 n1)).setCell ⟨V0.heap.size, 2, none⟩ (.int .i64 n2)).setCell ⟨V0.heap.size, 3, none⟩ (.int .i64 n3))) (set4_heap (by omega) _ _ _ _) hsz
              have Z := Arr.store4 Z.box (x := n0) (y := n1) (z := n2) (u := n3)
              have U : Below W2.heap.size W2 ((((V4.setCell ⟨V0.heap.size, 0, none⟩ (.int .i64 n0)).setCell ⟨V0.heap.size, 1, none⟩ (.int .i64 n1)).setCell ⟨V0.heap.size, 2, none⟩ (.int .i64 n2)).setCell ⟨V0.heap.size, 3, none⟩ (.int .i64 n3)) := by (repeat' (first | with_reducible exact Below.refl _ _ | with_reducible assumption | with_reducible refine gr_alloc ?_ _ | with_reducible refine gr_drew ?_ | with_reducible refine gr_drewN ?_ _ | with_reducible refine gr_trans ?_ (by assumption) | with_reducible refine gr_set ?_ ?_ _ | (simp; done) | omega | (simp; omega)))
              refine hK.out _ _ (cells8G T G) (fun hHeld => ?_)
              clear hK K z0 z1 z2 z3 y0 y1 y2 y3
              ((try simp only [Act.put]); (try simp only [List.setIfInBounds_toArray]); (try simp only [List.set_cons_succ]); (try simp only [List.set_cons_zero]))
              generalize ((((V4.setCell ⟨V0.heap.size, 0, none⟩ (.int .i64 n0)).setCell ⟨V0.heap.size, 1, none⟩ (.int .i64 n1)).setCell ⟨V0.heap.size, 2, none⟩ (.int .i64 n2)).setCell ⟨V0.heap.size, 3, none⟩ (.int .i64 n3)) = V5 at T G Z E R U hsz hHeld ⊢
              (refine wpAnyH_take (i := 8) (oi := { dst := some 6, op := .assign (.tmp 18), type := _, pos := _, after := _, guard := _ }) (v := ?_) rfl (by kernel_rfl) (by kernel_rfl) (by kernel_rfl) (fun _ _ _ h => h) (Or.inl ⟨by rfl, ?_⟩) (by assumption) ?_; rotate_left 1; (focus (intro w hSw; (try dsimp only at hSw); go_simp; (first | done | with_reducible rfl))); ((try simp only [Act.put]); (try simp only [List.setIfInBounds_toArray]); (try simp only [List.set_cons_succ]); (try simp only [List.set_cons_zero])))
              (refine wpAnyH_take (i := 9) (oi := { dst := some 7, op := .assign (.tmp 19), type := _, pos := _, after := _, guard := _ }) (v := ?_) rfl (by kernel_rfl) (by kernel_rfl) (by kernel_rfl) (fun _ _ _ h => h) (Or.inl ⟨by rfl, ?_⟩) (by assumption) ?_; rotate_left 1; (focus (intro w hSw; (try dsimp only at hSw); go_simp; (first | done | with_reducible rfl))); ((try simp only [Act.put]); (try simp only [List.setIfInBounds_toArray]); (try simp only [List.set_cons_succ]); (try simp only [List.set_cons_zero])))
              refine wpAnyH_done (by kernel_rfl) ?_ _
              go_wp2_with fail
              go_meet
              exact ⟨_, _, _, _, rfl, rfl, rfl, Z, R, E.row (by have := HU2.out.size; omega), U⟩
      · go_simp
        have T := T.next (gr_alloc (Below.refl _ V1) (.cells #[] 44))
        have Z := Z.next (gr_alloc (Below.refl _ V1) (.cells #[] 44))
        have E : Emp (V1.alloc (.cells #[] 44)) V1.heap.size := heap_alloc_new V1 _
        have hE : W2.heap.size ≤ V1.heap.size := U.size
        have U := gr_alloc U (.cells #[] 44)
        have hs2 := Nat.le_of_eq (alloc_size V1 (.cells #[] 44)).symm
        refine hK.out _ _ (cells4 T) (fun hHeld => ?_)
        clear hK K
        ((try simp only [Act.put]); (try simp only [List.setIfInBounds_toArray]); (try simp only [List.set_cons_succ]); (try simp only [List.set_cons_zero]))
        generalize V1.alloc (.cells #[] 44) = V2 at T Z E U hs2 hHeld ⊢
        refine wpAnyH_ready (rs := [1]) (by kernel_rfl) (by simp) ?_
        refine AllReadyH.cons (o := _) rfl (fun K hK => ?_) AllReadyH.nil
        · go_simp
          refine (HF.out _).mono ?_
          rintro e V3 ⟨g, n, cap, xs, rfl, hgot, hlen, hrow, hy⟩
          have G := first_at hrow (HN.out xs hgot)
          obtain ⟨hn1, hn2, hn3⟩ := first_pos hrow (HN.out xs hgot)
          obtain ⟨hc1, hc2⟩ := row_cap hrow
          have hg := rowFm_ge hrow; have hgl := G.lt
          clear hgot hlen hrow
          have T := T.next hy
          have Z := Z.next hy
          have E := E.next hy
          have hs3 := hy.size
          have U := gr_trans U hy
          clear hy
          go_wp2_with fail
          refine hK.out _ _ (cells4 T) (fun hHeld => ?_)
          clear hK K
          ((try simp only [Act.put]); (try simp only [List.setIfInBounds_toArray]); (try simp only [List.set_cons_succ]); (try simp only [List.set_cons_zero]))
          refine wpAnyH_strong (S := (fun W => W.cell? ⟨j, 0, none⟩ = some (.int .i64 ta) ∧ W.cell? ⟨j, 1, none⟩ = some (.int .i64 tb) ∧ W.cell? ⟨j, 2, none⟩ = some (.int .i64 tc) ∧ W.cell? ⟨j, 3, none⟩ = some (.int .i64 td))) (S' := (fun W => W.cell? ⟨j, 0, none⟩ = some (.int .i64 ta) ∧ W.cell? ⟨j, 1, none⟩ = some (.int .i64 tb) ∧ W.cell? ⟨j, 2, none⟩ = some (.int .i64 tc) ∧ W.cell? ⟨j, 3, none⟩ = some (.int .i64 td) ∧ W.cell? ⟨g, 0, none⟩ = some (.int .i64 n0) ∧ W.cell? ⟨g, 1, none⟩ = some (.int .i64 n1) ∧ W.cell? ⟨g, 2, none⟩ = some (.int .i64 n2) ∧ W.cell? ⟨g, 3, none⟩ = some (.int .i64 n3))) (fun _ h => ⟨h.1, h.2.1, h.2.2.1, h.2.2.2.1⟩) _ _ _ _ ?_
          clear hHeld
          have hHeld := cells8G T G
          (refine wpAnyH_take (i := 2) (v := ?_) rfl (by kernel_rfl) (by kernel_rfl) (by kernel_rfl) (fun _ _ _ h => h) (Or.inl ⟨by rfl, ?_⟩) (by assumption) ?_; rotate_left 1; (focus (intro w hSw; (try dsimp only at hSw); go_simp; (first | done | with_reducible rfl))); ((try simp only [Act.put]); (try simp only [List.setIfInBounds_toArray]); (try simp only [List.set_cons_succ]); (try simp only [List.set_cons_zero]))); (refine wpAnyH_take (i := 3) (v := ?_) rfl (by kernel_rfl) (by kernel_rfl) (by kernel_rfl) (fun _ _ _ h => h) (Or.inl ⟨by rfl, ?_⟩) (by assumption) ?_; rotate_left 1; (focus (intro w hSw; (try dsimp only at hSw); go_simp; (first | done | with_reducible rfl))); ((try simp only [Act.put]); (try simp only [List.setIfInBounds_toArray]); (try simp only [List.set_cons_succ]); (try simp only [List.set_cons_zero])))
          refine wpAnyH_ready (rs := [4]) (by kernel_rfl) (by simp) ?_
          refine AllReadyH.cons (o := _) rfl (fun K hK => ?_) AllReadyH.nil
          · go_simp
            refine (HNU.out _).mono ?_
            rintro e V4 ⟨uv, rfl, hru, hy⟩
            obtain ⟨gu, cu, hgu, R, hru2⟩ := units_at2 hru HUN.out
            subst hgu
            clear hru
            have hrl := R.lt
            have T := T.next hy
            have G := G.next hy
            have Z := Z.next hy
            have E := E.next hy
            have hs4 := hy.size
            have U := gr_trans U hy
            clear hy
            go_wp2_with fail
            refine hK.out _ _ (cells8G T G) (fun hHeld => ?_)
            clear hK K
            ((try simp only [Act.put]); (try simp only [List.setIfInBounds_toArray]); (try simp only [List.set_cons_succ]); (try simp only [List.set_cons_zero]))
            refine wpAnyH_ready (rs := [7]) (by kernel_rfl) (by simp) ?_
            refine AllReadyH.cons (o := _) rfl (fun K hK => ?_) AllReadyH.nil
            · obtain ⟨hzl, z0, z1, z2, z3, y0, y1, y2, y3⟩ := id Z
              have hTl := T.lt; have hGl := G.lt; have hEl := E.lt; have hRl := R.lt
              go_simp
              have hsz : V4.heap.size ≤ ((((V4.setCell ⟨V0.heap.size, 0, none⟩ (.int .i64 n0)).setCell ⟨V0.heap.size, 1, none⟩ (.int .i64 n1)).setCell ⟨V0.heap.size, 2, none⟩ (.int .i64 n2)).setCell ⟨V0.heap.size, 3, none⟩ (.int .i64 n3)).heap.size := by simp only [World.size_setCell]; exact Nat.le_refl _
              have T := T.oth4M (i := V0.heap.size) (by omega) (.int .i64 n0) (.int .i64 n1) (.int .i64 n2) (.int .i64 n3)
              have G := G.at (W' := ((((V4.setCell ⟨V0.heap.size, 0, none⟩ (.int .i64 n0)).setCell ⟨V0.heap.size, 1, none⟩ (.int .i64 n1)).setCell ⟨V0.heap.size, 2, none⟩ (.int .i64 n2)).setCell ⟨V0.heap.size, 3, none⟩ (.int .i64 n3))) (set4_heap (by omega) _ _ _ _) hsz
              have E : Emp ((((V4.setCell ⟨V0.heap.size, 0, none⟩ (.int .i64 n0)).setCell ⟨V0.heap.size, 1, none⟩ (.int .i64 n1)).setCell ⟨V0.heap.size, 2, none⟩ (.int .i64 n2)).setCell ⟨V0.heap.size, 3, none⟩ (.int .i64 n3)) _ := (set4_heap (by omega) _ _ _ _).trans E
              have R := R.atB (W' := ((((V4.setCell ⟨V0.heap.size, 0, none⟩ (.int .i64 n0)).setCell ⟨V0.heap.size, 1, none⟩ (.int .i64 n1)).setCell ⟨V0.heap.size, 2, none⟩ (.int .i64 n2)).setCell ⟨V0.heap.size, 3, none⟩ (.int .i64 n3))) (set4_heap (by omega) _ _ _ _) hsz
              have Z := Arr.store4 Z.box (x := n0) (y := n1) (z := n2) (u := n3)
              have U : Below W2.heap.size W2 ((((V4.setCell ⟨V0.heap.size, 0, none⟩ (.int .i64 n0)).setCell ⟨V0.heap.size, 1, none⟩ (.int .i64 n1)).setCell ⟨V0.heap.size, 2, none⟩ (.int .i64 n2)).setCell ⟨V0.heap.size, 3, none⟩ (.int .i64 n3)) := by (repeat' (first | with_reducible exact Below.refl _ _ | with_reducible assumption | with_reducible refine gr_alloc ?_ _ | with_reducible refine gr_drew ?_ | with_reducible refine gr_drewN ?_ _ | with_reducible refine gr_trans ?_ (by assumption) | with_reducible refine gr_set ?_ ?_ _ | (simp; done) | omega | (simp; omega)))
              refine hK.out _ _ (cells8G T G) (fun hHeld => ?_)
              clear hK K z0 z1 z2 z3 y0 y1 y2 y3
              ((try simp only [Act.put]); (try simp only [List.setIfInBounds_toArray]); (try simp only [List.set_cons_succ]); (try simp only [List.set_cons_zero]))
              generalize ((((V4.setCell ⟨V0.heap.size, 0, none⟩ (.int .i64 n0)).setCell ⟨V0.heap.size, 1, none⟩ (.int .i64 n1)).setCell ⟨V0.heap.size, 2, none⟩ (.int .i64 n2)).setCell ⟨V0.heap.size, 3, none⟩ (.int .i64 n3)) = V5 at T G Z E R U hsz hHeld ⊢
              (refine wpAnyH_take (i := 8) (oi := { dst := some 6, op := .assign (.tmp 18), type := _, pos := _, after := _, guard := _ }) (v := ?_) rfl (by kernel_rfl) (by kernel_rfl) (by kernel_rfl) (fun _ _ _ h => h) (Or.inl ⟨by rfl, ?_⟩) (by assumption) ?_; rotate_left 1; (focus (intro w hSw; (try dsimp only at hSw); go_simp; (first | done | with_reducible rfl))); ((try simp only [Act.put]); (try simp only [List.setIfInBounds_toArray]); (try simp only [List.set_cons_succ]); (try simp only [List.set_cons_zero])))
              (refine wpAnyH_take (i := 9) (oi := { dst := some 7, op := .assign (.tmp 19), type := _, pos := _, after := _, guard := _ }) (v := ?_) rfl (by kernel_rfl) (by kernel_rfl) (by kernel_rfl) (fun _ _ _ h => h) (Or.inl ⟨by rfl, ?_⟩) (by assumption) ?_; rotate_left 1; (focus (intro w hSw; (try dsimp only at hSw); go_simp; (first | done | with_reducible rfl))); ((try simp only [Act.put]); (try simp only [List.setIfInBounds_toArray]); (try simp only [List.set_cons_succ]); (try simp only [List.set_cons_zero])))
              refine wpAnyH_done (by kernel_rfl) ?_ _
              go_wp2_with fail
              go_meet
              exact ⟨_, _, _, _, rfl, rfl, rfl, Z, R, E.row (by have := HU2.out.size; omega), U⟩
  case rest =>
    obtain ⟨j5, gu, cu, go, rfl, rfl, rfl, hN5, hRu, hRo, hB⟩ := hcut
    have HN5 := hid hN5; have HRu := hid hRu; have HRo := hid hRo; have HB := hid hB
    clear hN5 hRu hRo hB
    go_wp2_with fail
    go_loopw [7, 8] (fun s7 s8 wr => ∃ (k n gx cx : Nat) (xs : List Red.F4), s7 = .slice (some ⟨gx, 0, none⟩) n cx ∧ s8 = .int .i64 ((k : Int)) ∧ k ≤ us.length ∧ RowM w.heap.size wr (.slice (some ⟨gx, 0, none⟩) n cx) xs ∧ Hid (Rd.Asc xs ∧ xs.Perm (Rd.wys (ta, tb, tc, td) (ma, mb, mc, md) (us.take k) (n0, n1, n2, n3))) ∧ Below wc.heap.size wc wr) (fun _ s8 _ => us.length - (intOf s8).toNat)
    case atStart => exact ⟨0, 0, go, 0, [], rfl, rfl, Nat.zero_le _, HRo.out, hid ⟨List.Pairwise.nil, by simp [Rd.wys]⟩, Below.refl _ _⟩
    case round =>
      obtain ⟨k, n, gx, cx, xs, rfl, rfl, hk, hrx, hasc, hB2⟩ := hrel
      have HRX := hid hrx; have HB2 := hid hB2
      clear hrx
      by_cases hlt : k < us.length
      · obtain ⟨q, hq⟩ : ∃ q, us[k]? = some q := ⟨_, List.getElem?_eq_getElem hlt⟩
        have HWQ := HW.out k q hq
        obtain ⟨hq1, hq2⟩ := HM.out q (List.mem_of_getElem? hq)
        have HC1 := hid (HC.out q hq1 hq2)
        have hxl : xs.length ≤ 1000 := by
          have h1 := hasc.out.2.length_eq
          have h2 : (Rd.wys (ta, tb, tc, td) (ma, mb, mc, md) (us.take k) (n0, n1, n2, n3)).length ≤ (us.take k).length := by
            unfold Rd.wys; rw [List.length_map]; exact List.length_filter_le _ _
          rw [List.length_take] at h2
          have := HL.out
          omega
        have HXL := hid hxl
        have hcu := HRu.out.le
        have hcm := HRu.out.mx
        unfold maxLen at hcm
        have Q1 := (HRu.out.next hB2 HRu.out.lt).at4 k q hq
        have T1 := (HT2.out.next HB.out).next hB2
        have M1 := (HM2.out.next HB.out).next hB2
        have N1 := HN5.out.next hB2
        have HQ := hid hq
        clear hq hq1 hq2 hxl hB2
        obtain ⟨q0, q1, q2, q3⟩ := q
        dsimp only at HC1 Q1 HWQ
        generalize hch : Rd.ch (ta, tb, tc, td) (q0, q1, q2, q3) = fch at HC1 HWQ
        obtain ⟨f0, f1, f2, f3⟩ := fch
        dsimp only at HC1
        clear hch
        have e81 : decide ((k : Int) < (us.length : Int)) = true := by simp; omega
        have hk0 : (0 : Int) ≤ (k : Int) := by omega
        have hkl : (k : Int) < (us.length : Int) := by omega
        obtain ⟨_, u0, u1, u2, u3⟩ := id Q1
        obtain ⟨_, t0, t1, t2, t3, _⟩ := id T1
        obtain ⟨_, p0, p1, p2, p3, _⟩ := id N1
        go_upto_region 6 with fail
        have heq := fun W => eqForm_run f0 f1 f2 f3 n0 n1 n2 n3 W
        generalize hbq : (f0 == n0 && f1 == n1 && f2 == n2 && f3 == n3) = bq at heq
        have HBQ := hid hbq
        clear hbq
        go_region_held3 (fun W => W.cell? ⟨gu, k * 4, none⟩ = some (.int .i64 q0) ∧ W.cell? ⟨gu, k * 4 + 1, none⟩ = some (.int .i64 q1) ∧ W.cell? ⟨gu, k * 4 + 2, none⟩ = some (.int .i64 q2) ∧ W.cell? ⟨gu, k * 4 + 3, none⟩ = some (.int .i64 q3) ∧ W.cell? ⟨j, 0, none⟩ = some (.int .i64 ta) ∧ W.cell? ⟨j, 1, none⟩ = some (.int .i64 tb) ∧ W.cell? ⟨j, 2, none⟩ = some (.int .i64 tc) ∧ W.cell? ⟨j, 3, none⟩ = some (.int .i64 td) ∧ W.cell? ⟨j5, 0, none⟩ = some (.int .i64 n0) ∧ W.cell? ⟨j5, 1, none⟩ = some (.int .i64 n1) ∧ W.cell? ⟨j5, 2, none⟩ = some (.int .i64 n2) ∧ W.cell? ⟨j5, 3, none⟩ = some (.int .i64 n3)) (first | exact cells12A Q5 T5 N5 | exact cells12A Q1.drew T1.drew N1.drew) ((go_at_call 110; refine (HC1.out _).mono ?_; rintro e w5 ⟨rfl, hb5⟩; have T5 := T1.drew.next hb5; have Q5 := Q1.drew.next hb5 Q1.lt; have N5 := N1.drew.next hb5; have M5 := M1.drew.next hb5; have B5 := gr_trans (gr_drew HB2.out) hb5; have X5 := (HRX.out.next (gr_drew (Below.refl _ wr))).next hb5))
        clear u0 u1 u2 u3 t0 t1 t2 t3 p0 p1 p2 p3 T1 Q1 N1 M1 hb5 T5 N5
        cases bq with
        | false =>
          have hne : ¬ ((f0, f1, f2, f3) : Red.F4) = (n0, n1, n2, n3) := fun h => by cases h; have := HBQ.out; simp at this
          have hw1 := HWQ.out
          rw [if_neg hne, List.append_nil] at hw1
          have HW1 := hid hw1
          clear hw1 hne
          go_wp2_with fail
          go_roundw
          case rel => exact ⟨k + 1, n, gx, cx, xs, rfl, by go_num, by omega, X5, hid ⟨hasc.out.1, by rw [HW1.out]; exact hasc.out.2⟩, B5⟩
          case measure => simp [intOf]; omega
        | true =>
          have hee : ((f0, f1, f2, f3) : Red.F4) = (n0, n1, n2, n3) := by
            have := HBQ.out
            simp only [Bool.and_eq_true, beq_iff_eq] at this
            obtain ⟨⟨⟨e0, e1⟩, e2⟩, e3⟩ := this
            rw [e0, e1, e2, e3]
          have hw1 := HWQ.out
          rw [if_pos hee] at hw1
          have HW1 := hid hw1
          clear hw1 hee
          obtain ⟨_, u0, u1, u2, u3⟩ := id Q5
          obtain ⟨_, t0, t1, t2, t3, _⟩ := id M5
          have hnx : n = xs.length := X5.rda.2
          have hmul := fun W => sMp_any ma mb mc md q0 q1 q2 q3 W
          have hput := fun W (h : RdA W gx cx xs) => sPut_any gx cx xs (Rd.mm (ma, mb, mc, md) (q0, q1, q2, q3)) HXL.out W h
          rw [← hnx] at hput
          unfold PutOut vF at hput
          have hmm : Rd.mm (ma, mb, mc, md) (q0, q1, q2, q3) = (mp ma q0 mb q2, mp ma q1 mb q3, mp mc q0 md q2, mp mc q1 md q3) := rfl
          rw [hmm] at hput HW1
          dsimp only at hput
          generalize mp ma q0 mb q2 = x0 at hput hmul HW1
          generalize mp ma q1 mb q3 = x1 at hput hmul HW1
          generalize mp mc q0 md q2 = x2 at hput hmul HW1
          generalize mp mc q1 md q3 = x3 at hput hmul HW1
          have HMu := hid hmul; have HPu := hid hput; have HNX := hid hnx
          clear hmul hput hmm hnx
          have HX5 := hid X5; have HB5 := hid B5
          clear X5 B5
          go_upto_region 7 with fail
          go_region_held3 (fun W => W.cell? ⟨gu, k * 4, none⟩ = some (.int .i64 q0) ∧ W.cell? ⟨gu, k * 4 + 1, none⟩ = some (.int .i64 q1) ∧ W.cell? ⟨gu, k * 4 + 2, none⟩ = some (.int .i64 q2) ∧ W.cell? ⟨gu, k * 4 + 3, none⟩ = some (.int .i64 q3) ∧ W.cell? ⟨j + 1, 0, none⟩ = some (.int .i64 ma) ∧ W.cell? ⟨j + 1, 1, none⟩ = some (.int .i64 mb) ∧ W.cell? ⟨j + 1, 2, none⟩ = some (.int .i64 mc) ∧ W.cell? ⟨j + 1, 3, none⟩ = some (.int .i64 md)) (first | exact cells8M Q7 M7 | exact cells8M Q6 M6 | exact cells8M Q5.drew M5.drew) ((first | (go_at_call 99; refine (HMu.out _).mono ?_; rintro e w6 ⟨rfl, hb6⟩; have M6 := M5.drew.next hb6; have Q6 := Q5.drew.next hb6 Q5.lt; have X6 := (HX5.out.next (gr_drew (Below.refl _ w5))).next hb6; have B6 := gr_trans (gr_drew HB5.out) hb6) | (go_at_call 98; refine (HPu.out _ X6.rda.1).mono ?_; rintro e w7 ⟨k2, g2, nn2, cap2, rfl, hcut2, hr2, hb7⟩; have M7 := M6.next hb7; have Q7 := Q6.next hb7 Q6.lt; have B7 := gr_trans B6 hb7)))
          have R7 := hid (hr2.base (B' := w.heap.size) (by have h1 := HU2.out.size; have h2 := HB.out.size; have h3 := B6.size; omega))
          have HB7 := hid B7
          have HA7 := hid (hcut2.asc hasc.out.1)
          have HP7 : Hid ((xs.take k2 ++ (x0, x1, x2, x3) :: xs.drop k2).Perm (Rd.wys (ta, tb, tc, td) (ma, mb, mc, md) (us.take (k + 1)) (n0, n1, n2, n3))) := hid (by
            rw [HW1.out]
            refine List.perm_middle.trans ?_
            rw [List.take_append_drop]
            exact (List.Perm.cons _ hasc.out.2).trans (List.perm_append_singleton _ _).symm)
          clear u0 u1 u2 u3 t0 t1 t2 t3 Q5 M5 Q6 M6 Q7 M7 X6 B6 B7 hr2 hb6 hb7 hcut2
          go_wp2_with fail
          go_roundw
          case rel => exact ⟨k + 1, nn2, g2, cap2, _, rfl, by go_num, by omega, R7.out, hid ⟨HA7.out, HP7.out⟩, HB7.out⟩
          case measure => simp [intOf]; omega
      · have e81 : decide ((k : Int) < (us.length : Int)) = false := by simp; omega
        have hkn : k = us.length := by omega
        have HAS := hid hasc.out
        rw [hkn, List.take_of_length_le (Nat.le_refl _)] at HAS
        have HK := hid hkn
        clear hkn
        go_wp2_with fail
        go_ret
        exact ⟨gx, n, cx, xs, rfl, HAS.out.1, HAS.out.2, HRX.out, by have h1 := HU2.out; have h2 := HB.out; have h3 := HB2.out; (repeat' (first | with_reducible exact Below.refl _ _ | with_reducible assumption | with_reducible refine gr_alloc ?_ _ | with_reducible refine gr_drew ?_ | with_reducible refine gr_drewN ?_ _ | with_reducible refine gr_trans ?_ (by assumption) | with_reducible refine gr_set ?_ ?_ _ | (simp; done) | omega | (simp; omega)))⟩

end Go.Proofs.Ytikmjefbjejbkaa
