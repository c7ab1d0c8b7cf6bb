/- Chapter 1: forms changed by matrices, whatever their size. -/
import Derived.Test.YtikmjefbjejbkaaBbZ9
namespace Go.Proofs.Ytikmjefbjejbkaa
open Go.RowKit Go.Shelf
attribute [local go_sem] Oper.semAt_some

theorem Arr.kept {A B : World} {row : Option Nat} {k : Nat} {a b c d : Int} (h : Arr A k a b c d) (hg : A.grownBy B row) (hr : ∀ r, row = some r → ∃ o : Obj, A.heap[r]? = some o ∧ o.isCells = false) : Arr B k a b c d :=
  ⟨Nat.lt_of_lt_of_le h.lt hg.size, cell_kept h.c0 hg hr, cell_kept h.c1 hg hr, cell_kept h.c2 hg hr, cell_kept h.c3 hg hr,
    (frozen_kept h.c0 hg hr).trans h.f0, (frozen_kept h.c1 hg hr).trans h.f1, (frozen_kept h.c2 hg hr).trans h.f2, (frozen_kept h.c3 hg hr).trans h.f3⟩
/-- The value at a base place. -/
def bval (a b c d p q r s : Int) (x : Int × Int) : Int := vl a b c d (IntKind.i64.wrap (IntKind.i64.wrap (p * x.1) + IntKind.i64.wrap (q * x.2))) (IntKind.i64.wrap (IntKind.i64.wrap (r * x.1) + IntKind.i64.wrap (s * x.2)))
theorem bval_any (a b c d p q r s : Int) (x : Int × Int) (w : World) :
    Calls Try.prog 120 #[.agg #[.int .i64 a, .int .i64 b, .int .i64 c, .int .i64 d], .int .i64 (IntKind.i64.wrap (IntKind.i64.wrap (p * x.1) + IntKind.i64.wrap (q * x.2))), .int .i64 (IntKind.i64.wrap (IntKind.i64.wrap (r * x.1) + IntKind.i64.wrap (s * x.2)))] w fun e w' => e = .returned (.int .i64 (bval a b c d p q r s x)) ∧ Below w.heap.size w w' :=
  iFormValue_any a b c d _ _ w
theorem info_i64 : (Try.prog.info? 2).map (fun i => (i.zero, i.size, i.bytes)) = some (some (.int .i64 0), 1, 8) := by kernel_rfl

theorem row_weak {w : World} {base base' : Nat} {e : TypeId} {size : Nat} {v : Value} {n : Nat} {xs : List Value} (h : w.ownsRow base e size v n xs) (hb : base' ≤ base) : w.ownsRow base' e size v n xs := by
  refine ⟨h.1, ?_⟩
  rcases h.2 with h | ⟨g, cap, cur, h1, h2, h3⟩
  · exact .inl h
  · exact .inr ⟨g, cap, cur, h1, Nat.le_trans hb h2, h3⟩
theorem arr_append {w w1 : World} {tmp : Obj} {base k n : Nat} {e : TypeId} {v : Value} {xs : List Value} {a b c d : Int} (hr : w.ownsRow base e 1 v n xs) (hk : k < base) (hA : Arr w k a b c d) (hg : (w.alloc tmp).grownBy w1 v.ownBlock) : Arr w1 k a b c d := by
  have h := hA.alloc tmp
  have hne : some k ≠ v.ownBlock := by
    rcases hr.2 with ⟨rfl, _⟩ | ⟨g, cap, cur, rfl, h2, _⟩
    · simp [Value.ownBlock]
    · intro e'
      have : k = g := by simpa [Value.ownBlock] using e'
      omega
  have hb := hg.block k h.lt hne
  have hf : ∀ o, w1.frozen? ⟨k, o, none⟩ = (w.alloc tmp).frozen? ⟨k, o, none⟩ := fun o => World.frozen?_of_block hb
  exact ⟨Nat.lt_of_lt_of_le h.lt hg.size, hg.cell h.c0 hne, hg.cell h.c1 hne, hg.cell h.c2 hne, hg.cell h.c3 hne, (hf 0).trans h.f0, (hf 1).trans h.f1, (hf 2).trans h.f2, (hf 3).trans h.f3⟩
theorem i64w {n : Int} (h : -1000000000000000000 ≤ n ∧ n ≤ 1000000000000000000) : IntKind.i64.wrap n = n := IntWalk.i64_in n (by omega)
theorem bval_eq {a b c d p q r s : Int} {x y z u z' u' v : Int} (e1 : p * x = z) (e2 : q * y = u) (e3 : r * x = z') (e4 : s * y = u') (h1 : -1000000000 ≤ z ∧ z ≤ 1000000000) (h2 : -1000000000 ≤ u ∧ u ≤ 1000000000) (h3 : -1000000000 ≤ z' ∧ z' ≤ 1000000000) (h4 : -1000000000 ≤ u' ∧ u' ≤ 1000000000)
    (hv : vx a b c d (z + u) (z' + u') = v) (hb : -100000000000000 ≤ v ∧ v ≤ 100000000000000) : bval a b c d p q r s (x, y) = v := by
  unfold bval
  rw [e1, e2, e3, e4, i64w (n := z) (by omega), i64w (n := u) (by omega), i64w (n := z') (by omega), i64w (n := u') (by omega), i64w (n := z + u) (by omega), i64w (n := z' + u') (by omega), vl_wr, hv]
  exact wr_in (by omega)
theorem fwv_ch (a b c d p q r s A B : Int) (w : World) (ha : -A ≤ a ∧ a ≤ A) (hb : -A ≤ b ∧ b ≤ A) (hc : -A ≤ c ∧ c ≤ A) (hd : -A ≤ d ∧ d ≤ A) (hp : -B ≤ p ∧ p ≤ B) (hq : -B ≤ q ∧ q ≤ B) (hr : -B ≤ r ∧ r ≤ B) (hs : -B ≤ s ∧ s ≤ B) (hB : B ≤ 1000000) (hAB : 32 * (A * B * B * B) ≤ 100000000000000) :
    Calls Try.prog 121 #[.agg #[.int .i64 (bval a b c d p q r s (1, 0)), .int .i64 (bval a b c d p q r s (0, 1)), .int .i64 (bval a b c d p q r s (1, 1)), .int .i64 (bval a b c d p q r s (1, -1))]] w fun e w' => e = .returned (.tuple #[.agg #[.int .i64 (cA a b c d p r), .int .i64 (cB a b c d p q r s), .int .i64 (cC a b c d p q r s), .int .i64 (cA a b c d q s)], .bool true]) ∧ Below w.heap.size w w' := by
  have v1 := vx_bd2 ha hb hc hd (x := p) (y := r) (by omega) (by omega) hAB
  have v2 := vx_bd2 ha hb hc hd (x := q) (y := s) (by omega) (by omega) hAB
  have v3 := vx_bd2 ha hb hc hd (x := p + q) (y := r + s) (by omega) (by omega) hAB
  have v4 := vx_bd2 ha hb hc hd (x := p - q) (y := r - s) (by omega) (by omega) hAB
  have g1 : bval a b c d p q r s (1, 0) = vx a b c d p r := bval_eq (z := p) (u := 0) (z' := r) (u' := 0) (by omega) (by omega) (by omega) (by omega) (by omega) (by omega) (by omega) (by omega) (by simp) v1
  have g2 : bval a b c d p q r s (0, 1) = vx a b c d q s := bval_eq (z := 0) (u := q) (z' := 0) (u' := s) (by omega) (by omega) (by omega) (by omega) (by omega) (by omega) (by omega) (by omega) (by simp) v2
  have g3 : bval a b c d p q r s (1, 1) = vx a b c d (p + q) (r + s) := bval_eq (z := p) (u := q) (z' := r) (u' := s) (by omega) (by omega) (by omega) (by omega) (by omega) (by omega) (by omega) (by omega) rfl v3
  have g4 : bval a b c d p q r s (1, -1) = vx a b c d (p - q) (r - s) := bval_eq (z := p) (u := -q) (z' := r) (u' := -s) (by omega) (by omega) (by omega) (by omega) (by omega) (by omega) (by omega) (by omega) (by rw [← Int.sub_eq_add_neg, ← Int.sub_eq_add_neg]) v4
  rw [g1, g2, g3, g4]
  have hB1 := ch_b a b c d p q r s
  have hC1 := ch_c a b c d p q r s
  have hw : whole (vx a b c d p r) (vx a b c d q s) (vx a b c d (p + q) (r + s)) (vx a b c d (p - q) (r - s)) = true := by
    simp [whole, hB1, hC1]
  refine (iFwv_any _ _ _ _ w v1 v2 v3 v4).mono ?_
  rintro e w' ⟨rfl, hw'⟩
  refine ⟨?_, hw'⟩
  rw [hw]
  exact ret_fb rfl (by simp only [ifB, if_true]; omega) (by simp only [ifB, if_true]; omega) rfl rfl

theorem arrayAt4 (g cap : Nat) (W : World) : (Instr.arrayAt 22 (.slice (some ⟨g, 0, none⟩) 4 cap)).run Try.prog W = .ok (.pointer (some ⟨g, 0, none⟩)) W := by
  unfold Instr.arrayAt
  simp only [Sem.run_bind, run_underlying Try.underlying22, Result.andThen_ok]
  rfl
/-- What holds between two rounds. -/
def ChI (w : World) (a b c d p q r s : Int) (pre : List (Int × Int)) (W : World) : Prop :=
  ((∃ v, Boxed W (w.heap.size + 1 + 1 + 1) 55 v ∧ W.ownsRow (w.heap.size + 1 + 1 + 1 + 1) 2 1 v pre.length (pre.map fun x => Value.int .i64 (bval a b c d p q r s x)) ∧ (v = .slice none 0 0 ↔ pre = [])) ∧
    Arr W w.heap.size a b c d ∧ Arr W (w.heap.size + 1) p q r s ∧ Arr W (w.heap.size + 1 + 1) 0 0 0 0) ∧ Below w.heap.size w W

set_option maxRecDepth 100000 in
set_option maxHeartbeats 4000000 in
theorem iChange_any (a b c d p q r s A B : Int) (w : World) (ha : -A ≤ a ∧ a ≤ A) (hb : -A ≤ b ∧ b ≤ A) (hc : -A ≤ c ∧ c ≤ A) (hd : -A ≤ d ∧ d ≤ A) (hp : -B ≤ p ∧ p ≤ B) (hq : -B ≤ q ∧ q ≤ B) (hr : -B ≤ r ∧ r ≤ B) (hs : -B ≤ s ∧ s ≤ B) (hBm : B ≤ 1000000) (hAB : 32 * (A * B * B * B) ≤ 100000000000000) :
    Calls Try.prog 80 #[.agg #[.int .i64 a, .int .i64 b, .int .i64 c, .int .i64 d], .agg #[.int .i64 p, .int .i64 q, .int .i64 r, .int .i64 s]] w fun e w' => e = .returned (.agg #[.int .i64 (cA a b c d p r), .int .i64 (cB a b c d p q r s), .int .i64 (cC a b c d p q r s), .int .i64 (cA a b c d q s)]) ∧ Below w.heap.size w w' := by
  have HF := hid fun W => fwv_ch a b c d p q r s A B W ha hb hc hd hp hq hr hs hBm hAB
  clear ha hb hc hd hp hq hr hs hBm hAB
  refine (callsIn_wide (n := 3)).1 ?_
  obtain ⟨i0, hi, hz0, hz1, hz2⟩ := info_parts info_i64
  refine callsIn_of_wp_marks Try.func80 rfl trivial ?_ rfl
  simp only [Try.ntmps80, List.size_toArray, List.length_cons, List.length_nil, Nat.reduceAdd, Nat.reduceSub, Array.replicate_succ, Array.replicate_zero, List.push_toArray, List.append_toArray, List.nil_append, List.cons_append]
  gi_wp2
  have bV := Boxed.new (((w.alloc (.cells #[.int .i64 a, .int .i64 b, .int .i64 c, .int .i64 d] 26)).alloc (.cells #[.int .i64 p, .int .i64 q, .int .i64 r, .int .i64 s] 44)).alloc (.cells #[.int .i64 0, .int .i64 0, .int .i64 0, .int .i64 0] 26)) 55 (.slice none 0 0)
  have A0 := (((Arr.new w a b c d 26).alloc (.cells #[.int .i64 p, .int .i64 q, .int .i64 r, .int .i64 s] 44)).alloc (.cells #[.int .i64 0, .int .i64 0, .int .i64 0, .int .i64 0] 26)).alloc (.cells #[.slice none 0 0] 55)
  have M0 := ((Arr.new (w.alloc (.cells #[.int .i64 a, .int .i64 b, .int .i64 c, .int .i64 d] 26)) p q r s 44).alloc (.cells #[.int .i64 0, .int .i64 0, .int .i64 0, .int .i64 0] 26)).alloc (.cells #[.slice none 0 0] 55)
  have R0 := (Arr.new ((w.alloc (.cells #[.int .i64 a, .int .i64 b, .int .i64 c, .int .i64 d] 26)).alloc (.cells #[.int .i64 p, .int .i64 q, .int .i64 r, .int .i64 s] 44)) 0 0 0 0 26).alloc (.cells #[.slice none 0 0] 55)
  have U0 := gr_alloc (gr_alloc (gr_alloc (gr_alloc (Below.refl w.heap.size w) (.cells #[.int .i64 a, .int .i64 b, .int .i64 c, .int .i64 d] 26)) (.cells #[.int .i64 p, .int .i64 q, .int .i64 r, .int .i64 s] 44)) (.cells #[.int .i64 0, .int .i64 0, .int .i64 0, .int .i64 0] 26)) (.cells #[.slice none 0 0] 55)
  simp only [World.size_alloc] at bV M0 R0
  generalize hW0 : (((w.alloc (.cells #[.int .i64 a, .int .i64 b, .int .i64 c, .int .i64 d] 26)).alloc (.cells #[.int .i64 p, .int .i64 q, .int .i64 r, .int .i64 s] 44)).alloc (.cells #[.int .i64 0, .int .i64 0, .int .i64 0, .int .i64 0] 26)).alloc (.cells #[.slice none 0 0] 55) = W0 at bV A0 M0 R0 U0 ⊢
  have hz0' : W0.heap.size = w.heap.size + 1 + 1 + 1 + 1 := by rw [← hW0]; simp
  clear hW0
  refine wpIn_rangeFunc_ownG (n := 3) rfl (by omega) (gf := 119) (lb := #[]) rfl trivial (enters_of Try.func119 (by kernel_rfl) rfl)
    (base_stops Fence.wide 2 w.heap.size trivial rfl (by omega) _) belowK_t (belowK_b U0.size) (Below.refl _ _) (fun _ => rfl)
    (ChI w a b c d p q r s)
    (fun _ _ _ => False)
    (OwnFrom.and (Own.from (fun s' A B row hs hg hr => ⟨holdsRow_own (w.heap.size + 1 + 1 + 1 + 1) (w.heap.size + 1 + 1 + 1) 55 2 1 (fun pre => pre.length) (fun pre => pre.map fun x => Value.int .i64 (bval a b c d p q r s x)) (fun pre v => v = .slice none 0 0 ↔ pre = []) s' A B row hs.1 hg hr, hs.2.1.kept hg hr, hs.2.2.1.kept hg hr, hs.2.2.2.kept hg hr⟩) _) (ownFrom_below (Nat.le_refl _) U0.size))
    (fun _ _ _ _ _ hs _ _ => hs)
    ⟨⟨⟨_, bV, World.ownsRow_nil _ _ _ _, by simp⟩, A0, M0, R0⟩, U0⟩
    (fun x => { tmps := #[.agg #[.int .i64 a, .int .i64 b, .int .i64 c, .int .i64 d], .agg #[.int .i64 p, .int .i64 q, .int .i64 r, .int .i64 s], .pointer (some ⟨w.heap.size, 0, none⟩), .pointer (some ⟨w.heap.size + 1, 0, none⟩), .pointer (some ⟨w.heap.size + 1 + 1, 0, none⟩), .pointer (some ⟨w.heap.size + 1 + 1 + 1, 0, none⟩), .int .i64 x.1, .int .i64 x.2, undef, undef, .int .i64 x.1, .int .i64 x.2, undef, undef, undef, undef, undef, undef, undef, undef, undef, undef, undef, undef, undef, undef, undef, undef, undef, undef, undef, undef, undef, undef, undef, undef, undef, undef, undef, undef, undef, undef, undef], defers := [] }) ?assign ?body ?done ?stop
  case assign =>
    intro l x W K hK
    gi_wp2
    exact hK
  case body =>
    rintro l pre x W ⟨⟨⟨v, hv, hrow, hnil⟩, hA, hM, hR⟩, hB⟩ hlt
    refine wpIn_block ?_
    refine wpIn_region_held (fun W' => (W'.cell? ⟨w.heap.size, 0, none⟩ = some (.int .i64 a) ∧ W'.cell? ⟨w.heap.size, 1, none⟩ = some (.int .i64 b) ∧ W'.cell? ⟨w.heap.size, 2, none⟩ = some (.int .i64 c) ∧ W'.cell? ⟨w.heap.size, 3, none⟩ = some (.int .i64 d) ∧
      W'.cell? ⟨w.heap.size + 1, 0, none⟩ = some (.int .i64 p) ∧ W'.cell? ⟨w.heap.size + 1, 1, none⟩ = some (.int .i64 q) ∧ W'.cell? ⟨w.heap.size + 1, 2, none⟩ = some (.int .i64 r) ∧ W'.cell? ⟨w.heap.size + 1, 3, none⟩ = some (.int .i64 s))) (by kernel_rfl) (noDefer_all (by kernel_rfl)) (fun ⟨_, _, h⟩ => h) (cells8 hA.drew hM.drew) (fun hHeld => ?_)
    refine wpAnyH_take (i := 1) (v := ?_) rfl (by kernel_rfl) (by kernel_rfl) (by kernel_rfl) (fun _ _ _ h => h) (Or.inl ⟨by rfl, ?_⟩) (by assumption) ?_
    rotate_left 1
    · (intro w hSw; (try dsimp only at hSw); go_simp; (first | done | with_reducible rfl))
    simp only [Act.put, List.setIfInBounds_toArray]
    refine wpAnyH_take (i := 2) (v := ?_) rfl (by kernel_rfl) (by kernel_rfl) (by kernel_rfl) (fun _ _ _ h => h) (Or.inl ⟨by rfl, ?_⟩) (by assumption) ?_
    rotate_left 1
    · (intro w hSw; (try dsimp only at hSw); go_simp; (first | done | with_reducible rfl))
    simp only [Act.put]
    refine wpAnyH_take (i := 3) (v := ?_) rfl (by kernel_rfl) (by kernel_rfl) (by kernel_rfl) (fun _ _ _ h => h) (Or.inl ⟨by rfl, ?_⟩) (by assumption) ?_
    rotate_left 1
    · (intro w hSw; (try dsimp only at hSw); go_simp; (first | done | with_reducible rfl))
    simp only [Act.put]
    refine wpAnyH_take (i := 4) (v := ?_) rfl (by kernel_rfl) (by kernel_rfl) (by kernel_rfl) (fun _ _ _ h => h) (Or.inl ⟨by rfl, ?_⟩) (by assumption) ?_
    rotate_left 1
    · (intro w hSw; (try dsimp only at hSw); go_simp; (first | done | with_reducible rfl))
    simp only [Act.put]
    refine wpAnyH_take (i := 5) (v := ?_) rfl (by kernel_rfl) (by kernel_rfl) (by kernel_rfl) (fun _ _ _ h => h) (Or.inl ⟨by rfl, ?_⟩) (by assumption) ?_
    rotate_left 1
    · (intro w hSw; (try dsimp only at hSw); go_simp; (first | done | with_reducible rfl))
    simp only [Act.put]
    refine wpAnyH_take (i := 6) (v := ?_) rfl (by kernel_rfl) (by kernel_rfl) (by kernel_rfl) (fun _ _ _ h => h) (Or.inl ⟨by rfl, ?_⟩) (by assumption) ?_
    rotate_left 1
    · (intro w hSw; (try dsimp only at hSw); go_simp; (first | done | with_reducible rfl))
    simp only [Act.put]
    refine wpAnyH_take (i := 7) (v := ?_) rfl (by kernel_rfl) (by kernel_rfl) (by kernel_rfl) (fun _ _ _ h => h) (Or.inl ⟨by rfl, ?_⟩) (by assumption) ?_
    rotate_left 1
    · (intro w hSw; (try dsimp only at hSw); go_simp; (first | done | with_reducible rfl))
    simp only [Act.put]
    refine wpAnyH_take (i := 8) (v := ?_) rfl (by kernel_rfl) (by kernel_rfl) (by kernel_rfl) (fun _ _ _ h => h) (Or.inl ⟨by rfl, ?_⟩) (by assumption) ?_
    rotate_left 1
    · (intro w hSw; (try dsimp only at hSw); go_simp; (first | done | with_reducible rfl))
    simp only [Act.put]
    refine wpAnyH_take (i := 9) (v := ?_) rfl (by kernel_rfl) (by kernel_rfl) (by kernel_rfl) (fun _ _ _ h => h) (Or.inl ⟨by rfl, ?_⟩) (by assumption) ?_
    rotate_left 1
    · (intro w hSw; (try dsimp only at hSw); go_simp; (first | done | with_reducible rfl))
    simp only [Act.put]
    refine wpAnyH_take (i := 10) (v := ?_) rfl (by kernel_rfl) (by kernel_rfl) (by kernel_rfl) (fun _ _ _ h => h) (Or.inl ⟨by rfl, ?_⟩) (by assumption) ?_
    rotate_left 1
    · (intro w hSw; (try dsimp only at hSw); go_simp; (first | done | with_reducible rfl))
    simp only [Act.put]
    refine wpAnyH_take (i := 11) (v := ?_) rfl (by kernel_rfl) (by kernel_rfl) (by kernel_rfl) (fun _ _ _ h => h) (Or.inl ⟨by rfl, ?_⟩) (by assumption) ?_
    rotate_left 1
    · (intro w hSw; (try dsimp only at hSw); go_simp; (first | done | with_reducible rfl))
    simp only [Act.put]
    refine wpAnyH_take (i := 12) (v := ?_) rfl (by kernel_rfl) (by kernel_rfl) (by kernel_rfl) (fun _ _ _ h => h) (Or.inl ⟨by rfl, ?_⟩) (by assumption) ?_
    rotate_left 1
    · (intro w hSw; (try dsimp only at hSw); go_simp; (first | done | with_reducible rfl))
    simp only [Act.put]
    refine wpAnyH_take (i := 13) (v := ?_) rfl (by kernel_rfl) (by kernel_rfl) (by kernel_rfl) (fun _ _ _ h => h) (Or.inl ⟨by rfl, ?_⟩) (by assumption) ?_
    rotate_left 1
    · (intro w hSw; (try dsimp only at hSw); go_simp; (first | done | with_reducible rfl))
    simp only [Act.put]
    refine wpAnyH_take (i := 14) (v := ?_) rfl (by kernel_rfl) (by kernel_rfl) (by kernel_rfl) (fun _ _ _ h => h) (Or.inl ⟨by rfl, ?_⟩) (by assumption) ?_
    rotate_left 1
    · (intro w hSw; (try dsimp only at hSw); go_simp; (first | done | with_reducible rfl))
    simp only [Act.put]
    refine wpAnyH_take (i := 15) (v := ?_) rfl (by kernel_rfl) (by kernel_rfl) (by kernel_rfl) (fun _ _ _ h => h) (Or.inl ⟨by rfl, ?_⟩) (by assumption) ?_
    rotate_left 1
    · (intro w hSw; (try dsimp only at hSw); go_simp; (first | done | with_reducible rfl))
    simp only [Act.put]
    refine wpAnyH_take (i := 16) (v := ?_) rfl (by kernel_rfl) (by kernel_rfl) (by kernel_rfl) (fun _ _ _ h => h) (Or.inl ⟨by rfl, ?_⟩) (by assumption) ?_
    rotate_left 1
    · (intro w hSw; (try dsimp only at hSw); go_simp; (first | done | with_reducible rfl))
    simp only [Act.put]
    refine wpAnyH_take (i := 17) (v := ?_) rfl (by kernel_rfl) (by kernel_rfl) (by kernel_rfl) (fun _ _ _ h => h) (Or.inl ⟨by rfl, ?_⟩) (by assumption) ?_
    rotate_left 1
    · (intro w hSw; (try dsimp only at hSw); go_simp; (first | done | with_reducible rfl))
    simp only [Act.put]
    refine wpAnyH_take (i := 18) (v := ?_) rfl (by kernel_rfl) (by kernel_rfl) (by kernel_rfl) (fun _ _ _ h => h) (Or.inl ⟨by rfl, ?_⟩) (by assumption) ?_
    rotate_left 1
    · (intro w hSw; (try dsimp only at hSw); go_simp; (first | done | with_reducible rfl))
    simp only [Act.put]
    refine wpAnyH_take (i := 19) (v := ?_) rfl (by kernel_rfl) (by kernel_rfl) (by kernel_rfl) (fun _ _ _ h => h) (Or.inl ⟨by rfl, ?_⟩) (by assumption) ?_
    rotate_left 1
    · (intro w hSw; (try dsimp only at hSw); go_simp; (first | done | with_reducible rfl))
    simp only [Act.put]
    have hpl : pre.length < 4 := hlt
    have hvl := hv.lt
    have hvd : Boxed W.drew (w.heap.size + 1 + 1 + 1) 55 v := hv
    have hrd : W.drew.ownsRow (w.heap.size + 1 + 1 + 1 + 1) 2 1 v pre.length (pre.map fun x => Value.int .i64 (bval a b c d p q r s x)) := hrow
    have hcd := hvd.cell
    refine wpAnyH_ready (rs := [0, 20]) (by kernel_rfl) (by simp) ?_
    refine AllReadyH.cons (o := _) rfl (fun K hK => ?_) (AllReadyH.cons (o := _) rfl (fun K hK => ?_) AllReadyH.nil)
    · go_simp
      refine hK.out _ _ (cells8 hA.drew hM.drew) (fun hHeld => ?_)
      clear hK K
      refine wpAnyH_ready (rs := [20]) (by kernel_rfl) (by simp) ?_
      refine AllReadyH.cons (o := _) rfl (fun K hK => ?_) AllReadyH.nil
      go_simp
      refine (bval_any a b c d p q r s x _).mono ?_
      rintro e w1 ⟨rfl, hb1⟩
      go_wp2_with fail
      have hA1 := hA.drew.next hb1
      have hM1 := hM.drew.next hb1
      have hv1 := box_next hvd hb1
      have hc1 := hv1.cell
      have hrow1 := row_next hrd hb1
      have hz1' : w.heap.size ≤ w1.heap.size := Nat.le_trans hB.size hb1.size
      have hz1'' := hv1.lt
      refine hK.out _ _ (cells8 hA1 hM1) (fun hHeld => ?_)
      clear hK K
      refine wpAnyH_ready (rs := [21]) (by kernel_rfl) (by simp) ?_
      refine AllReadyH.cons (o := _) rfl (fun K hK => ?_) AllReadyH.nil
      go_simp
      refine hK.out _ _ (cells8 (hA1.alloc _) (hM1.alloc _)) (fun hHeld => ?_)
      clear hK K
      refine wpAnyH_ready (rs := [22]) (by kernel_rfl) (by simp) ?_
      refine AllReadyH.cons (o := _) rfl (fun K hK => ?_) AllReadyH.nil
      rw [if_pos (by rfl)]
      refine wp_append_own _ (.tmp 12) (.tmp 33) 55 rfl (w.heap.size + 1 + 1 + 1 + 1) 2 i0 (.int .i64 0) 1 8 Try.underlying55 hi hz0 hz1 hz2 rfl (by decide) v pre.length _ rfl (hrow1.alloc _) ⟨w1.heap.size, 0, none⟩ 1 1 [.int .i64 (bval a b c d p q r s x)] rfl rfl (cell_one_new _ _ _) (by simp [Value.oneCell']) (by unfold maxLen; omega) (by omega) (by simp; omega) ?_
      intro v' w2 hown' hgrow _
      obtain ⟨g', cap', rfl⟩ := ownsRow_succ hown'
      obtain ⟨hv2, hv3, _, hk3, hb3⟩ := hv1.appended (by decide) (row_weak hrow1 (base' := w.heap.size) (by omega)) hz1' (by omega) (row_weak hown' (by omega)) hgrow
      have hr3 := hown'.kept (grownBy_setCell' w2 (w.heap.size + 1 + 1 + 1) (.slice (some ⟨g', 0, none⟩) (pre.length + 1) cap')) (.inr (hv2.not_row (by decide) hown').symm)
      have hA2 := arr_append hrow1 (by omega) hA1 hgrow
      have hM2 := arr_append hrow1 (by omega) hM1 hgrow
      have hR2 := arr_append hrow1 (by omega) (hR.drew.next hb1) hgrow
      refine hK.out _ _ (cells8 hA2 hM2) (fun hHeld => ?_)
      clear hK K
      have hc2 := hv2.cell
      have hf2 := hv2.frozen
      have hA3 := hA2.oth (p := ⟨w.heap.size + 1 + 1 + 1, 0, none⟩) (by simp; omega) (.slice (some ⟨g', 0, none⟩) (pre.length + 1) cap')
      have hM3 := hM2.oth (p := ⟨w.heap.size + 1 + 1 + 1, 0, none⟩) (by simp) (.slice (some ⟨g', 0, none⟩) (pre.length + 1) cap')
      have hR3 := hR2.oth (p := ⟨w.heap.size + 1 + 1 + 1, 0, none⟩) (by simp) (.slice (some ⟨g', 0, none⟩) (pre.length + 1) cap')
      refine wpAnyH_ready (rs := [23]) (by kernel_rfl) (by simp) ?_
      refine AllReadyH.cons (o := _) rfl (fun K hK => ?_) AllReadyH.nil
      go_simp
      refine hK.out _ _ (cells8 hA3 hM3) (fun hHeld => ?_)
      clear hK K
      refine wpAnyH_done (by kernel_rfl) ?_ _
      have hBd : Below w.heap.size w W.drew := hB.drew
      exact ⟨(((KeepsOthers.drew W).trans (keeps_next hb1)).trans hk3).from _, ((Below.refl _ W).drew.trans (hb1.mono hB.size)).trans hb3,
        ⟨⟨_, hv3, by simpa using hr3, by simp⟩, hA3, hM3, hR3⟩, (hBd.trans (hb1.mono hB.size)).trans hb3⟩
    · go_simp
      refine (bval_any a b c d p q r s x _).mono ?_
      rintro e w1 ⟨rfl, hb1⟩
      go_wp2_with fail
      have hA1 := hA.drew.next hb1
      have hM1 := hM.drew.next hb1
      have hv1 := box_next hvd hb1
      have hc1 := hv1.cell
      have hrow1 := row_next hrd hb1
      have hz1' : w.heap.size ≤ w1.heap.size := Nat.le_trans hB.size hb1.size
      have hz1'' := hv1.lt
      refine hK.out _ _ (cells8 hA1 hM1) (fun hHeld => ?_)
      clear hK K
      refine wpAnyH_ready (rs := [0, 21]) (by kernel_rfl) (by simp) ?_
      refine AllReadyH.cons (o := _) rfl (fun K hK => ?_) (AllReadyH.cons (o := _) rfl (fun K hK => ?_) AllReadyH.nil)
      · go_simp
        refine hK.out _ _ (cells8 hA1 hM1) (fun hHeld => ?_)
        clear hK K
        refine wpAnyH_ready (rs := [21]) (by kernel_rfl) (by simp) ?_
        refine AllReadyH.cons (o := _) rfl (fun K hK => ?_) AllReadyH.nil
        go_simp
        refine hK.out _ _ (cells8 (hA1.alloc _) (hM1.alloc _)) (fun hHeld => ?_)
        clear hK K
        refine wpAnyH_ready (rs := [22]) (by kernel_rfl) (by simp) ?_
        refine AllReadyH.cons (o := _) rfl (fun K hK => ?_) AllReadyH.nil
        rw [if_pos (by rfl)]
        refine wp_append_own _ (.tmp 12) (.tmp 33) 55 rfl (w.heap.size + 1 + 1 + 1 + 1) 2 i0 (.int .i64 0) 1 8 Try.underlying55 hi hz0 hz1 hz2 rfl (by decide) v pre.length _ rfl (hrow1.alloc _) ⟨w1.heap.size, 0, none⟩ 1 1 [.int .i64 (bval a b c d p q r s x)] rfl rfl (cell_one_new _ _ _) (by simp [Value.oneCell']) (by unfold maxLen; omega) (by omega) (by simp; omega) ?_
        intro v' w2 hown' hgrow _
        obtain ⟨g', cap', rfl⟩ := ownsRow_succ hown'
        obtain ⟨hv2, hv3, _, hk3, hb3⟩ := hv1.appended (by decide) (row_weak hrow1 (base' := w.heap.size) (by omega)) hz1' (by omega) (row_weak hown' (by omega)) hgrow
        have hr3 := hown'.kept (grownBy_setCell' w2 (w.heap.size + 1 + 1 + 1) (.slice (some ⟨g', 0, none⟩) (pre.length + 1) cap')) (.inr (hv2.not_row (by decide) hown').symm)
        have hA2 := arr_append hrow1 (by omega) hA1 hgrow
        have hM2 := arr_append hrow1 (by omega) hM1 hgrow
        have hR2 := arr_append hrow1 (by omega) (hR.drew.next hb1) hgrow
        refine hK.out _ _ (cells8 hA2 hM2) (fun hHeld => ?_)
        clear hK K
        have hc2 := hv2.cell
        have hf2 := hv2.frozen
        have hA3 := hA2.oth (p := ⟨w.heap.size + 1 + 1 + 1, 0, none⟩) (by simp; omega) (.slice (some ⟨g', 0, none⟩) (pre.length + 1) cap')
        have hM3 := hM2.oth (p := ⟨w.heap.size + 1 + 1 + 1, 0, none⟩) (by simp) (.slice (some ⟨g', 0, none⟩) (pre.length + 1) cap')
        have hR3 := hR2.oth (p := ⟨w.heap.size + 1 + 1 + 1, 0, none⟩) (by simp) (.slice (some ⟨g', 0, none⟩) (pre.length + 1) cap')
        refine wpAnyH_ready (rs := [23]) (by kernel_rfl) (by simp) ?_
        refine AllReadyH.cons (o := _) rfl (fun K hK => ?_) AllReadyH.nil
        go_simp
        refine hK.out _ _ (cells8 hA3 hM3) (fun hHeld => ?_)
        clear hK K
        refine wpAnyH_done (by kernel_rfl) ?_ _
        have hBd : Below w.heap.size w W.drew := hB.drew
        exact ⟨(((KeepsOthers.drew W).trans (keeps_next hb1)).trans hk3).from _, ((Below.refl _ W).drew.trans (hb1.mono hB.size)).trans hb3,
          ⟨⟨_, hv3, by simpa using hr3, by simp⟩, hA3, hM3, hR3⟩, (hBd.trans (hb1.mono hB.size)).trans hb3⟩
      · go_simp
        refine hK.out _ _ (cells8 (hA1.alloc _) (hM1.alloc _)) (fun hHeld => ?_)
        clear hK K
        have hc1' := (hv1.alloc (.cells #[.int .i64 (bval a b c d p q r s x)] 2)).cell
        refine wpAnyH_ready (rs := [0]) (by kernel_rfl) (by simp) ?_
        refine AllReadyH.cons (o := _) rfl (fun K hK => ?_) AllReadyH.nil
        go_simp
        refine hK.out _ _ (cells8 (hA1.alloc _) (hM1.alloc _)) (fun hHeld => ?_)
        clear hK K
        refine wpAnyH_ready (rs := [22]) (by kernel_rfl) (by simp) ?_
        refine AllReadyH.cons (o := _) rfl (fun K hK => ?_) AllReadyH.nil
        rw [if_pos (by rfl)]
        refine wp_append_own _ (.tmp 12) (.tmp 33) 55 rfl (w.heap.size + 1 + 1 + 1 + 1) 2 i0 (.int .i64 0) 1 8 Try.underlying55 hi hz0 hz1 hz2 rfl (by decide) v pre.length _ rfl (hrow1.alloc _) ⟨w1.heap.size, 0, none⟩ 1 1 [.int .i64 (bval a b c d p q r s x)] rfl rfl (cell_one_new _ _ _) (by simp [Value.oneCell']) (by unfold maxLen; omega) (by omega) (by simp; omega) ?_
        intro v' w2 hown' hgrow _
        obtain ⟨g', cap', rfl⟩ := ownsRow_succ hown'
        obtain ⟨hv2, hv3, _, hk3, hb3⟩ := hv1.appended (by decide) (row_weak hrow1 (base' := w.heap.size) (by omega)) hz1' (by omega) (row_weak hown' (by omega)) hgrow
        have hr3 := hown'.kept (grownBy_setCell' w2 (w.heap.size + 1 + 1 + 1) (.slice (some ⟨g', 0, none⟩) (pre.length + 1) cap')) (.inr (hv2.not_row (by decide) hown').symm)
        have hA2 := arr_append hrow1 (by omega) hA1 hgrow
        have hM2 := arr_append hrow1 (by omega) hM1 hgrow
        have hR2 := arr_append hrow1 (by omega) (hR.drew.next hb1) hgrow
        refine hK.out _ _ (cells8 hA2 hM2) (fun hHeld => ?_)
        clear hK K
        have hc2 := hv2.cell
        have hf2 := hv2.frozen
        have hA3 := hA2.oth (p := ⟨w.heap.size + 1 + 1 + 1, 0, none⟩) (by simp; omega) (.slice (some ⟨g', 0, none⟩) (pre.length + 1) cap')
        have hM3 := hM2.oth (p := ⟨w.heap.size + 1 + 1 + 1, 0, none⟩) (by simp) (.slice (some ⟨g', 0, none⟩) (pre.length + 1) cap')
        have hR3 := hR2.oth (p := ⟨w.heap.size + 1 + 1 + 1, 0, none⟩) (by simp) (.slice (some ⟨g', 0, none⟩) (pre.length + 1) cap')
        refine wpAnyH_ready (rs := [23]) (by kernel_rfl) (by simp) ?_
        refine AllReadyH.cons (o := _) rfl (fun K hK => ?_) AllReadyH.nil
        go_simp
        refine hK.out _ _ (cells8 hA3 hM3) (fun hHeld => ?_)
        clear hK K
        refine wpAnyH_done (by kernel_rfl) ?_ _
        have hBd : Below w.heap.size w W.drew := hB.drew
        exact ⟨(((KeepsOthers.drew W).trans (keeps_next hb1)).trans hk3).from _, ((Below.refl _ W).drew.trans (hb1.mono hB.size)).trans hb3,
          ⟨⟨_, hv3, by simpa using hr3, by simp⟩, hA3, hM3, hR3⟩, (hBd.trans (hb1.mono hB.size)).trans hb3⟩
  case done =>
    rintro D ys W hD rfl ⟨⟨⟨v, hv, hrow, hnil⟩, hA, hM, hR⟩, hB⟩ hK
    obtain ⟨g, cap, rfl⟩ := ownsRow_succ (k := 3) hrow
    have hcs := hrow.cells (g := g) rfl
    have c0 : W.cell? ⟨g, 0, none⟩ = some (.int .i64 (bval a b c d p q r s (1, 0))) := hcs 0 _ rfl
    have c1 : W.cell? ⟨g, 1, none⟩ = some (.int .i64 (bval a b c d p q r s (0, 1))) := hcs 1 _ rfl
    have c2 : W.cell? ⟨g, 2, none⟩ = some (.int .i64 (bval a b c d p q r s (1, 1))) := hcs 2 _ rfl
    have c3 : W.cell? ⟨g, 3, none⟩ = some (.int .i64 (bval a b c d p q r s (1, -1))) := hcs 3 _ rfl
    have hcv := hv.cell
    have HK := hid hK
    have HR := hid hrow
    clear hcs hnil hK hrow
    simp only [Nat.reduceAdd] at hcv
    have har := arrayAt4 g cap W
    gi_wp2_with fail
    refine ⟨trivial, (callsIn_wide.2 (HF.out _)).mono ?_⟩
    rintro e w1 ⟨rfl, hb1⟩
    have hR1 := hR.next hb1
    have hK1 := hid ((hb1.block D (Array.getElem?_eq_some_iff.1 HK.out).1).trans HK.out)
    have hB1 := hB.trans (hb1.mono hB.size)
    have hrl := hR1.lt
    have hwl := hB1.size
    clear c0 c1 c2 c3 hcv har
    obtain ⟨_, r0, r1, r2, r3, f0, f1, f2, f3⟩ := id hR1
    gi_wp2_with fail
    have hKf : ((((((w1.setCell ⟨w.heap.size + 1 + 1, 0, none⟩ (.int .i64 (cA a b c d p r))).setCell ⟨w.heap.size + 1 + 1, 1, none⟩ (.int .i64 (cB a b c d p q r s))).setCell ⟨w.heap.size + 1 + 1, 2, none⟩ (.int .i64 (cC a b c d p q r s))).setCell ⟨w.heap.size + 1 + 1, 3, none⟩ (.int .i64 (cA a b c d q s))).alloc (.cells #[.int .i64 (cA a b c d p r), .int .i64 (cB a b c d p q r s), .int .i64 (cC a b c d p q r s), .int .i64 (cA a b c d q s)] 26))).heap[D]? = some (.deferred (some [])) :=
      (((((KeepsOthers.setCell _ _ _).trans (KeepsOthers.setCell _ _ _)).trans (KeepsOthers.setCell _ _ _)).trans (KeepsOthers.setCell _ _ _)).trans (KeepsOthers.alloc _ _)).same D _ hK1.out rfl
    have hAf := (Arr.store4 hR1.box (x := cA a b c d p r) (y := cB a b c d p q r s) (z := cC a b c d p q r s) (u := cA a b c d q s)).alloc (.cells #[.int .i64 (cA a b c d p r), .int .i64 (cB a b c d p q r s), .int .i64 (cC a b c d p q r s), .int .i64 (cA a b c d q s)] 26)
    have hBf : Below w.heap.size w ((((((w1.setCell ⟨w.heap.size + 1 + 1, 0, none⟩ (.int .i64 (cA a b c d p r))).setCell ⟨w.heap.size + 1 + 1, 1, none⟩ (.int .i64 (cB a b c d p q r s))).setCell ⟨w.heap.size + 1 + 1, 2, none⟩ (.int .i64 (cC a b c d p q r s))).setCell ⟨w.heap.size + 1 + 1, 3, none⟩ (.int .i64 (cA a b c d q s))).alloc (.cells #[.int .i64 (cA a b c d p r), .int .i64 (cB a b c d p q r s), .int .i64 (cC a b c d p q r s), .int .i64 (cA a b c d q s)] 26))) := by (repeat' (first | with_reducible exact Below.refl _ _ | with_reducible assumption | with_reducible refine gr_alloc ?_ _ | with_reducible refine gr_drew ?_ | with_reducible refine gr_drewN ?_ _ | with_reducible refine gr_trans ?_ (by assumption) | with_reducible refine gr_set ?_ ?_ _ | (simp; done) | omega | (simp; omega)))
    refine ⟨by simp, .inl ⟨_, _, rfl, run_takeDeferred hKf, ?_⟩⟩
    exact ⟨_, res_A1 (e := 2) rfl Try.underlying26 (by kernel_rfl) rfl (hAf.kept (grownBy_putObj' _ D (.deferred none)) (fun r e => by cases e; exact ⟨_, hKf, rfl⟩)), rfl, hBf.trans (belowK_b (w := w) (Nat.le_refl _) _ D _ _ (by omega) hKf rfl rfl)⟩
  case stop =>
    rintro D c pre W _ _ h _
    exact h.elim

end Go.Proofs.Ytikmjefbjejbkaa
