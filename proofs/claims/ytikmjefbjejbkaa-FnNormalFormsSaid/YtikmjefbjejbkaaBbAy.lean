/- Chapter 2: the model's l02Between. -/
import Derived.Test.YtikmjefbjejbkaaBbAw
import Derived.Test.YtikmjefbjejbkaaBbQc
namespace Go.Proofs.Ytikmjefbjejbkaa
open Go.RowKit

theorem first_atW {w : World} {B g n cap : Nat} {xs : List Red.F4} {q : Red.F4} (h : RowM B w (.slice (some ⟨g, 0, none⟩) n cap) xs) (hx : xs[0]? = some q) : First w g q.1 q.2.1 q.2.2.1 q.2.2.2 ∧ (0 : Int) < (n : Int) ∧ (0 : Int) ≤ (n : Int) ∧ 0 < n ∧ n ≤ cap ∧ cap ≤ 2 ^ 63 - 1 := by
  have hat := h.rda.1.at4 0 _ hx
  simp only [Nat.zero_mul] at hat
  obtain ⟨h0, h1, h2, h3, h4⟩ := hat
  simp only [Nat.zero_add] at h2 h3 h4
  have h5 := (List.getElem?_eq_some_iff.1 hx).1
  have h6 := h.rda.2
  have h7 := h.rda.1.le
  have h8 := h.rda.1.mx
  unfold maxLen at h8
  exact ⟨⟨h0, h1, h2, h3, h4⟩, by omega, by omega, by omega, by omega, by omega⟩
theorem cells12B {W : World} {i j g : Nat} {a b c d p q r s x y z t : Int} (A : Arr W i a b c d) (B : Arr W j p q r s) (G : First W g x y z t) :
    W.cell? ⟨i, 0, none⟩ = some (.int .i64 a) ∧ W.cell? ⟨i, 1, none⟩ = some (.int .i64 b) ∧ W.cell? ⟨i, 2, none⟩ = some (.int .i64 c) ∧ W.cell? ⟨i, 3, none⟩ = some (.int .i64 d) ∧ W.cell? ⟨j, 0, none⟩ = some (.int .i64 p) ∧ W.cell? ⟨j, 1, none⟩ = some (.int .i64 q) ∧ W.cell? ⟨j, 2, none⟩ = some (.int .i64 r) ∧ W.cell? ⟨j, 3, none⟩ = some (.int .i64 s) ∧ W.cell? ⟨g, 0, none⟩ = some (.int .i64 x) ∧ W.cell? ⟨g, 1, none⟩ = some (.int .i64 y) ∧ W.cell? ⟨g, 2, none⟩ = some (.int .i64 z) ∧ W.cell? ⟨g, 3, none⟩ = some (.int .i64 t) :=
  ⟨A.c0, A.c1, A.c2, A.c3, B.c0, B.c1, B.c2, B.c3, G.c0, G.c1, G.c2, G.c3⟩
def BtOut (a b c d p q r s : Int) (w : World) (e : Ending) (w' : World) : Prop :=
  ∃ g n cap, e = .returned (.slice (some ⟨g, 0, none⟩) n cap) ∧ RowM w.heap.size w' (.slice (some ⟨g, 0, none⟩) n cap) (mbt (a, b, c, d) (p, q, r, s)) ∧ Below w.heap.size w w'
set_option maxRecDepth 100000 in
set_option maxHeartbeats 4000000 in
theorem sBetween_any (a b c d p q r s : Int) (hf : rcd a b c d = 0) (hg : rcd p q r s = 0) (w : World) : Calls Try.prog 51 #[.agg #[.int .i64 a, .int .i64 b, .int .i64 c, .int .i64 d], .agg #[.int .i64 p, .int .i64 q, .int .i64 r, .int .i64 s]] w (BtOut a b c d p q r s w) := by
  have HN1 := hid (fun W => sNf_any a b c d hf W)
  have HN2 := hid (fun W => sNf_any p q r s hg W)
  have HT1 := hid (fun W => sWy_any a b c d hf W)
  have HT2 := hid (fun W => sWy_any p q r s hg W)
  have HHD : Hid (∀ ys, Rd.Asc ys → ys.Perm (nwy p q r s) → ∃ x0, ys[0]? = some x0 ∧ ∃ u ∈ Rd.wus (cls p q r s).1 (nfm p q r s), x0 = Rd.wrF (Rd.mz (cly p q r s) u)) := hid (fun ys h1 h2 => by
    cases ys with
    | nil => exact (nwy_ne hg (List.Perm.nil_eq h2).symm).elim
    | cons y l => exact ⟨y, rfl, way_ex hg (h2.mem_iff.1 List.mem_cons_self)⟩)
  have HIV : Hid (∀ u ∈ Rd.wus (cls p q r s).1 (nfm p q r s), ∀ W, Calls Try.prog 97 #[vF (Rd.wrF (Rd.mz (cly p q r s) u))] W fun e w' => e = .returned (vF (Rd.wrF (Rd.ivz (Rd.mz (cly p q r s) u)))) ∧ Below W.heap.size W w') := hid (fun u hu W => sInvX_any _ (Rd.dt2_mz (cly_spec hg).1 (Rd.wus_iff.1 hu).2.1) W)
  have HNL := hid (fun (e : nfm a b c d ≠ nfm p q r s) => mbt_nil hf hg e)
  have HBT0 := hid (fun (e : nfm a b c d = nfm p q r s) u0 h0 xs ha hp => btw_eq hf hg (btw_of hf hg e (u0 := u0) h0 (xs := xs) ha hp))
  have HLN := hid (nwy_len a b c d)
  unfold BtOut
  clear hf hg
  have A0 := (Arr.new w a b c d 26).alloc (.cells #[.int .i64 p, .int .i64 q, .int .i64 r, .int .i64 s] 26)
  have P0 := Arr.new (w.alloc (.cells #[.int .i64 a, .int .i64 b, .int .i64 c, .int .i64 d] 26)) p q r s 26
  have U0 := gr_alloc (gr_alloc (Below.refl w.heap.size w) (.cells #[.int .i64 a, .int .i64 b, .int .i64 c, .int .i64 d] 26)) (.cells #[.int .i64 p, .int .i64 q, .int .i64 r, .int .i64 s] 26)
  simp only [World.size_alloc] at P0
  go_enter Try.func51, Try.ntmps51
  go_upto_region 1 with fail
  generalize (w.alloc (.cells #[.int .i64 a, .int .i64 b, .int .i64 c, .int .i64 d] 26)).alloc (.cells #[.int .i64 p, .int .i64 q, .int .i64 r, .int .i64 s] 26) = W0 at A0 P0 U0 ⊢
  have A1 := A0.alloc (.cells #[] 44); have P1 := P0.alloc (.cells #[] 44); have U1 := gr_alloc U0 (.cells #[] 44)
  have E1 : Emp (W0.alloc (.cells #[] 44)) W0.heap.size := heap_alloc_new W0 _
  have hgo := U0.size
  go_upto_region 2 with fail
  generalize W0.heap.size = go at *
  generalize W0.alloc (.cells #[] 44) = W1 at A1 P1 U1 E1 ⊢
  clear A0 P0 U0
  have HTT : Hid (∀ u ∈ Rd.wus (cls p q r s).1 (nfm p q r s), nfm a b c d = nfm p q r s → ∀ xs, Rd.Asc xs → xs.Perm ((nwy a b c d).map fun v => Rd.mm v (Rd.wrF (Rd.ivz (Rd.mz (cly p q r s) u)))) → xs = mbt (a, b, c, d) (p, q, r, s)) := hid (fun u hu e xs h1 h2 => HBT0.out e u hu xs h1 h2)
  clear HBT0
  generalize nfm a b c d = N at HN1 HNL HTT
  generalize nfm p q r s = M at HN2 HNL HTT HHD HIV
  obtain ⟨n0, n1, n2, n3⟩ := N
  obtain ⟨m0, m1, m2, m3⟩ := M
  unfold vF at HN1 HN2
  dsimp only at HN1 HN2
  have heq := fun W => eqForm_run n0 n1 n2 n3 m0 m1 m2 m3 W
  have hqb : ((n0, n1, n2, n3) : Red.F4) = (m0, m1, m2, m3) ↔ (n0 == m0 && n1 == m1 && n2 == m2 && n3 == m3) = true := by
    simp only [Prod.mk.injEq, Bool.and_eq_true, beq_iff_eq, and_assoc]
  generalize (n0 == m0 && n1 == m1 && n2 == m2 && n3 == m3) = eb at heq hqb
  have HQ := hid hqb
  clear hqb
  have A2 := A1.drew; have P2 := P1.drew; have U2 := gr_drew U1
  have E2 := E1.next (gr_drew (Below.refl _ W1))
  obtain ⟨_, a0, a1, a2, a3, _⟩ := id A2
  obtain ⟨_, p0, p1, p2, p3, _⟩ := id P2
  go_region_held3 (fun W => W.cell? ⟨w.heap.size, 0, none⟩ = some (.int .i64 a) ∧ W.cell? ⟨w.heap.size, 1, none⟩ = some (.int .i64 b) ∧ W.cell? ⟨w.heap.size, 2, none⟩ = some (.int .i64 c) ∧ W.cell? ⟨w.heap.size, 3, none⟩ = some (.int .i64 d) ∧ W.cell? ⟨w.heap.size + 1, 0, none⟩ = some (.int .i64 p) ∧ W.cell? ⟨w.heap.size + 1, 1, none⟩ = some (.int .i64 q) ∧ W.cell? ⟨w.heap.size + 1, 2, none⟩ = some (.int .i64 r) ∧ W.cell? ⟨w.heap.size + 1, 3, none⟩ = some (.int .i64 s)) (first | exact cells8A A4 P4 | exact cells8A A3 P3 | exact cells8A A2 P2) ((first | (go_at_call_of 63 a; refine (HN1.out _).mono ?_; rintro e w3 ⟨rfl, hb3⟩; have A3 := A2.next hb3; have P3 := P2.next hb3; have U3 := gr_trans U2 hb3; have E3 := E2.next hb3) | (go_at_call_of 63 p; refine (HN2.out _).mono ?_; rintro e w4 ⟨rfl, hb4⟩; have A4 := A3.next hb4; have P4 := P3.next hb4; have U4 := gr_trans U3 hb4; have E4 := E3.next hb4)))
  clear a0 a1 a2 a3 p0 p1 p2 p3 A1 P1 U1 E1 A2 P2 U2 E2 A3 P3 U3 E3 hb3 hb4 heq HN1 HN2
  cases eb with
  | false =>
    go_wp2_with fail
    go_ret
    have hne := HNL.out (fun e => by have := HQ.out.1 e; cases this)
    exact ⟨go, 0, 0, rfl, by rw [hne]; exact E4.row (by omega), U4⟩
  | true =>
    have heqf := HQ.out.2 rfl
    have HBT : Hid (∀ u ∈ Rd.wus (cls p q r s).1 (m0, m1, m2, m3), ∀ xs, Rd.Asc xs → xs.Perm ((nwy a b c d).map fun v => Rd.mm v (Rd.wrF (Rd.ivz (Rd.mz (cly p q r s) u)))) → xs = mbt (a, b, c, d) (p, q, r, s)) := hid (fun u hu => HTT.out u hu heqf)
    clear HTT HNL HQ heqf
    have HA4 := hid A4; have HP4 := hid P4; have HE4 := hid E4; have HU4 := hid U4
    clear A4 P4 E4 U4
    go_upto_region 4 with fail
    obtain ⟨W2, hW2⟩ : ∃ W2, W2 = w4 := ⟨_, rfl⟩
    subst hW2
    go_cut [6, 7] (fun s6 s7 wx => ∃ j7 g1 c1 xs y0 y1 y2 y3, s6 = .slice (some ⟨g1, 0, none⟩) xs.length c1 ∧ s7 = .pointer (some ⟨j7, 0, none⟩) ∧ Arr wx j7 y0 y1 y2 y3 ∧ RdA wx g1 c1 xs ∧ Hid (Rd.Asc xs ∧ xs.Perm (nwy a b c d) ∧ ∀ zs, Rd.Asc zs → zs.Perm ((nwy a b c d).map fun v => Rd.mm v (y0, y1, y2, y3)) → zs = mbt (a, b, c, d) (p, q, r, s)) ∧ Emp wx go ∧ Below W2.heap.size W2 wx)
    case first =>
      have TA := HA4.out.drew; have TP := HP4.out.drew
      have E := HE4.out.next (gr_drew (Below.refl _ W2))
      have U := gr_drew (Below.refl W2.heap.size W2)
      have hs0 : W2.heap.size ≤ W2.drew.heap.size := Nat.le_refl _
      refine wp_region_held_drew (S := (fun W => W.cell? ⟨w.heap.size, 0, none⟩ = some (.int .i64 a) ∧ W.cell? ⟨w.heap.size, 1, none⟩ = some (.int .i64 b) ∧ W.cell? ⟨w.heap.size, 2, none⟩ = some (.int .i64 c) ∧ W.cell? ⟨w.heap.size, 3, none⟩ = some (.int .i64 d) ∧ W.cell? ⟨w.heap.size + 1, 0, none⟩ = some (.int .i64 p) ∧ W.cell? ⟨w.heap.size + 1, 1, none⟩ = some (.int .i64 q) ∧ W.cell? ⟨w.heap.size + 1, 2, none⟩ = some (.int .i64 r) ∧ W.cell? ⟨w.heap.size + 1, 3, none⟩ = some (.int .i64 s))) (by kernel_rfl) (cells8A TA TP) (fun hHeld => ?_)
      (refine wpAnyH_take (i := 0) (v := ?_) rfl (by kernel_rfl) (by kernel_rfl) (by kernel_rfl) (fun _ _ _ h => h) (Or.inl ⟨by rfl, ?_⟩) (by assumption) ?_; rotate_left 1; (focus (intro w hSw; (try dsimp only at hSw); go_simp; (first | done | with_reducible rfl))); ((try simp only [Act.put]); (try simp only [List.setIfInBounds_toArray]); (try simp only [List.set_cons_succ]); (try simp only [List.set_cons_zero])))
      (refine wpAnyH_take (i := 2) (v := ?_) rfl (by kernel_rfl) (by kernel_rfl) (by kernel_rfl) (fun _ _ _ h => h) (Or.inl ⟨by rfl, ?_⟩) (by assumption) ?_; rotate_left 1; (focus (intro w hSw; (try dsimp only at hSw); go_simp; (first | done | with_reducible rfl))); ((try simp only [Act.put]); (try simp only [List.setIfInBounds_toArray]); (try simp only [List.set_cons_succ]); (try simp only [List.set_cons_zero])))
      generalize W2.drew = V0 at TA TP E U hs0 hHeld ⊢
      have hj0 := TA.lt; have hj1 := TP.lt; have hj2 := E.lt
      refine wpAnyH_ready (rs := [1, 7]) (by kernel_rfl) (by simp) ?_
      refine AllReadyH.cons (o := _) rfl (fun K hK => ?_) (AllReadyH.cons (o := _) rfl (fun K hK => ?_) AllReadyH.nil)
      · go_simp
        refine (HT1.out _).mono ?_
        rintro e V1 ⟨g1, n1, c1, xs, rfl, hax, hpx, hrow, hy⟩
        obtain ⟨R, hn1⟩ := hrow.rda
        subst hn1
        have hg1 := rowM_ge hrow; have hrl := R.lt
        clear hrow
        have TA := TA.next hy
        have TP := TP.next hy
        have E := E.next hy
        have hs1 := hy.size
        have U := gr_trans U hy
        clear hy
        go_wp2_with fail
        refine hK.out _ _ (cells8A TA TP) (fun hHeld => ?_)
        clear hK K
        ((try simp only [Act.put]); (try simp only [List.setIfInBounds_toArray]); (try simp only [List.set_cons_succ]); (try simp only [List.set_cons_zero]))
        refine wpAnyH_ready (rs := [3, 7]) (by kernel_rfl) (by simp) ?_
        refine AllReadyH.cons (o := _) rfl (fun K hK => ?_) (AllReadyH.cons (o := _) rfl (fun K hK => ?_) AllReadyH.nil)
        · go_simp
          refine (HT2.out _).mono ?_
          rintro e V2 ⟨gg, ng, cg, ys, rfl, hay, hpy, hrow, hy⟩
          obtain ⟨x0, hx0, hHB⟩ := HHD.out ys hay hpy
          obtain ⟨u0, hu0, hqe⟩ := hHB
          have HI0 := hid (HIV.out u0 hu0)
          have hB0 := HBT.out u0 hu0
          obtain ⟨G, hn1, hn2, hn3, hn4, hn5⟩ := first_atW hrow hx0
          have hgg := rowM_ge hrow; have hggl := G.lt
          rw [hqe] at G
          clear hrow hay hpy hx0 hqe hu0
          generalize Rd.mz (cly p q r s) u0 = X at HI0 hB0 G
          obtain ⟨Y, hY⟩ : ∃ Y, Y = Rd.wrF (Rd.ivz X) := ⟨_, rfl⟩
          rw [← hY] at HI0 hB0
          clear hY
          generalize Rd.wrF X = ZZ at HI0 G
          obtain ⟨z0, z1, z2, z3⟩ := ZZ
          obtain ⟨y0, y1, y2, y3⟩ := Y
          unfold vF at HI0
          dsimp only at HI0 G
          have TA := TA.next hy
          have TP := TP.next hy
          have E := E.next hy
          have R := R.next hy R.lt
          have hs2 := hy.size
          have U := gr_trans U hy
          clear hy
          go_wp2_with fail
          refine hK.out _ _ (cells8A TA TP) (fun hHeld => ?_)
          clear hK K
          ((try simp only [Act.put]); (try simp only [List.setIfInBounds_toArray]); (try simp only [List.set_cons_succ]); (try simp only [List.set_cons_zero]))
          refine wpAnyH_strong (S := (fun W => W.cell? ⟨w.heap.size, 0, none⟩ = some (.int .i64 a) ∧ W.cell? ⟨w.heap.size, 1, none⟩ = some (.int .i64 b) ∧ W.cell? ⟨w.heap.size, 2, none⟩ = some (.int .i64 c) ∧ W.cell? ⟨w.heap.size, 3, none⟩ = some (.int .i64 d) ∧ W.cell? ⟨w.heap.size + 1, 0, none⟩ = some (.int .i64 p) ∧ W.cell? ⟨w.heap.size + 1, 1, none⟩ = some (.int .i64 q) ∧ W.cell? ⟨w.heap.size + 1, 2, none⟩ = some (.int .i64 r) ∧ W.cell? ⟨w.heap.size + 1, 3, none⟩ = some (.int .i64 s))) (S' := (fun W => W.cell? ⟨w.heap.size, 0, none⟩ = some (.int .i64 a) ∧ W.cell? ⟨w.heap.size, 1, none⟩ = some (.int .i64 b) ∧ W.cell? ⟨w.heap.size, 2, none⟩ = some (.int .i64 c) ∧ W.cell? ⟨w.heap.size, 3, none⟩ = some (.int .i64 d) ∧ W.cell? ⟨w.heap.size + 1, 0, none⟩ = some (.int .i64 p) ∧ W.cell? ⟨w.heap.size + 1, 1, none⟩ = some (.int .i64 q) ∧ W.cell? ⟨w.heap.size + 1, 2, none⟩ = some (.int .i64 r) ∧ W.cell? ⟨w.heap.size + 1, 3, none⟩ = some (.int .i64 s) ∧ W.cell? ⟨gg, 0, none⟩ = some (.int .i64 z0) ∧ W.cell? ⟨gg, 1, none⟩ = some (.int .i64 z1) ∧ W.cell? ⟨gg, 2, none⟩ = some (.int .i64 z2) ∧ W.cell? ⟨gg, 3, none⟩ = some (.int .i64 z3))) (fun _ h => ⟨h.1, h.2.1, h.2.2.1, h.2.2.2.1, h.2.2.2.2.1, h.2.2.2.2.2.1, h.2.2.2.2.2.2.1, h.2.2.2.2.2.2.2.1⟩) _ _ _ _ ?_
          clear hHeld
          have hHeld := cells12B TA TP G
          (refine wpAnyH_take (i := 4) (v := ?_) rfl (by kernel_rfl) (by kernel_rfl) (by kernel_rfl) (fun _ _ _ h => h) (Or.inl ⟨by rfl, ?_⟩) (by assumption) ?_; rotate_left 1; (focus (intro w hSw; (try dsimp only at hSw); go_simp; (first | done | with_reducible rfl))); ((try simp only [Act.put]); (try simp only [List.setIfInBounds_toArray]); (try simp only [List.set_cons_succ]); (try simp only [List.set_cons_zero]))); (refine wpAnyH_take (i := 5) (v := ?_) rfl (by kernel_rfl) (by kernel_rfl) (by kernel_rfl) (fun _ _ _ h => h) (Or.inl ⟨by rfl, ?_⟩) (by assumption) ?_; rotate_left 1; (focus (intro w hSw; (try dsimp only at hSw); go_simp; (first | done | with_reducible rfl))); ((try simp only [Act.put]); (try simp only [List.setIfInBounds_toArray]); (try simp only [List.set_cons_succ]); (try simp only [List.set_cons_zero])))
          refine wpAnyH_ready (rs := [6, 7]) (by kernel_rfl) (by simp) ?_
          refine AllReadyH.cons (o := _) rfl (fun K hK => ?_) (AllReadyH.cons (o := _) rfl (fun K hK => ?_) AllReadyH.nil)
          · go_simp
            refine (HI0.out _).mono ?_
            rintro e V3 ⟨rfl, hy⟩
            have TA := TA.next hy
            have TP := TP.next hy
            have E := E.next hy
            have R := R.next hy R.lt
            have G := G.next hy
            have hs3 := hy.size
            have U := gr_trans U hy
            clear hy
            go_wp2_with fail
            refine hK.out _ _ (cells12B TA TP G) (fun hHeld => ?_)
            clear hK K
            ((try simp only [Act.put]); (try simp only [List.setIfInBounds_toArray]); (try simp only [List.set_cons_succ]); (try simp only [List.set_cons_zero]))
            refine wpAnyH_ready (rs := [7]) (by kernel_rfl) (by simp) ?_
            refine AllReadyH.cons (o := _) rfl (fun K hK => ?_) AllReadyH.nil
            · go_simp
              have TA := TA.next (gr_alloc (Below.refl _ V3) (.cells #[.int .i64 0, .int .i64 0, .int .i64 0, .int .i64 0] 44))
              have TP := TP.next (gr_alloc (Below.refl _ V3) (.cells #[.int .i64 0, .int .i64 0, .int .i64 0, .int .i64 0] 44))
              have E := E.next (gr_alloc (Below.refl _ V3) (.cells #[.int .i64 0, .int .i64 0, .int .i64 0, .int .i64 0] 44))
              have R := R.next (gr_alloc (Below.refl _ V3) (.cells #[.int .i64 0, .int .i64 0, .int .i64 0, .int .i64 0] 44)) R.lt
              have G := G.next (gr_alloc (Below.refl _ V3) (.cells #[.int .i64 0, .int .i64 0, .int .i64 0, .int .i64 0] 44))
              have Z := Arr.new V3 0 0 0 0 44
              have U := gr_alloc U (.cells #[.int .i64 0, .int .i64 0, .int .i64 0, .int .i64 0] 44)
              have hs4 := Nat.le_of_eq (alloc_size V3 (.cells #[.int .i64 0, .int .i64 0, .int .i64 0, .int .i64 0] 44)).symm
              refine hK.out _ _ (cells12B TA TP G) (fun hHeld => ?_)
              clear hK K
              ((try simp only [Act.put]); (try simp only [List.setIfInBounds_toArray]); (try simp only [List.set_cons_succ]); (try simp only [List.set_cons_zero]))
              generalize V3.alloc (.cells #[.int .i64 0, .int .i64 0, .int .i64 0, .int .i64 0] 44) = V4 at TA TP E R G Z U hs4 hHeld ⊢
              (refine wpAnyH_take (i := 8) (oi := { dst := some 6, op := .assign (.tmp 17), type := _, pos := _, after := _, guard := _ }) (v := ?_) rfl (by kernel_rfl) (by kernel_rfl) (by kernel_rfl) (fun _ _ _ h => h) (Or.inl ⟨by rfl, ?_⟩) (by assumption) ?_; rotate_left 1; (focus (intro w hSw; (try dsimp only at hSw); go_simp; (first | done | with_reducible rfl))); ((try simp only [Act.put]); (try simp only [List.setIfInBounds_toArray]); (try simp only [List.set_cons_succ]); (try simp only [List.set_cons_zero])))
              refine wpAnyH_ready (rs := [9]) (by kernel_rfl) (by simp) ?_
              refine AllReadyH.cons (o := _) rfl (fun K hK => ?_) AllReadyH.nil
              · obtain ⟨hzl, q0, q1, q2, q3, f0, f1, f2, f3⟩ := id Z
                have hTl := TA.lt; have hPl := TP.lt; have hGl := G.lt; have hEl := E.lt; have hRl := R.lt
                go_simp
                have hsz : V4.heap.size ≤ ((((V4.setCell ⟨V3.heap.size, 0, none⟩ (.int .i64 y0)).setCell ⟨V3.heap.size, 1, none⟩ (.int .i64 y1)).setCell ⟨V3.heap.size, 2, none⟩ (.int .i64 y2)).setCell ⟨V3.heap.size, 3, none⟩ (.int .i64 y3)).heap.size := by simp only [World.size_setCell]; exact Nat.le_refl _
                have TA := TA.oth4M (i := V3.heap.size) (by omega) (.int .i64 y0) (.int .i64 y1) (.int .i64 y2) (.int .i64 y3)
                have TP := TP.oth4M (i := V3.heap.size) (by omega) (.int .i64 y0) (.int .i64 y1) (.int .i64 y2) (.int .i64 y3)
                have G := G.at (W' := ((((V4.setCell ⟨V3.heap.size, 0, none⟩ (.int .i64 y0)).setCell ⟨V3.heap.size, 1, none⟩ (.int .i64 y1)).setCell ⟨V3.heap.size, 2, none⟩ (.int .i64 y2)).setCell ⟨V3.heap.size, 3, none⟩ (.int .i64 y3))) (set4_heap (by omega) _ _ _ _) hsz
                have E : Emp ((((V4.setCell ⟨V3.heap.size, 0, none⟩ (.int .i64 y0)).setCell ⟨V3.heap.size, 1, none⟩ (.int .i64 y1)).setCell ⟨V3.heap.size, 2, none⟩ (.int .i64 y2)).setCell ⟨V3.heap.size, 3, none⟩ (.int .i64 y3)) _ := (set4_heap (by omega) _ _ _ _).trans E
                have R := R.atB (W' := ((((V4.setCell ⟨V3.heap.size, 0, none⟩ (.int .i64 y0)).setCell ⟨V3.heap.size, 1, none⟩ (.int .i64 y1)).setCell ⟨V3.heap.size, 2, none⟩ (.int .i64 y2)).setCell ⟨V3.heap.size, 3, none⟩ (.int .i64 y3))) (set4_heap (by omega) _ _ _ _) hsz
                have Z := Arr.store4 Z.box (x := y0) (y := y1) (z := y2) (u := y3)
                have U : Below W2.heap.size W2 ((((V4.setCell ⟨V3.heap.size, 0, none⟩ (.int .i64 y0)).setCell ⟨V3.heap.size, 1, none⟩ (.int .i64 y1)).setCell ⟨V3.heap.size, 2, none⟩ (.int .i64 y2)).setCell ⟨V3.heap.size, 3, none⟩ (.int .i64 y3)) := by (repeat' (first | with_reducible exact Below.refl _ _ | with_reducible assumption | with_reducible refine gr_alloc ?_ _ | with_reducible refine gr_drew ?_ | with_reducible refine gr_drewN ?_ _ | with_reducible refine gr_trans ?_ (by assumption) | with_reducible refine gr_set ?_ ?_ _ | (simp; done) | omega | (simp; omega)))
                refine hK.out _ _ (cells12B TA TP G) (fun hHeld => ?_)
                clear hK K q0 q1 q2 q3 f0 f1 f2 f3
                ((try simp only [Act.put]); (try simp only [List.setIfInBounds_toArray]); (try simp only [List.set_cons_succ]); (try simp only [List.set_cons_zero]))
                generalize ((((V4.setCell ⟨V3.heap.size, 0, none⟩ (.int .i64 y0)).setCell ⟨V3.heap.size, 1, none⟩ (.int .i64 y1)).setCell ⟨V3.heap.size, 2, none⟩ (.int .i64 y2)).setCell ⟨V3.heap.size, 3, none⟩ (.int .i64 y3)) = V5 at TA TP E R G Z U hsz hHeld ⊢
                refine wpAnyH_done (by kernel_rfl) ?_ _
                go_wp2_with fail
                go_meet
                exact ⟨_, g1, c1, xs, y0, y1, y2, y3, rfl, rfl, Z, R, hid ⟨hax, hpx, hB0⟩, E, U⟩
          · go_simp
            have TA := TA.next (gr_alloc (Below.refl _ V2) (.cells #[.int .i64 0, .int .i64 0, .int .i64 0, .int .i64 0] 44))
            have TP := TP.next (gr_alloc (Below.refl _ V2) (.cells #[.int .i64 0, .int .i64 0, .int .i64 0, .int .i64 0] 44))
            have E := E.next (gr_alloc (Below.refl _ V2) (.cells #[.int .i64 0, .int .i64 0, .int .i64 0, .int .i64 0] 44))
            have R := R.next (gr_alloc (Below.refl _ V2) (.cells #[.int .i64 0, .int .i64 0, .int .i64 0, .int .i64 0] 44)) R.lt
            have G := G.next (gr_alloc (Below.refl _ V2) (.cells #[.int .i64 0, .int .i64 0, .int .i64 0, .int .i64 0] 44))
            have Z := Arr.new V2 0 0 0 0 44
            have U := gr_alloc U (.cells #[.int .i64 0, .int .i64 0, .int .i64 0, .int .i64 0] 44)
            have hs3 := Nat.le_of_eq (alloc_size V2 (.cells #[.int .i64 0, .int .i64 0, .int .i64 0, .int .i64 0] 44)).symm
            refine hK.out _ _ (cells12B TA TP G) (fun hHeld => ?_)
            clear hK K
            ((try simp only [Act.put]); (try simp only [List.setIfInBounds_toArray]); (try simp only [List.set_cons_succ]); (try simp only [List.set_cons_zero]))
            generalize V2.alloc (.cells #[.int .i64 0, .int .i64 0, .int .i64 0, .int .i64 0] 44) = V3 at TA TP E R G Z U hs3 hHeld ⊢
            refine wpAnyH_ready (rs := [6]) (by kernel_rfl) (by simp) ?_
            refine AllReadyH.cons (o := _) rfl (fun K hK => ?_) AllReadyH.nil
            · go_simp
              refine (HI0.out _).mono ?_
              rintro e V4 ⟨rfl, hy⟩
              have TA := TA.next hy
              have TP := TP.next hy
              have E := E.next hy
              have R := R.next hy R.lt
              have G := G.next hy
              have Z := Z.next hy
              have hs4 := hy.size
              have U := gr_trans U hy
              clear hy
              go_wp2_with fail
              refine hK.out _ _ (cells12B TA TP G) (fun hHeld => ?_)
              clear hK K
              ((try simp only [Act.put]); (try simp only [List.setIfInBounds_toArray]); (try simp only [List.set_cons_succ]); (try simp only [List.set_cons_zero]))
              (refine wpAnyH_take (i := 8) (oi := { dst := some 6, op := .assign (.tmp 17), type := _, pos := _, after := _, guard := _ }) (v := ?_) rfl (by kernel_rfl) (by kernel_rfl) (by kernel_rfl) (fun _ _ _ h => h) (Or.inl ⟨by rfl, ?_⟩) (by assumption) ?_; rotate_left 1; (focus (intro w hSw; (try dsimp only at hSw); go_simp; (first | done | with_reducible rfl))); ((try simp only [Act.put]); (try simp only [List.setIfInBounds_toArray]); (try simp only [List.set_cons_succ]); (try simp only [List.set_cons_zero])))
              refine wpAnyH_ready (rs := [9]) (by kernel_rfl) (by simp) ?_
              refine AllReadyH.cons (o := _) rfl (fun K hK => ?_) AllReadyH.nil
              · obtain ⟨hzl, q0, q1, q2, q3, f0, f1, f2, f3⟩ := id Z
                have hTl := TA.lt; have hPl := TP.lt; have hGl := G.lt; have hEl := E.lt; have hRl := R.lt
                go_simp
                have hsz : V4.heap.size ≤ ((((V4.setCell ⟨V2.heap.size, 0, none⟩ (.int .i64 y0)).setCell ⟨V2.heap.size, 1, none⟩ (.int .i64 y1)).setCell ⟨V2.heap.size, 2, none⟩ (.int .i64 y2)).setCell ⟨V2.heap.size, 3, none⟩ (.int .i64 y3)).heap.size := by simp only [World.size_setCell]; exact Nat.le_refl _
                have TA := TA.oth4M (i := V2.heap.size) (by omega) (.int .i64 y0) (.int .i64 y1) (.int .i64 y2) (.int .i64 y3)
                have TP := TP.oth4M (i := V2.heap.size) (by omega) (.int .i64 y0) (.int .i64 y1) (.int .i64 y2) (.int .i64 y3)
                have G := G.at (W' := ((((V4.setCell ⟨V2.heap.size, 0, none⟩ (.int .i64 y0)).setCell ⟨V2.heap.size, 1, none⟩ (.int .i64 y1)).setCell ⟨V2.heap.size, 2, none⟩ (.int .i64 y2)).setCell ⟨V2.heap.size, 3, none⟩ (.int .i64 y3))) (set4_heap (by omega) _ _ _ _) hsz
                have E : Emp ((((V4.setCell ⟨V2.heap.size, 0, none⟩ (.int .i64 y0)).setCell ⟨V2.heap.size, 1, none⟩ (.int .i64 y1)).setCell ⟨V2.heap.size, 2, none⟩ (.int .i64 y2)).setCell ⟨V2.heap.size, 3, none⟩ (.int .i64 y3)) _ := (set4_heap (by omega) _ _ _ _).trans E
                have R := R.atB (W' := ((((V4.setCell ⟨V2.heap.size, 0, none⟩ (.int .i64 y0)).setCell ⟨V2.heap.size, 1, none⟩ (.int .i64 y1)).setCell ⟨V2.heap.size, 2, none⟩ (.int .i64 y2)).setCell ⟨V2.heap.size, 3, none⟩ (.int .i64 y3))) (set4_heap (by omega) _ _ _ _) hsz
                have Z := Arr.store4 Z.box (x := y0) (y := y1) (z := y2) (u := y3)
                have U : Below W2.heap.size W2 ((((V4.setCell ⟨V2.heap.size, 0, none⟩ (.int .i64 y0)).setCell ⟨V2.heap.size, 1, none⟩ (.int .i64 y1)).setCell ⟨V2.heap.size, 2, none⟩ (.int .i64 y2)).setCell ⟨V2.heap.size, 3, none⟩ (.int .i64 y3)) := by (repeat' (first | with_reducible exact Below.refl _ _ | with_reducible assumption | with_reducible refine gr_alloc ?_ _ | with_reducible refine gr_drew ?_ | with_reducible refine gr_drewN ?_ _ | with_reducible refine gr_trans ?_ (by assumption) | with_reducible refine gr_set ?_ ?_ _ | (simp; done) | omega | (simp; omega)))
                refine hK.out _ _ (cells12B TA TP G) (fun hHeld => ?_)
                clear hK K q0 q1 q2 q3 f0 f1 f2 f3
                ((try simp only [Act.put]); (try simp only [List.setIfInBounds_toArray]); (try simp only [List.set_cons_succ]); (try simp only [List.set_cons_zero]))
                generalize ((((V4.setCell ⟨V2.heap.size, 0, none⟩ (.int .i64 y0)).setCell ⟨V2.heap.size, 1, none⟩ (.int .i64 y1)).setCell ⟨V2.heap.size, 2, none⟩ (.int .i64 y2)).setCell ⟨V2.heap.size, 3, none⟩ (.int .i64 y3)) = V5 at TA TP E R G Z U hsz hHeld ⊢
                refine wpAnyH_done (by kernel_rfl) ?_ _
                go_wp2_with fail
                go_meet
                exact ⟨_, g1, c1, xs, y0, y1, y2, y3, rfl, rfl, Z, R, hid ⟨hax, hpx, hB0⟩, E, U⟩
        · go_simp
          have TA := TA.next (gr_alloc (Below.refl _ V1) (.cells #[.int .i64 0, .int .i64 0, .int .i64 0, .int .i64 0] 44))
          have TP := TP.next (gr_alloc (Below.refl _ V1) (.cells #[.int .i64 0, .int .i64 0, .int .i64 0, .int .i64 0] 44))
          have E := E.next (gr_alloc (Below.refl _ V1) (.cells #[.int .i64 0, .int .i64 0, .int .i64 0, .int .i64 0] 44))
          have R := R.next (gr_alloc (Below.refl _ V1) (.cells #[.int .i64 0, .int .i64 0, .int .i64 0, .int .i64 0] 44)) R.lt
          have Z := Arr.new V1 0 0 0 0 44
          have U := gr_alloc U (.cells #[.int .i64 0, .int .i64 0, .int .i64 0, .int .i64 0] 44)
          have hs2 := Nat.le_of_eq (alloc_size V1 (.cells #[.int .i64 0, .int .i64 0, .int .i64 0, .int .i64 0] 44)).symm
          refine hK.out _ _ (cells8A TA TP) (fun hHeld => ?_)
          clear hK K
          ((try simp only [Act.put]); (try simp only [List.setIfInBounds_toArray]); (try simp only [List.set_cons_succ]); (try simp only [List.set_cons_zero]))
          generalize V1.alloc (.cells #[.int .i64 0, .int .i64 0, .int .i64 0, .int .i64 0] 44) = V2 at TA TP E R Z U hs2 hHeld ⊢
          refine wpAnyH_ready (rs := [3]) (by kernel_rfl) (by simp) ?_
          refine AllReadyH.cons (o := _) rfl (fun K hK => ?_) AllReadyH.nil
          · go_simp
            refine (HT2.out _).mono ?_
            rintro e V3 ⟨gg, ng, cg, ys, rfl, hay, hpy, hrow, hy⟩
            obtain ⟨x0, hx0, hHB⟩ := HHD.out ys hay hpy
            obtain ⟨u0, hu0, hqe⟩ := hHB
            have HI0 := hid (HIV.out u0 hu0)
            have hB0 := HBT.out u0 hu0
            obtain ⟨G, hn1, hn2, hn3, hn4, hn5⟩ := first_atW hrow hx0
            have hgg := rowM_ge hrow; have hggl := G.lt
            rw [hqe] at G
            clear hrow hay hpy hx0 hqe hu0
            generalize Rd.mz (cly p q r s) u0 = X at HI0 hB0 G
            obtain ⟨Y, hY⟩ : ∃ Y, Y = Rd.wrF (Rd.ivz X) := ⟨_, rfl⟩
            rw [← hY] at HI0 hB0
            clear hY
            generalize Rd.wrF X = ZZ at HI0 G
            obtain ⟨z0, z1, z2, z3⟩ := ZZ
            obtain ⟨y0, y1, y2, y3⟩ := Y
            unfold vF at HI0
            dsimp only at HI0 G
            have TA := TA.next hy
            have TP := TP.next hy
            have E := E.next hy
            have R := R.next hy R.lt
            have Z := Z.next hy
            have hs3 := hy.size
            have U := gr_trans U hy
            clear hy
            go_wp2_with fail
            refine hK.out _ _ (cells8A TA TP) (fun hHeld => ?_)
            clear hK K
            ((try simp only [Act.put]); (try simp only [List.setIfInBounds_toArray]); (try simp only [List.set_cons_succ]); (try simp only [List.set_cons_zero]))
            refine wpAnyH_strong (S := (fun W => W.cell? ⟨w.heap.size, 0, none⟩ = some (.int .i64 a) ∧ W.cell? ⟨w.heap.size, 1, none⟩ = some (.int .i64 b) ∧ W.cell? ⟨w.heap.size, 2, none⟩ = some (.int .i64 c) ∧ W.cell? ⟨w.heap.size, 3, none⟩ = some (.int .i64 d) ∧ W.cell? ⟨w.heap.size + 1, 0, none⟩ = some (.int .i64 p) ∧ W.cell? ⟨w.heap.size + 1, 1, none⟩ = some (.int .i64 q) ∧ W.cell? ⟨w.heap.size + 1, 2, none⟩ = some (.int .i64 r) ∧ W.cell? ⟨w.heap.size + 1, 3, none⟩ = some (.int .i64 s))) (S' := (fun W => W.cell? ⟨w.heap.size, 0, none⟩ = some (.int .i64 a) ∧ W.cell? ⟨w.heap.size, 1, none⟩ = some (.int .i64 b) ∧ W.cell? ⟨w.heap.size, 2, none⟩ = some (.int .i64 c) ∧ W.cell? ⟨w.heap.size, 3, none⟩ = some (.int .i64 d) ∧ W.cell? ⟨w.heap.size + 1, 0, none⟩ = some (.int .i64 p) ∧ W.cell? ⟨w.heap.size + 1, 1, none⟩ = some (.int .i64 q) ∧ W.cell? ⟨w.heap.size + 1, 2, none⟩ = some (.int .i64 r) ∧ W.cell? ⟨w.heap.size + 1, 3, none⟩ = some (.int .i64 s) ∧ W.cell? ⟨gg, 0, none⟩ = some (.int .i64 z0) ∧ W.cell? ⟨gg, 1, none⟩ = some (.int .i64 z1) ∧ W.cell? ⟨gg, 2, none⟩ = some (.int .i64 z2) ∧ W.cell? ⟨gg, 3, none⟩ = some (.int .i64 z3))) (fun _ h => ⟨h.1, h.2.1, h.2.2.1, h.2.2.2.1, h.2.2.2.2.1, h.2.2.2.2.2.1, h.2.2.2.2.2.2.1, h.2.2.2.2.2.2.2.1⟩) _ _ _ _ ?_
            clear hHeld
            have hHeld := cells12B TA TP G
            (refine wpAnyH_take (i := 4) (v := ?_) rfl (by kernel_rfl) (by kernel_rfl) (by kernel_rfl) (fun _ _ _ h => h) (Or.inl ⟨by rfl, ?_⟩) (by assumption) ?_; rotate_left 1; (focus (intro w hSw; (try dsimp only at hSw); go_simp; (first | done | with_reducible rfl))); ((try simp only [Act.put]); (try simp only [List.setIfInBounds_toArray]); (try simp only [List.set_cons_succ]); (try simp only [List.set_cons_zero]))); (refine wpAnyH_take (i := 5) (v := ?_) rfl (by kernel_rfl) (by kernel_rfl) (by kernel_rfl) (fun _ _ _ h => h) (Or.inl ⟨by rfl, ?_⟩) (by assumption) ?_; rotate_left 1; (focus (intro w hSw; (try dsimp only at hSw); go_simp; (first | done | with_reducible rfl))); ((try simp only [Act.put]); (try simp only [List.setIfInBounds_toArray]); (try simp only [List.set_cons_succ]); (try simp only [List.set_cons_zero])))
            refine wpAnyH_ready (rs := [6]) (by kernel_rfl) (by simp) ?_
            refine AllReadyH.cons (o := _) rfl (fun K hK => ?_) AllReadyH.nil
            · go_simp
              refine (HI0.out _).mono ?_
              rintro e V4 ⟨rfl, hy⟩
              have TA := TA.next hy
              have TP := TP.next hy
              have E := E.next hy
              have R := R.next hy R.lt
              have G := G.next hy
              have Z := Z.next hy
              have hs4 := hy.size
              have U := gr_trans U hy
              clear hy
              go_wp2_with fail
              refine hK.out _ _ (cells12B TA TP G) (fun hHeld => ?_)
              clear hK K
              ((try simp only [Act.put]); (try simp only [List.setIfInBounds_toArray]); (try simp only [List.set_cons_succ]); (try simp only [List.set_cons_zero]))
              (refine wpAnyH_take (i := 8) (oi := { dst := some 6, op := .assign (.tmp 17), type := _, pos := _, after := _, guard := _ }) (v := ?_) rfl (by kernel_rfl) (by kernel_rfl) (by kernel_rfl) (fun _ _ _ h => h) (Or.inl ⟨by rfl, ?_⟩) (by assumption) ?_; rotate_left 1; (focus (intro w hSw; (try dsimp only at hSw); go_simp; (first | done | with_reducible rfl))); ((try simp only [Act.put]); (try simp only [List.setIfInBounds_toArray]); (try simp only [List.set_cons_succ]); (try simp only [List.set_cons_zero])))
              refine wpAnyH_ready (rs := [9]) (by kernel_rfl) (by simp) ?_
              refine AllReadyH.cons (o := _) rfl (fun K hK => ?_) AllReadyH.nil
              · obtain ⟨hzl, q0, q1, q2, q3, f0, f1, f2, f3⟩ := id Z
                have hTl := TA.lt; have hPl := TP.lt; have hGl := G.lt; have hEl := E.lt; have hRl := R.lt
                go_simp
                have hsz : V4.heap.size ≤ ((((V4.setCell ⟨V1.heap.size, 0, none⟩ (.int .i64 y0)).setCell ⟨V1.heap.size, 1, none⟩ (.int .i64 y1)).setCell ⟨V1.heap.size, 2, none⟩ (.int .i64 y2)).setCell ⟨V1.heap.size, 3, none⟩ (.int .i64 y3)).heap.size := by simp only [World.size_setCell]; exact Nat.le_refl _
                have TA := TA.oth4M (i := V1.heap.size) (by omega) (.int .i64 y0) (.int .i64 y1) (.int .i64 y2) (.int .i64 y3)
                have TP := TP.oth4M (i := V1.heap.size) (by omega) (.int .i64 y0) (.int .i64 y1) (.int .i64 y2) (.int .i64 y3)
                have G := G.at (W' := ((((V4.setCell ⟨V1.heap.size, 0, none⟩ (.int .i64 y0)).setCell ⟨V1.heap.size, 1, none⟩ (.int .i64 y1)).setCell ⟨V1.heap.size, 2, none⟩ (.int .i64 y2)).setCell ⟨V1.heap.size, 3, none⟩ (.int .i64 y3))) (set4_heap (by omega) _ _ _ _) hsz
                have E : Emp ((((V4.setCell ⟨V1.heap.size, 0, none⟩ (.int .i64 y0)).setCell ⟨V1.heap.size, 1, none⟩ (.int .i64 y1)).setCell ⟨V1.heap.size, 2, none⟩ (.int .i64 y2)).setCell ⟨V1.heap.size, 3, none⟩ (.int .i64 y3)) _ := (set4_heap (by omega) _ _ _ _).trans E
                have R := R.atB (W' := ((((V4.setCell ⟨V1.heap.size, 0, none⟩ (.int .i64 y0)).setCell ⟨V1.heap.size, 1, none⟩ (.int .i64 y1)).setCell ⟨V1.heap.size, 2, none⟩ (.int .i64 y2)).setCell ⟨V1.heap.size, 3, none⟩ (.int .i64 y3))) (set4_heap (by omega) _ _ _ _) hsz
                have Z := Arr.store4 Z.box (x := y0) (y := y1) (z := y2) (u := y3)
                have U : Below W2.heap.size W2 ((((V4.setCell ⟨V1.heap.size, 0, none⟩ (.int .i64 y0)).setCell ⟨V1.heap.size, 1, none⟩ (.int .i64 y1)).setCell ⟨V1.heap.size, 2, none⟩ (.int .i64 y2)).setCell ⟨V1.heap.size, 3, none⟩ (.int .i64 y3)) := by (repeat' (first | with_reducible exact Below.refl _ _ | with_reducible assumption | with_reducible refine gr_alloc ?_ _ | with_reducible refine gr_drew ?_ | with_reducible refine gr_drewN ?_ _ | with_reducible refine gr_trans ?_ (by assumption) | with_reducible refine gr_set ?_ ?_ _ | (simp; done) | omega | (simp; omega)))
                refine hK.out _ _ (cells12B TA TP G) (fun hHeld => ?_)
                clear hK K q0 q1 q2 q3 f0 f1 f2 f3
                ((try simp only [Act.put]); (try simp only [List.setIfInBounds_toArray]); (try simp only [List.set_cons_succ]); (try simp only [List.set_cons_zero]))
                generalize ((((V4.setCell ⟨V1.heap.size, 0, none⟩ (.int .i64 y0)).setCell ⟨V1.heap.size, 1, none⟩ (.int .i64 y1)).setCell ⟨V1.heap.size, 2, none⟩ (.int .i64 y2)).setCell ⟨V1.heap.size, 3, none⟩ (.int .i64 y3)) = V5 at TA TP E R G Z U hsz hHeld ⊢
                refine wpAnyH_done (by kernel_rfl) ?_ _
                go_wp2_with fail
                go_meet
                exact ⟨_, g1, c1, xs, y0, y1, y2, y3, rfl, rfl, Z, R, hid ⟨hax, hpx, hB0⟩, E, U⟩
      · go_simp
        have TA := TA.next (gr_alloc (Below.refl _ V0) (.cells #[.int .i64 0, .int .i64 0, .int .i64 0, .int .i64 0] 44))
        have TP := TP.next (gr_alloc (Below.refl _ V0) (.cells #[.int .i64 0, .int .i64 0, .int .i64 0, .int .i64 0] 44))
        have E := E.next (gr_alloc (Below.refl _ V0) (.cells #[.int .i64 0, .int .i64 0, .int .i64 0, .int .i64 0] 44))
        have Z := Arr.new V0 0 0 0 0 44
        have U := gr_alloc U (.cells #[.int .i64 0, .int .i64 0, .int .i64 0, .int .i64 0] 44)
        have hs1 := Nat.le_of_eq (alloc_size V0 (.cells #[.int .i64 0, .int .i64 0, .int .i64 0, .int .i64 0] 44)).symm
        refine hK.out _ _ (cells8A TA TP) (fun hHeld => ?_)
        clear hK K
        ((try simp only [Act.put]); (try simp only [List.setIfInBounds_toArray]); (try simp only [List.set_cons_succ]); (try simp only [List.set_cons_zero]))
        generalize V0.alloc (.cells #[.int .i64 0, .int .i64 0, .int .i64 0, .int .i64 0] 44) = V1 at TA TP E Z U hs1 hHeld ⊢
        refine wpAnyH_ready (rs := [1]) (by kernel_rfl) (by simp) ?_
        refine AllReadyH.cons (o := _) rfl (fun K hK => ?_) AllReadyH.nil
        · go_simp
          refine (HT1.out _).mono ?_
          rintro e V2 ⟨g1, n1, c1, xs, rfl, hax, hpx, hrow, hy⟩
          obtain ⟨R, hn1⟩ := hrow.rda
          subst hn1
          have hg1 := rowM_ge hrow; have hrl := R.lt
          clear hrow
          have TA := TA.next hy
          have TP := TP.next hy
          have E := E.next hy
          have Z := Z.next hy
          have hs2 := hy.size
          have U := gr_trans U hy
          clear hy
          go_wp2_with fail
          refine hK.out _ _ (cells8A TA TP) (fun hHeld => ?_)
          clear hK K
          ((try simp only [Act.put]); (try simp only [List.setIfInBounds_toArray]); (try simp only [List.set_cons_succ]); (try simp only [List.set_cons_zero]))
          refine wpAnyH_ready (rs := [3]) (by kernel_rfl) (by simp) ?_
          refine AllReadyH.cons (o := _) rfl (fun K hK => ?_) AllReadyH.nil
          · go_simp
            refine (HT2.out _).mono ?_
            rintro e V3 ⟨gg, ng, cg, ys, rfl, hay, hpy, hrow, hy⟩
            obtain ⟨x0, hx0, hHB⟩ := HHD.out ys hay hpy
            obtain ⟨u0, hu0, hqe⟩ := hHB
            have HI0 := hid (HIV.out u0 hu0)
            have hB0 := HBT.out u0 hu0
            obtain ⟨G, hn1, hn2, hn3, hn4, hn5⟩ := first_atW hrow hx0
            have hgg := rowM_ge hrow; have hggl := G.lt
            rw [hqe] at G
            clear hrow hay hpy hx0 hqe hu0
            generalize Rd.mz (cly p q r s) u0 = X at HI0 hB0 G
            obtain ⟨Y, hY⟩ : ∃ Y, Y = Rd.wrF (Rd.ivz X) := ⟨_, rfl⟩
            rw [← hY] at HI0 hB0
            clear hY
            generalize Rd.wrF X = ZZ at HI0 G
            obtain ⟨z0, z1, z2, z3⟩ := ZZ
            obtain ⟨y0, y1, y2, y3⟩ := Y
            unfold vF at HI0
            dsimp only at HI0 G
            have TA := TA.next hy
            have TP := TP.next hy
            have E := E.next hy
            have R := R.next hy R.lt
            have Z := Z.next hy
            have hs3 := hy.size
            have U := gr_trans U hy
            clear hy
            go_wp2_with fail
            refine hK.out _ _ (cells8A TA TP) (fun hHeld => ?_)
            clear hK K
            ((try simp only [Act.put]); (try simp only [List.setIfInBounds_toArray]); (try simp only [List.set_cons_succ]); (try simp only [List.set_cons_zero]))
            refine wpAnyH_strong (S := (fun W => W.cell? ⟨w.heap.size, 0, none⟩ = some (.int .i64 a) ∧ W.cell? ⟨w.heap.size, 1, none⟩ = some (.int .i64 b) ∧ W.cell? ⟨w.heap.size, 2, none⟩ = some (.int .i64 c) ∧ W.cell? ⟨w.heap.size, 3, none⟩ = some (.int .i64 d) ∧ W.cell? ⟨w.heap.size + 1, 0, none⟩ = some (.int .i64 p) ∧ W.cell? ⟨w.heap.size + 1, 1, none⟩ = some (.int .i64 q) ∧ W.cell? ⟨w.heap.size + 1, 2, none⟩ = some (.int .i64 r) ∧ W.cell? ⟨w.heap.size + 1, 3, none⟩ = some (.int .i64 s))) (S' := (fun W => W.cell? ⟨w.heap.size, 0, none⟩ = some (.int .i64 a) ∧ W.cell? ⟨w.heap.size, 1, none⟩ = some (.int .i64 b) ∧ W.cell? ⟨w.heap.size, 2, none⟩ = some (.int .i64 c) ∧ W.cell? ⟨w.heap.size, 3, none⟩ = some (.int .i64 d) ∧ W.cell? ⟨w.heap.size + 1, 0, none⟩ = some (.int .i64 p) ∧ W.cell? ⟨w.heap.size + 1, 1, none⟩ = some (.int .i64 q) ∧ W.cell? ⟨w.heap.size + 1, 2, none⟩ = some (.int .i64 r) ∧ W.cell? ⟨w.heap.size + 1, 3, none⟩ = some (.int .i64 s) ∧ W.cell? ⟨gg, 0, none⟩ = some (.int .i64 z0) ∧ W.cell? ⟨gg, 1, none⟩ = some (.int .i64 z1) ∧ W.cell? ⟨gg, 2, none⟩ = some (.int .i64 z2) ∧ W.cell? ⟨gg, 3, none⟩ = some (.int .i64 z3))) (fun _ h => ⟨h.1, h.2.1, h.2.2.1, h.2.2.2.1, h.2.2.2.2.1, h.2.2.2.2.2.1, h.2.2.2.2.2.2.1, h.2.2.2.2.2.2.2.1⟩) _ _ _ _ ?_
            clear hHeld
            have hHeld := cells12B TA TP G
            (refine wpAnyH_take (i := 4) (v := ?_) rfl (by kernel_rfl) (by kernel_rfl) (by kernel_rfl) (fun _ _ _ h => h) (Or.inl ⟨by rfl, ?_⟩) (by assumption) ?_; rotate_left 1; (focus (intro w hSw; (try dsimp only at hSw); go_simp; (first | done | with_reducible rfl))); ((try simp only [Act.put]); (try simp only [List.setIfInBounds_toArray]); (try simp only [List.set_cons_succ]); (try simp only [List.set_cons_zero]))); (refine wpAnyH_take (i := 5) (v := ?_) rfl (by kernel_rfl) (by kernel_rfl) (by kernel_rfl) (fun _ _ _ h => h) (Or.inl ⟨by rfl, ?_⟩) (by assumption) ?_; rotate_left 1; (focus (intro w hSw; (try dsimp only at hSw); go_simp; (first | done | with_reducible rfl))); ((try simp only [Act.put]); (try simp only [List.setIfInBounds_toArray]); (try simp only [List.set_cons_succ]); (try simp only [List.set_cons_zero])))
            refine wpAnyH_ready (rs := [6]) (by kernel_rfl) (by simp) ?_
            refine AllReadyH.cons (o := _) rfl (fun K hK => ?_) AllReadyH.nil
            · go_simp
              refine (HI0.out _).mono ?_
              rintro e V4 ⟨rfl, hy⟩
              have TA := TA.next hy
              have TP := TP.next hy
              have E := E.next hy
              have R := R.next hy R.lt
              have G := G.next hy
              have Z := Z.next hy
              have hs4 := hy.size
              have U := gr_trans U hy
              clear hy
              go_wp2_with fail
              refine hK.out _ _ (cells12B TA TP G) (fun hHeld => ?_)
              clear hK K
              ((try simp only [Act.put]); (try simp only [List.setIfInBounds_toArray]); (try simp only [List.set_cons_succ]); (try simp only [List.set_cons_zero]))
              (refine wpAnyH_take (i := 8) (oi := { dst := some 6, op := .assign (.tmp 17), type := _, pos := _, after := _, guard := _ }) (v := ?_) rfl (by kernel_rfl) (by kernel_rfl) (by kernel_rfl) (fun _ _ _ h => h) (Or.inl ⟨by rfl, ?_⟩) (by assumption) ?_; rotate_left 1; (focus (intro w hSw; (try dsimp only at hSw); go_simp; (first | done | with_reducible rfl))); ((try simp only [Act.put]); (try simp only [List.setIfInBounds_toArray]); (try simp only [List.set_cons_succ]); (try simp only [List.set_cons_zero])))
              refine wpAnyH_ready (rs := [9]) (by kernel_rfl) (by simp) ?_
              refine AllReadyH.cons (o := _) rfl (fun K hK => ?_) AllReadyH.nil
              · obtain ⟨hzl, q0, q1, q2, q3, f0, f1, f2, f3⟩ := id Z
                have hTl := TA.lt; have hPl := TP.lt; have hGl := G.lt; have hEl := E.lt; have hRl := R.lt
                go_simp
                have hsz : V4.heap.size ≤ ((((V4.setCell ⟨V0.heap.size, 0, none⟩ (.int .i64 y0)).setCell ⟨V0.heap.size, 1, none⟩ (.int .i64 y1)).setCell ⟨V0.heap.size, 2, none⟩ (.int .i64 y2)).setCell ⟨V0.heap.size, 3, none⟩ (.int .i64 y3)).heap.size := by simp only [World.size_setCell]; exact Nat.le_refl _
                have TA := TA.oth4M (i := V0.heap.size) (by omega) (.int .i64 y0) (.int .i64 y1) (.int .i64 y2) (.int .i64 y3)
                have TP := TP.oth4M (i := V0.heap.size) (by omega) (.int .i64 y0) (.int .i64 y1) (.int .i64 y2) (.int .i64 y3)
                have G := G.at (W' := ((((V4.setCell ⟨V0.heap.size, 0, none⟩ (.int .i64 y0)).setCell ⟨V0.heap.size, 1, none⟩ (.int .i64 y1)).setCell ⟨V0.heap.size, 2, none⟩ (.int .i64 y2)).setCell ⟨V0.heap.size, 3, none⟩ (.int .i64 y3))) (set4_heap (by omega) _ _ _ _) hsz
                have E : Emp ((((V4.setCell ⟨V0.heap.size, 0, none⟩ (.int .i64 y0)).setCell ⟨V0.heap.size, 1, none⟩ (.int .i64 y1)).setCell ⟨V0.heap.size, 2, none⟩ (.int .i64 y2)).setCell ⟨V0.heap.size, 3, none⟩ (.int .i64 y3)) _ := (set4_heap (by omega) _ _ _ _).trans E
                have R := R.atB (W' := ((((V4.setCell ⟨V0.heap.size, 0, none⟩ (.int .i64 y0)).setCell ⟨V0.heap.size, 1, none⟩ (.int .i64 y1)).setCell ⟨V0.heap.size, 2, none⟩ (.int .i64 y2)).setCell ⟨V0.heap.size, 3, none⟩ (.int .i64 y3))) (set4_heap (by omega) _ _ _ _) hsz
                have Z := Arr.store4 Z.box (x := y0) (y := y1) (z := y2) (u := y3)
                have U : Below W2.heap.size W2 ((((V4.setCell ⟨V0.heap.size, 0, none⟩ (.int .i64 y0)).setCell ⟨V0.heap.size, 1, none⟩ (.int .i64 y1)).setCell ⟨V0.heap.size, 2, none⟩ (.int .i64 y2)).setCell ⟨V0.heap.size, 3, none⟩ (.int .i64 y3)) := by (repeat' (first | with_reducible exact Below.refl _ _ | with_reducible assumption | with_reducible refine gr_alloc ?_ _ | with_reducible refine gr_drew ?_ | with_reducible refine gr_drewN ?_ _ | with_reducible refine gr_trans ?_ (by assumption) | with_reducible refine gr_set ?_ ?_ _ | (simp; done) | omega | (simp; omega)))
                refine hK.out _ _ (cells12B TA TP G) (fun hHeld => ?_)
                clear hK K q0 q1 q2 q3 f0 f1 f2 f3
                ((try simp only [Act.put]); (try simp only [List.setIfInBounds_toArray]); (try simp only [List.set_cons_succ]); (try simp only [List.set_cons_zero]))
                generalize ((((V4.setCell ⟨V0.heap.size, 0, none⟩ (.int .i64 y0)).setCell ⟨V0.heap.size, 1, none⟩ (.int .i64 y1)).setCell ⟨V0.heap.size, 2, none⟩ (.int .i64 y2)).setCell ⟨V0.heap.size, 3, none⟩ (.int .i64 y3)) = V5 at TA TP E R G Z U hsz hHeld ⊢
                refine wpAnyH_done (by kernel_rfl) ?_ _
                go_wp2_with fail
                go_meet
                exact ⟨_, g1, c1, xs, y0, y1, y2, y3, rfl, rfl, Z, R, hid ⟨hax, hpx, hB0⟩, E, U⟩
    case rest =>
      obtain ⟨j7, g1, c1, xs, y0, y1, y2, y3, rfl, rfl, hZ, hR, HAP, hE, hB⟩ := hcut
      have HZ := hid hZ; have HR := hid hR; have HE := hid hE; have HB := hid hB
      clear hZ hR hE hB
      have hxl : xs.length ≤ 81 := by rw [HAP.out.2.1.length_eq]; exact HLN.out
      have HXL := hid hxl
      clear hxl
      go_wp2_with fail
      go_loopw [5, 8] (fun s5 s8 wr => ∃ (k n gx cx : Nat) (zs : List Red.F4), s5 = .slice (some ⟨gx, 0, none⟩) n cx ∧ s8 = .int .i64 ((k : Int)) ∧ k ≤ xs.length ∧ RowM w.heap.size wr (.slice (some ⟨gx, 0, none⟩) n cx) zs ∧ Hid (Rd.Asc zs ∧ zs.Perm ((xs.take k).map fun v => Rd.mm v (y0, y1, y2, y3))) ∧ Below wc.heap.size wc wr) (fun _ s8 _ => xs.length - (intOf s8).toNat)
      case atStart => exact ⟨0, 0, go, 0, [], rfl, rfl, Nat.zero_le _, HE.out.row (by omega), hid ⟨List.Pairwise.nil, by simp⟩, Below.refl _ _⟩
      case round =>
        obtain ⟨k, n, gx, cx, zs, rfl, rfl, hk, hrx, hasc, hB2⟩ := hrel
        have HRX := hid hrx; have HB2 := hid hB2
        clear hrx
        by_cases hlt : k < xs.length
        · obtain ⟨q', hq⟩ : ∃ q, xs[k]? = some q := ⟨_, List.getElem?_eq_getElem hlt⟩
          have HW1 : Hid ((xs.take (k + 1)).map (fun v => Rd.mm v (y0, y1, y2, y3)) = (xs.take k).map (fun v => Rd.mm v (y0, y1, y2, y3)) ++ [Rd.mm q' (y0, y1, y2, y3)]) := hid (by rw [List.take_add_one, hq]; simp)
          have hzl : zs.length ≤ 1000 := by
            rw [hasc.out.2.length_eq, List.length_map, List.length_take]
            have := HXL.out
            omega
          have HZL := hid hzl
          have hcu := HR.out.le
          have hcm := HR.out.mx
          unfold maxLen at hcm
          have Q5 := (HR.out.next hB2 HR.out.lt).at4 k q' hq
          have M5 := HZ.out.next hB2
          clear hq hzl
          obtain ⟨q0, q1, q2, q3⟩ := q'
          dsimp only at Q5
          have e81 : decide ((k : Int) < (xs.length : Int)) = true := by simp; omega
          have hk0 : (0 : Int) ≤ (k : Int) := by omega
          have hkl : (k : Int) < (xs.length : Int) := by omega
          obtain ⟨_, u0, u1, u2, u3⟩ := id Q5
          obtain ⟨_, t0, t1, t2, t3, _⟩ := id M5
          have X5 := HRX.out
          have B5 := HB2.out
          have hnx : n = zs.length := X5.rda.2
          have hmul := fun W => sMp_any q0 q1 q2 q3 y0 y1 y2 y3 W
          have hput := fun W (h : RdA W gx cx zs) => sPut_any gx cx zs (Rd.mm (q0, q1, q2, q3) (y0, y1, y2, y3)) HZL.out W h
          rw [← hnx] at hput
          unfold PutOut vF at hput
          have hmm : Rd.mm (q0, q1, q2, q3) (y0, y1, y2, y3) = (mp q0 y0 q1 y2, mp q0 y1 q1 y3, mp q2 y0 q3 y2, mp q2 y1 q3 y3) := rfl
          rw [hmm] at hput HW1
          dsimp only at hput
          generalize mp q0 y0 q1 y2 = x0 at hput hmul HW1
          generalize mp q0 y1 q1 y3 = x1 at hput hmul HW1
          generalize mp q2 y0 q3 y2 = x2 at hput hmul HW1
          generalize mp q2 y1 q3 y3 = x3 at hput hmul HW1
          have HMu := hid hmul; have HPu := hid hput; have HNX := hid hnx
          clear hmul hput hmm hnx hB2
          have HX5 := hid X5; have HB5 := hid B5
          clear X5 B5
          obtain ⟨w5, hw5⟩ : ∃ w5, w5 = wr := ⟨_, rfl⟩
          subst hw5
          go_upto_region 8 with fail
          go_region_held3 (fun W => W.cell? ⟨g1, k * 4, none⟩ = some (.int .i64 q0) ∧ W.cell? ⟨g1, k * 4 + 1, none⟩ = some (.int .i64 q1) ∧ W.cell? ⟨g1, k * 4 + 2, none⟩ = some (.int .i64 q2) ∧ W.cell? ⟨g1, k * 4 + 3, none⟩ = some (.int .i64 q3) ∧ W.cell? ⟨j7, 0, none⟩ = some (.int .i64 y0) ∧ W.cell? ⟨j7, 1, none⟩ = some (.int .i64 y1) ∧ W.cell? ⟨j7, 2, none⟩ = some (.int .i64 y2) ∧ W.cell? ⟨j7, 3, none⟩ = some (.int .i64 y3)) (first | exact cells8M Q7 M7 | exact cells8M Q6 M6 | exact cells8M Q5.drew M5.drew) ((first | (go_at_call 99; refine (HMu.out _).mono ?_; rintro e w6 ⟨rfl, hb6⟩; have M6 := M5.drew.next hb6; have Q6 := Q5.drew.next hb6 Q5.lt; have X6 := (HX5.out.next (gr_drew (Below.refl _ w5))).next hb6; have B6 := gr_trans (gr_drew HB5.out) hb6) | (go_at_call 98; refine (HPu.out _ X6.rda.1).mono ?_; rintro e w7 ⟨k2, g2, nn2, cap2, rfl, hcut2, hr2, hb7⟩; have M7 := M6.next hb7; have Q7 := Q6.next hb7 Q6.lt; have B7 := gr_trans B6 hb7)))
          have R7 := hid (hr2.base (B' := w.heap.size) (by have h1 := HU4.out.size; have h2 := HB.out.size; have h3 := B6.size; omega))
          have HB7 := hid B7
          have HA7 := hid (hcut2.asc hasc.out.1)
          have HP7 : Hid ((zs.take k2 ++ (x0, x1, x2, x3) :: zs.drop k2).Perm ((xs.take (k + 1)).map fun v => Rd.mm v (y0, y1, y2, y3))) := hid (by
            rw [HW1.out]
            refine List.perm_middle.trans ?_
            rw [List.take_append_drop]
            exact (List.Perm.cons _ hasc.out.2).trans (List.perm_append_singleton _ _).symm)
          clear u0 u1 u2 u3 t0 t1 t2 t3 Q5 M5 Q6 M6 Q7 M7 X6 B6 B7 hr2 hb6 hb7 hcut2
          go_wp2_with fail
          go_roundw
          case rel => exact ⟨k + 1, nn2, g2, cap2, _, rfl, by go_num, by omega, R7.out, hid ⟨HA7.out, HP7.out⟩, HB7.out⟩
          case measure => simp [intOf]; omega
        · have e81 : decide ((k : Int) < (xs.length : Int)) = false := by simp; omega
          have hkn : k = xs.length := by omega
          have HAS := hid hasc.out
          rw [hkn, List.take_of_length_le (Nat.le_refl _)] at HAS
          have hzs : zs = mbt (a, b, c, d) (p, q, r, s) := HAP.out.2.2 zs HAS.out.1 (HAS.out.2.trans (HAP.out.2.1.map _))
          have HZS := hid hzs
          clear hkn hzs
          go_wp2_with fail
          go_ret
          exact ⟨gx, n, cx, rfl, by rw [← HZS.out]; exact HRX.out, by have h1 := HU4.out; have h2 := HB.out; have h3 := HB2.out; (repeat' (first | with_reducible exact Below.refl _ _ | with_reducible assumption | with_reducible refine gr_alloc ?_ _ | with_reducible refine gr_drew ?_ | with_reducible refine gr_drewN ?_ _ | with_reducible refine gr_trans ?_ (by assumption) | with_reducible refine gr_set ?_ ?_ _ | (simp; done) | omega | (simp; omega)))⟩

end Go.Proofs.Ytikmjefbjejbkaa
