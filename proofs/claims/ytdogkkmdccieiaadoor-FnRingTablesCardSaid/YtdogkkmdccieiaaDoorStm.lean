/- Chapter 4: what FnRingTables asks of the numbers: units times their inverses, forms of their tables, discriminants of polynomials. Mathematics; no Go function in sight. -/
import Derived.Test.YtdogkkmdccieiaaDoorZ17
import Derived.Test.YtdogkkmdccieiaaDoorZ11
import Derived.Test.YtdogkkmdccieiaaDoorZ12
import Derived.Test.YtdogkkmdccieiaaDoorZ18
import Derived.Test.YtdogkkmdccieiaaDoorZ23
namespace Go.Proofs.YtdogkkmdccieiaaDoor
open Go.RowKit

theorem we_eq {x y k : Int} (h : WE (wrap64 x) k) (h' : WE (wrap64 y) k) : wrap64 x = wrap64 y := by
  have e : ∀ z : Int, wrap64 (wrap64 z) = wrap64 z := fun z => (WE.r z).w
  have := h.trans h'.symm
  rwa [e, e] at this
theorem we_num {x n : Int} (h : WE (wrap64 x) n) (hn : -9000000000000000000 ≤ n ∧ n ≤ 9000000000000000000) : wrap64 x = n := by
  have e : ∀ z : Int, wrap64 (wrap64 z) = wrap64 z := fun z => (WE.r z).w
  have h' : wrap64 (wrap64 x) = wrap64 n := h
  rw [e, wr_in hn] at h'
  exact h'
theorem ivz (a b c d u v x A0 A1 A2 t s n : Int) (h0 : A0 = z0 a b c d u v x u v x) (h1 : A1 = z1 a b c d u v x u v x) (h2 : A2 = z2 a b c d u v x u v x)
    (c0 : z0 a b c d A0 A1 A2 u v x + -t * A0 + s * u + -n = 0) (c1 : z1 a b c d A0 A1 A2 u v x + -t * A1 + s * v = 0) (c2 : z2 a b c d A0 A1 A2 u v x + -t * A2 + s * x = 0) :
    z0 a b c d u v x (n * (A0 + -t * u + s * 1)) (n * (A1 + -t * v + s * 0)) (n * (A2 + -t * x + s * 0)) = n * n ∧
    z1 a b c d u v x (n * (A0 + -t * u + s * 1)) (n * (A1 + -t * v + s * 0)) (n * (A2 + -t * x + s * 0)) = 0 ∧
    z2 a b c d u v x (n * (A0 + -t * u + s * 1)) (n * (A1 + -t * v + s * 0)) (n * (A2 + -t * x + s * 0)) = 0 := by
  have e0 : z0 a b c d u v x (n * (A0 + -t * u + s * 1)) (n * (A1 + -t * v + s * 0)) (n * (A2 + -t * x + s * 0)) = n * (z0 a b c d A0 A1 A2 u v x + -t * z0 a b c d u v x u v x + s * u) := by
    simp only [z0, mm]; grind
  have e1 : z1 a b c d u v x (n * (A0 + -t * u + s * 1)) (n * (A1 + -t * v + s * 0)) (n * (A2 + -t * x + s * 0)) = n * (z1 a b c d A0 A1 A2 u v x + -t * z1 a b c d u v x u v x + s * v) := by
    simp only [z1, mm]; grind
  have e2 : z2 a b c d u v x (n * (A0 + -t * u + s * 1)) (n * (A1 + -t * v + s * 0)) (n * (A2 + -t * x + s * 0)) = n * (z2 a b c d A0 A1 A2 u v x + -t * z2 a b c d u v x u v x + s * x) := by
    simp only [z2, mm]; grind
  rw [e0, e1, e2, ← h0, ← h1, ← h2, c1, c2]
  have : z0 a b c d A0 A1 A2 u v x + -t * A0 + s * u = n := by omega
  rw [this]
  exact ⟨rfl, Int.mul_zero _, Int.mul_zero _⟩
/-- A unit times its inverse. -/
theorem iv_law {a b c d u v x : Int} (h : ivc a b c d u v x = 0) :
    (isF a b c d = true ∧ isE u v x = true) ∧ isE (iv0 a b c d u v x) (iv1 a b c d u v x) (iv2 a b c d u v x) = true ∧
    m0 (np a c) (np a d) (np b d) u v x (iv0 a b c d u v x) (iv1 a b c d u v x) (iv2 a b c d u v x) = 1 ∧
    m1 b 0 d u v x (iv0 a b c d u v x) (iv1 a b c d u v x) (iv2 a b c d u v x) = 0 ∧
    m2 (ng a) 0 (ng c) u v x (iv0 a b c d u v x) (iv1 a b c d u v x) (iv2 a b c d u v x) = 0 := by
  unfold ivc at h
  have hf : few 100 a b c d u v x = 0 := by
    refine Decidable.byContradiction fun hn => ?_
    rw [ivK_n hn] at h; exact hn h
  rw [hf] at h
  have hN : ivN a b c d u v x = 1 ∨ ivN a b c d u v x = -1 := by
    refine Decidable.byContradiction fun hn => ?_
    rw [ivK_5 hn] at h; omega
  rw [ivK_u hN] at h
  obtain ⟨h1, h2, _, _⟩ := few_t hf
  have hE : isE (iv0 a b c d u v x) (iv1 a b c d u v x) (iv2 a b c d u v x) = true := by
    refine Decidable.byContradiction fun hn => ?_
    unfold elc at h
    rw [if_neg hn] at h; omega
  refine ⟨⟨h1, h2⟩, hE, ?_⟩
  have r' := WE.r
  obtain ⟨wt, ws, wn⟩ := mtf_w a b c d (r' u) (r' v) (r' x)
  have wN : WE (ivN a b c d u v x) (nz a b c d u v x) := by
    unfold ivN
    have := (wn.n.w).n.w
    rwa [Int.neg_neg] at this
  have q0 := z0_w a b c d (r' u) (r' v) (r' x) (r' u) (r' v) (r' x)
  have q1 := z1_w a b c d (r' u) (r' v) (r' x) (r' u) (r' v) (r' x)
  have q2 := z2_w a b c d (r' u) (r' v) (r' x) (r' u) (r' v) (r' x)
  have j0 : WE (iv0 a b c d u v x) (nz a b c d u v x * (z0 a b c d u v x u v x + -tz a b c d u v x * u + sz a b c d u v x * 1)) := by
    unfold iv0 ivn; exact (wN.m ((q0.a (wt.n.w.m (r' u))).a (ws.w.m (r' 1)))).w
  have j1 : WE (iv1 a b c d u v x) (nz a b c d u v x * (z1 a b c d u v x u v x + -tz a b c d u v x * v + sz a b c d u v x * 0)) := by
    unfold iv1 ivn; exact (wN.m ((q1.a (wt.n.w.m (r' v))).a (ws.w.m (r' 0)))).w
  have j2 : WE (iv2 a b c d u v x) (nz a b c d u v x * (z2 a b c d u v x u v x + -tz a b c d u v x * x + sz a b c d u v x * 0)) := by
    unfold iv2 ivn; exact (wN.m ((q2.a (wt.n.w.m (r' x))).a (ws.w.m (r' 0)))).w
  obtain ⟨c0, c1, c2⟩ := chz a b c d u v x
  obtain ⟨e0, e1, e2⟩ := ivz a b c d u v x _ _ _ _ _ _ rfl rfl rfl c0 c1 c2
  have p0 := z0_w a b c d (r' u) (r' v) (r' x) j0 j1 j2
  have p1 := z1_w a b c d (r' u) (r' v) (r' x) j0 j1 j2
  have p2 := z2_w a b c d (r' u) (r' v) (r' x) j0 j1 j2
  rw [e0] at p0; rw [e1] at p1; rw [e2] at p2
  have wNN : WE (nz a b c d u v x * nz a b c d u v x) 1 := by
    have := (wN.m wN).symm
    rcases hN with hN | hN <;> (rw [hN] at this; exact this)
  exact ⟨we_num (p0.trans wNN) (by omega), we_num p1 (by omega), we_num p2 (by omega)⟩
/-- The table of a form is right. -/
theorem tb_right (a b c d : Int) : rgt (g9 (np a c) b (ng a) (np a d) 0 0 (np b d) d (ng c)) = true := by
  have r' := WE.r
  have pw : ∀ x y, WE (np x y) (-x * y) := fun x y => (WE.r (-x * y)).w
  have nw : ∀ x, WE (ng x) (-x) := fun x => (WE.r (-x)).w
  have e0 : ∀ u v x p q r u' v' x' p' q' r' s t y S T Y s' t' y' S' T' Y' : Int, WE u u' → WE v v' → WE x x' → WE p p' → WE q q' → WE r r' → WE s s' → WE t t' → WE y y' → WE S S' → WE T T' → WE Y Y' → z0 a b c d u' v' x' p' q' r' = z0 a b c d s' t' y' S' T' Y' →
      m0 (np a c) (np a d) (np b d) u v x p q r = m0 (np a c) (np a d) (np b d) s t y S T Y := fun u v x p q r u' v' x' p' q' r' s t y S T Y s' t' y' S' T' Y' h1 h2 h3 h4 h5 h6 h7 h8 h9 h10 h11 h12 e => by
    have A := z0_w a b c d h1 h2 h3 h4 h5 h6
    have B := z0_w a b c d h7 h8 h9 h10 h11 h12
    rw [← e] at B
    exact we_eq A B
  have e1 : ∀ u v x p q r u' v' x' p' q' r' s t y S T Y s' t' y' S' T' Y' : Int, WE u u' → WE v v' → WE x x' → WE p p' → WE q q' → WE r r' → WE s s' → WE t t' → WE y y' → WE S S' → WE T T' → WE Y Y' → z1 a b c d u' v' x' p' q' r' = z1 a b c d s' t' y' S' T' Y' →
      m1 b 0 d u v x p q r = m1 b 0 d s t y S T Y := fun u v x p q r u' v' x' p' q' r' s t y S T Y s' t' y' S' T' Y' h1 h2 h3 h4 h5 h6 h7 h8 h9 h10 h11 h12 e => by
    have A := z1_w a b c d h1 h2 h3 h4 h5 h6
    have B := z1_w a b c d h7 h8 h9 h10 h11 h12
    rw [← e] at B
    exact we_eq A B
  have e2 : ∀ u v x p q r u' v' x' p' q' r' s t y S T Y s' t' y' S' T' Y' : Int, WE u u' → WE v v' → WE x x' → WE p p' → WE q q' → WE r r' → WE s s' → WE t t' → WE y y' → WE S S' → WE T T' → WE Y Y' → z2 a b c d u' v' x' p' q' r' = z2 a b c d s' t' y' S' T' Y' →
      m2 (ng a) 0 (ng c) u v x p q r = m2 (ng a) 0 (ng c) s t y S T Y := fun u v x p q r u' v' x' p' q' r' s t y S T Y s' t' y' S' T' Y' h1 h2 h3 h4 h5 h6 h7 h8 h9 h10 h11 h12 e => by
    have A := z2_w a b c d h1 h2 h3 h4 h5 h6
    have B := z2_w a b c d h7 h8 h9 h10 h11 h12
    rw [← e] at B
    exact we_eq A B
  show (eq3 (m0 (np a c) (np a d) (np b d) (np a c) b (ng a) 0 0 1) (m1 b 0 d (np a c) b (ng a) 0 0 1) (m2 (ng a) 0 (ng c) (np a c) b (ng a) 0 0 1) (m0 (np a c) (np a d) (np b d) 0 1 0 (np a d) 0 0) (m1 b 0 d 0 1 0 (np a d) 0 0) (m2 (ng a) 0 (ng c) 0 1 0 (np a d) 0 0) &&
    eq3 (m0 (np a c) (np a d) (np b d) (np a d) 0 0 0 0 1) (m1 b 0 d (np a d) 0 0 0 0 1) (m2 (ng a) 0 (ng c) (np a d) 0 0 0 0 1) (m0 (np a c) (np a d) (np b d) 0 1 0 (np b d) d (ng c)) (m1 b 0 d 0 1 0 (np b d) d (ng c)) (m2 (ng a) 0 (ng c) 0 1 0 (np b d) d (ng c))) = true
  rw [e0 (np a c) b (ng a) 0 0 1 _ _ _ _ _ _ 0 1 0 (np a d) 0 0 _ _ _ _ _ _ (pw _ _) (r' _) (nw _) (r' _) (r' _) (r' _) (r' _) (r' _) (r' _) (pw _ _) (r' _) (r' _) (by simp only [z0, mm]; grind),
    e1 (np a c) b (ng a) 0 0 1 _ _ _ _ _ _ 0 1 0 (np a d) 0 0 _ _ _ _ _ _ (pw _ _) (r' _) (nw _) (r' _) (r' _) (r' _) (r' _) (r' _) (r' _) (pw _ _) (r' _) (r' _) (by simp only [z1, mm]; grind),
    e2 (np a c) b (ng a) 0 0 1 _ _ _ _ _ _ 0 1 0 (np a d) 0 0 _ _ _ _ _ _ (pw _ _) (r' _) (nw _) (r' _) (r' _) (r' _) (r' _) (r' _) (r' _) (pw _ _) (r' _) (r' _) (by simp only [z2, mm]; grind),
    e0 (np a d) 0 0 0 0 1 _ _ _ _ _ _ 0 1 0 (np b d) d (ng c) _ _ _ _ _ _ (pw _ _) (r' _) (r' _) (r' _) (r' _) (r' _) (r' _) (r' _) (r' _) (pw _ _) (r' _) (nw _) (by simp only [z0, mm]; grind),
    e1 (np a d) 0 0 0 0 1 _ _ _ _ _ _ 0 1 0 (np b d) d (ng c) _ _ _ _ _ _ (pw _ _) (r' _) (r' _) (r' _) (r' _) (r' _) (r' _) (r' _) (r' _) (pw _ _) (r' _) (nw _) (by simp only [z1, mm]; grind),
    e2 (np a d) 0 0 0 0 1 _ _ _ _ _ _ 0 1 0 (np b d) d (ng c) _ _ _ _ _ _ (pw _ _) (r' _) (r' _) (r' _) (r' _) (r' _) (r' _) (r' _) (r' _) (pw _ _) (r' _) (nw _) (by simp only [z2, mm]; grind)]
  simp [eq3]
/-- The form of the table of a form. -/
theorem tb_back {a b c d : Int} (h : toc a b c d = 0) :
    foc 3 (g9 (np a c) b (ng a) (np a d) 0 0 (np b d) d (ng c)) = 2 ∨ (foc 3 (g9 (np a c) b (ng a) (np a d) 0 0 (np b d) d (ng c)) = 0 ∧ ng (ng a) = a ∧ fo1 (g9 (np a c) b (ng a) (np a d) 0 0 (np b d) d (ng c)) = b ∧ fo2 (g9 (np a c) b (ng a) (np a d) 0 0 (np b d) d (ng c)) = c) := by
  have hF : isF a b c d = true := by
    refine Decidable.byContradiction fun hn => ?_
    unfold toc at h; rw [if_neg hn] at h; omega
  have hR : (isE (np a c) b (ng a) && isE (np a d) 0 0 && isE (np b d) d (ng c)) = true := by
    refine Decidable.byContradiction fun hn => ?_
    unfold toc at h; rw [if_pos hF, if_neg hn] at h; omega
  obtain ⟨ha, hb, hc, hd⟩ := isF_t hF
  have hA : allE 3 (g9 (np a c) b (ng a) (np a d) 0 0 (np b d) d (ng c)) = true := by
    show (((true && isE (np a c) b (ng a)) && isE (np a d) 0 0) && isE (np b d) d (ng c)) = true
    simpa using hR
  have na : ng a = -a := wr_in (by omega)
  have nc : ng c = -c := wr_in (by omega)
  have na2 : ng (ng a) = a := by rw [na]; show wrap64 (- -a) = a; rw [Int.neg_neg]; exact wr_in (by omega)
  have f1 : fo1 (g9 (np a c) b (ng a) (np a d) 0 0 (np b d) d (ng c)) = b := by
    show wrap64 (b - 2 * 0) = b
    rw [wr_in (by omega)]; omega
  have f2 : fo2 (g9 (np a c) b (ng a) (np a d) 0 0 (np b d) d (ng c)) = c := by
    show wrap64 (2 * 0 - ng c) = c
    rw [nc, wr_in (by omega)]; omega
  by_cases ht : tk (g9 (np a c) b (ng a) (np a d) 0 0 (np b d) d (ng c)) = true
  · right
    refine ⟨?_, na2, f1, f2⟩
    rw [foc_l (tbc_0 hA ht) (tb_right a b c d), f1, f2]
    show lim (ng (ng a)) b c d = 0
    rw [na2]; unfold lim; rw [if_pos hF]
  · left
    have h2 := tbc_3 hA (by simpa using ht)
    rw [foc_k (by rw [h2]; omega), h2]
/-- Right tables have a form, others none. -/
theorem fo_right {n : Nat} {g : Nat → Int} (h : tbc n g = 0) : (foc n g = 5 ∧ irt n g = false) ∨ (¬ foc n g = 5 ∧ irt n g = true) := by
  by_cases hr : rgt g = true
  · right
    rw [foc_l h hr]
    refine ⟨by unfold lim; split <;> omega, by unfold irt; rw [if_pos h]; exact hr⟩
  · left
    have hr' : rgt g = false := by simpa using hr
    exact ⟨foc_5 h hr', by unfold irt; rw [if_pos h]; exact hr'⟩
theorem few_100 {a b c d u v x : Int} (h : few 10 a b c d u v x = 0) : few 100 a b c d u v x = 0 := by
  obtain ⟨h1, h2, h3, h4⟩ := few_t h
  obtain ⟨ha, hb, hc, hd⟩ := is4_t h3
  obtain ⟨hu, hv, hx⟩ := is3_t h4
  have hr : ∀ y : Int, -10 ≤ y ∧ y ≤ 10 → rng (-100) 100 y = true := fun y hy => by unfold rng; simp; omega
  unfold few
  rw [if_pos (by rw [h1, h2]; rfl), if_pos]
  simp only [is4, is3, hr _ ha, hr _ hb, hr _ hc, hr _ hd, hr _ hu, hr _ hv, hr _ hx, Bool.and_self]
/-- Values and indices. -/
theorem ix_law {a b c d u v x : Int} (h : ixc (fec a b c d u v x) (vl a b c d v x) = 0) : plc a b c d v x = 0 ∧ (vl a b c d v x = mx (vl a b c d v x) ∨ (¬ vl a b c d v x = mx (vl a b c d v x) ∧ wrap64 (-mx (vl a b c d v x)) = vl a b c d v x)) := by
  have hf : fec a b c d u v x = 0 := by
    refine Decidable.byContradiction fun hn => ?_
    unfold ixc at h; rw [if_neg hn] at h; exact hn h
  obtain ⟨h1, h2⟩ := fec_0.1 hf
  obtain ⟨_, hv, hx⟩ := isE_t h2
  have hr : ∀ y : Int, -10000 ≤ y ∧ y ≤ 10000 → rng (-10000) 10000 y = true := fun y hy => by unfold rng; simp; omega
  refine ⟨by unfold plc; rw [if_pos h1, if_pos (by rw [hr _ hv, hr _ hx]; rfl)], ?_⟩
  have hw : wrap64 (vl a b c d v x) = vl a b c d v x := by unfold vl pl; exact (WE.r _).w
  generalize vl a b c d v x = y at hw
  unfold mx
  split
  · by_cases e : y = wrap64 (-y)
    · exact .inl e
    · refine .inr ⟨e, ?_⟩
      have := (WE.r y).n.w.n
      rw [Int.neg_neg] at this
      exact this.trans hw
  · exact .inl rfl

end Go.Proofs.YtdogkkmdccieiaaDoor
