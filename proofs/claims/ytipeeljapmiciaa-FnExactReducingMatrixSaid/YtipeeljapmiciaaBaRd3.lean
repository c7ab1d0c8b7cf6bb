/- Reduction: margins, sides and steps within the bounds. -/
import Derived.Test.YtipeeljapmiciaaBaRd2
import Derived.Test.YtipeeljapmiciaaBaC2c
import Derived.Test.YtipeeljapmiciaaBaZ6
import Derived.Test.YtipeeljapmiciaaBaC1u
namespace Go.Proofs.Ytipeeljapmiciaa
open Go.RowKit

set_option maxRecDepth 100000 in
set_option maxHeartbeats 2000000 in
theorem sSideB_any (a b c d : Int) (w : World) (hr : Red.Bd (a, b, c, d)) :
    Calls Try.prog 73 #[.agg #[.int .i64 a, .int .i64 b, .int .i64 c, .int .i64 d]] w fun e w' => e = .returned (.int .i64 (sid a b c d)) ∧ Below w.heap.size w w' := by
  obtain ⟨ha, hb, hc, hd⟩ := hr
  dsimp only at ha hb hc hd
  have bb := mulb hb hb; have ac := mulb (mulb (show -3 ≤ (3 : Int) ∧ (3 : Int) ≤ 3 by omega) ha) hc; have bc := mulb hb hc
  have ad := mulb (mulb (show -9 ≤ (9 : Int) ∧ (9 : Int) ≤ 9 by omega) ha) hd; have cc := mulb hc hc; have bd := mulb (mulb (show -3 ≤ (3 : Int) ∧ (3 : Int) ≤ 3 by omega) hb) hd
  have ad1 := mulb ha hd; have ac1 := mulb ha hc; have dd := mulb hd hd; have aa := mulb ha ha; have bd1 := mulb hb hd
  have mm := mulb (show -2050000000 ≤ -(a - b) ∧ -(a - b) ≤ 2050000000 by omega) (show -2050000000 ≤ a - b ∧ a - b ≤ 2050000000 by omega)
  have pp := mulb (show -2050000000 ≤ a + b ∧ a + b ≤ 2050000000 by omega) (show -2050000000 ≤ a + b ∧ a + b ≤ 2050000000 by omega)
  simp only [Int.reduceMul] at bb ac bc ad cc bd ad1 ac1 dd aa bd1 mm pp
  obtain ⟨P, hP⟩ : ∃ P, P = b * b - 3 * a * c := ⟨_, rfl⟩
  obtain ⟨Q, hQ⟩ : ∃ Q, Q = b * c - 9 * a * d := ⟨_, rfl⟩
  obtain ⟨R, hR⟩ : ∃ R, R = c * c - 3 * b * d := ⟨_, rfl⟩
  obtain ⟨E, hE⟩ : ∃ E, E = a * d - b * c := ⟨_, rfl⟩
  obtain ⟨U, hU⟩ : ∃ U, U = (a + b) * (a + b) + a * c := ⟨_, rfl⟩
  obtain ⟨V, hV⟩ : ∃ V, V = -(a - b) * (a - b) - a * c := ⟨_, rfl⟩
  obtain ⟨X, hX⟩ : ∃ X, X = d * d - a * a := ⟨_, rfl⟩
  obtain ⟨Y, hY⟩ : ∃ Y, Y = b * d - a * c := ⟨_, rfl⟩
  have bP : -5000000000000000000 ≤ P ∧ P ≤ 5000000000000000000 := by omega
  have bQ : -5000000000000000000 ≤ Q ∧ Q ≤ 5000000000000000000 := by omega
  have bR : -5000000000000000000 ≤ R ∧ R ≤ 5000000000000000000 := by omega
  have bE : -5000000000000000000 ≤ E ∧ E ≤ 5000000000000000000 := by omega
  have bU : -5000000000000000000 ≤ U ∧ U ≤ 5000000000000000000 := by omega
  have bV : -5000000000000000000 ≤ V ∧ V ≤ 5000000000000000000 := by omega
  have bX : -5000000000000000000 ≤ X ∧ X ≤ 5000000000000000000 := by omega
  have bY : -5000000000000000000 ≤ Y ∧ Y ≤ 5000000000000000000 := by omega
  have eP : wrap64 (wrap64 (b * b) - wrap64 (wrap64 (3 * a) * c)) = P := by rw [hP]; simp only [wr_sl, wr_sr, wr_ml]; exact wr_in (by omega)
  have eQ : wrap64 (wrap64 (b * c) - wrap64 (wrap64 (9 * a) * d)) = Q := by rw [hQ]; simp only [wr_sl, wr_sr, wr_ml]; exact wr_in (by omega)
  have eR : wrap64 (wrap64 (c * c) - wrap64 (wrap64 (3 * b) * d)) = R := by rw [hR]; simp only [wr_sl, wr_sr, wr_ml]; exact wr_in (by omega)
  have eE : wrap64 (wrap64 (a * d) - wrap64 (b * c)) = E := by rw [hE]; simp only [wr_sl, wr_sr]; exact wr_in (by omega)
  have eU : wrap64 (wrap64 (wrap64 (a + b) * wrap64 (a + b)) + wrap64 (a * c)) = U := by rw [hU]; simp only [wr_al, wr_ar, wr_ml, wr_mr]; exact wr_in (by omega)
  have eV : wrap64 (wrap64 (wrap64 (-wrap64 (a - b)) * wrap64 (a - b)) - wrap64 (a * c)) = V := by rw [hV]; simp only [wr_sl, wr_sr, wr_ml, wr_mr, wr_n]; exact wr_in (by omega)
  have eX : wrap64 (wrap64 (d * d) - wrap64 (a * a)) = X := by rw [hX]; simp only [wr_sl, wr_sr]; exact wr_in (by omega)
  have eY : wrap64 (wrap64 (b * d) - wrap64 (a * c)) = Y := by rw [hY]; simp only [wr_sl, wr_sr]; exact wr_in (by omega)
  have eS : sid a b c d = if 0 < dsc a b c d then sd1 P Q R else sd2 E U V X Y := by rw [hP, hQ, hR, hE, hU, hV, hX, hY]; rfl
  have HS := hid eS
  clear ha hb hc hd bb ac bc ad cc bd ad1 ac1 dd aa bd1 mm pp hP hQ hR hE hU hV hX hY eS
  obtain ⟨bP1, bP2⟩ := bP; obtain ⟨bQ1, bQ2⟩ := bQ; obtain ⟨bR1, bR2⟩ := bR; obtain ⟨bE1, bE2⟩ := bE; obtain ⟨bU1, bU2⟩ := bU; obtain ⟨bV1, bV2⟩ := bV; obtain ⟨bX1, bX2⟩ := bX; obtain ⟨bY1, bY2⟩ := bY
  have A0 := Arr.new w a b c d 23
  have U0 := gr_alloc (Below.refl w.heap.size w) (.cells #[.int .i64 a, .int .i64 b, .int .i64 c, .int .i64 d] 23)
  go_enter Try.func73, Try.ntmps73
  go_upto_region 1 with fail
  generalize w.alloc (.cells #[.int .i64 a, .int .i64 b, .int .i64 c, .int .i64 d] 23) = W0 at A0 U0 ⊢
  obtain ⟨_, a0, a1, a2, a3, _⟩ := id A0
  go_quiet (fail)
  have A1 := A0.drewN nq
  have U1 := gr_drewN U0 nq
  clear a0 a1 a2 a3 A0 U0
  generalize W0.drewN nq = W1 at A1 U1 ⊢
  obtain ⟨_, a0, a1, a2, a3, _⟩ := id A1
  go_wp2_with fail
  refine (sDisc0_any a b c d _).mono ?_
  rintro e w2 ⟨rfl, hb2⟩
  by_cases hD : 0 < dsc a b c d
  · go_wp2
    all_goals (go_ret; exact ⟨ret_int (by rw [HS.out, if_pos hD]; simp only [sd1]; (repeat' split) <;> omega), by (repeat' (first | with_reducible exact Below.refl _ _ | with_reducible assumption | with_reducible refine gr_alloc ?_ _ | with_reducible refine gr_drew ?_ | with_reducible refine gr_drewN ?_ _ | with_reducible refine gr_trans ?_ (by assumption) | with_reducible refine gr_set ?_ ?_ _ | (simp; done) | omega | (simp; omega)))⟩)
  · have hD' : decide (0 < dsc a b c d) = false := by simpa using hD
    have HD := hid hD
    clear hD
    go_wp2
    all_goals (go_ret; exact ⟨ret_int (by rw [HS.out, if_neg (by have := HD.out; omega)]; simp only [sd2]; (repeat' split) <;> omega), by (repeat' (first | with_reducible exact Below.refl _ _ | with_reducible assumption | with_reducible refine gr_alloc ?_ _ | with_reducible refine gr_drew ?_ | with_reducible refine gr_drewN ?_ _ | with_reducible refine gr_trans ?_ (by assumption) | with_reducible refine gr_set ?_ ?_ _ | (simp; done) | omega | (simp; omega)))⟩)


theorem mg_lf (s : Bool) (a b c d : Int) : mg1 s a b c d = Red.lf s a b c d ∧ mg2 s a b c d = Red.rt s a b c d ∧ mg3 s a b c d = Red.hg s a b c d := by
  unfold mg1 mg2 mg3 Red.lf Red.rt Red.hg
  cases s <;> simp
theorem mg_in {a b c d : Int} (s : Bool) (h : Red.Bd (a, b, c, d)) : wrap64 (mg1 s a b c d) = Red.lf s a b c d ∧ wrap64 (mg2 s a b c d) = Red.rt s a b c d ∧ wrap64 (mg3 s a b c d) = Red.hg s a b c d := by
  obtain ⟨e1, e2, e3⟩ := mg_lf s a b c d
  rw [e1, e2, e3]
  obtain ⟨ha, hb, hc, hd⟩ := h
  dsimp only at ha hb hc hd
  have bb := mulb hb hb; have ac := mulb (mulb (show -3 ≤ (3 : Int) ∧ (3 : Int) ≤ 3 by omega) ha) hc; have bc := mulb hb hc
  have ad := mulb (mulb (show -9 ≤ (9 : Int) ∧ (9 : Int) ≤ 9 by omega) ha) hd; have cc := mulb hc hc; have bd := mulb (mulb (show -3 ≤ (3 : Int) ∧ (3 : Int) ≤ 3 by omega) hb) hd
  have ad1 := mulb ha hd; have ac1 := mulb ha hc; have dd := mulb hd hd; have aa := mulb ha ha; have bd1 := mulb hb hd
  have mm := mulb (show -2050000000 ≤ a - b ∧ a - b ≤ 2050000000 by omega) (show -2050000000 ≤ a - b ∧ a - b ≤ 2050000000 by omega)
  have pp := mulb (show -2050000000 ≤ a + b ∧ a + b ≤ 2050000000 by omega) (show -2050000000 ≤ a + b ∧ a + b ≤ 2050000000 by omega)
  simp only [Int.reduceMul] at bb ac bc ad cc bd ad1 ac1 dd aa bd1 mm pp
  have n1 := Red.sq0 b; have n2 := Red.sq0 c
  cases s
  · refine ⟨IntWalk.wrap64_in _ ?_, IntWalk.wrap64_in _ ?_, IntWalk.wrap64_in _ ?_⟩ <;> simp only [Red.lf, Red.rt, Red.hg, Bool.false_eq_true, if_false] <;> omega
  · refine ⟨IntWalk.wrap64_in _ ?_, IntWalk.wrap64_in _ ?_, IntWalk.wrap64_in _ ?_⟩ <;> simp only [Red.lf, Red.rt, Red.hg, if_true] <;> omega

theorem iMarginsB_any (t : Red.F4) (n : Int) (h : Red.Bd t) (w : World) :
    Calls Try.prog 101 #[.agg #[.int .i64 t.1, .int .i64 t.2.1, .int .i64 t.2.2.1, .int .i64 t.2.2.2], .int .i64 n] w fun e w' => e = .returned (.tuple #[.int .i64 (Red.lf (decide (0 < n)) t.1 t.2.1 t.2.2.1 t.2.2.2), .int .i64 (Red.rt (decide (0 < n)) t.1 t.2.1 t.2.2.1 t.2.2.2), .int .i64 (Red.hg (decide (0 < n)) t.1 t.2.1 t.2.2.1 t.2.2.2)]) ∧ Below w.heap.size w w' := by
  obtain ⟨a, b, c, d⟩ := t
  obtain ⟨e1, e2, e3⟩ := mg_in (decide (0 < n)) h
  have := iMargins_any a b c d n w
  rw [e1, e2, e3] at this
  exact this
theorem iChangeB_any (t : Red.F4) (s : Bool) (h : Red.Bd t) (w : World) :
    Calls Try.prog 83 #[.agg #[.int .i64 t.1, .int .i64 t.2.1, .int .i64 t.2.2.1, .int .i64 t.2.2.2], .agg #[.int .i64 ((Rd.sm s t).1), .int .i64 ((Rd.sm s t).2.1), .int .i64 ((Rd.sm s t).2.2.1), .int .i64 ((Rd.sm s t).2.2.2)]] w fun e w' => e = .returned (vF (Red.stp s t)) ∧ Below w.heap.size w w' := by
  obtain ⟨a, b, c, d⟩ := t
  obtain ⟨ha, hb, hc, hd⟩ := h
  dsimp only at ha hb hc hd
  have hsm : (-1 ≤ (Rd.sm s (a, b, c, d)).1 ∧ (Rd.sm s (a, b, c, d)).1 ≤ 1) ∧ (-1 ≤ (Rd.sm s (a, b, c, d)).2.1 ∧ (Rd.sm s (a, b, c, d)).2.1 ≤ 1) ∧ (-1 ≤ (Rd.sm s (a, b, c, d)).2.2.1 ∧ (Rd.sm s (a, b, c, d)).2.2.1 ≤ 1) ∧ (-1 ≤ (Rd.sm s (a, b, c, d)).2.2.2 ∧ (Rd.sm s (a, b, c, d)).2.2.2 ≤ 1) := by
    unfold Rd.sm
    split
    · decide
    · split <;> decide
  have hst : Red.stp s (a, b, c, d) = (cA a b c d (Rd.sm s (a, b, c, d)).1 (Rd.sm s (a, b, c, d)).2.2.1, cB a b c d (Rd.sm s (a, b, c, d)).1 (Rd.sm s (a, b, c, d)).2.1 (Rd.sm s (a, b, c, d)).2.2.1 (Rd.sm s (a, b, c, d)).2.2.2, cC a b c d (Rd.sm s (a, b, c, d)).1 (Rd.sm s (a, b, c, d)).2.1 (Rd.sm s (a, b, c, d)).2.2.1 (Rd.sm s (a, b, c, d)).2.2.2, cA a b c d (Rd.sm s (a, b, c, d)).2.1 (Rd.sm s (a, b, c, d)).2.2.2) := by
    unfold Rd.sm Red.stp
    dsimp only
    split
    · refine Prod.ext ?_ (Prod.ext ?_ (Prod.ext ?_ ?_)) <;> simp only [cA, cB, cC, vx] <;> grind
    · split
      · refine Prod.ext ?_ (Prod.ext ?_ (Prod.ext ?_ ?_)) <;> simp only [cA, cB, cC, vx] <;> grind
      · refine Prod.ext ?_ (Prod.ext ?_ (Prod.ext ?_ ?_)) <;> simp only [cA, cB, cC, vx] <;> grind
  rw [hst]
  exact iChange_any a b c d _ _ _ _ 1620000000 1 w (by omega) hb hc (by omega) hsm.1 hsm.2.1 hsm.2.2.1 hsm.2.2.2 (by decide) (by decide)
theorem sSideR (a b c d : Int) (s : Bool) (hs : decide (0 < dsc a b c d) = s) (h : ¬ (Red.lf s a b c d < 0 ∧ Red.rt s a b c d < 0)) : sid a b c d = Rd.sd s (a, b, c, d) := by
  have e2 : -(a - b) * (a - b) = -((a - b) * (a - b)) := by rw [Int.neg_mul]
  unfold sid Rd.sd
  dsimp only
  cases s with
  | true =>
    have hD : 0 < dsc a b c d := by simpa using hs
    rw [if_pos hD]
    simp only [Red.lf, Red.rt, Red.hg, if_true, sd1] at h ⊢
    generalize b * b - 3 * a * c = P at *
    generalize b * c - 9 * a * d = Q at *
    generalize c * c - 3 * b * d = R at *
    (repeat' split) <;> omega
  | false =>
    have hD : ¬ 0 < dsc a b c d := by simpa using hs
    rw [if_neg hD]
    simp only [Red.lf, Red.rt, Red.hg, Bool.false_eq_true, if_false, sd2, e2] at h ⊢
    generalize (a - b) * (a - b) = s at *
    generalize (a + b) * (a + b) = t at *
    generalize a * c = u at *
    generalize a * d = v at *
    generalize b * c = x at *
    generalize d * d = y at *
    generalize a * a = z at *
    generalize b * d = m at *
    (repeat' split) <;> omega

end Go.Proofs.Ytipeeljapmiciaa
