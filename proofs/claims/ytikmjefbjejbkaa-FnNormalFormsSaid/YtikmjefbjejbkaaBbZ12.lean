/- Several texts in one: XC2c, XRd3. -/
import Derived.Test.YtikmjefbjejbkaaBbZ11
import Derived.Test.YtikmjefbjejbkaaBbRd2
import Derived.Test.YtikmjefbjejbkaaBbZ10
import Derived.Test.YtikmjefbjejbkaaBbC1u

/- Chapter 2: which forms are reduced: the model. -/
namespace Go.Proofs.Ytikmjefbjejbkaa
open Go.RowKit

set_option maxRecDepth 100000 in
set_option maxHeartbeats 2000000 in
theorem sCode1_any (k : Nat) (a b c d : Int) (w : World) (hA : Arr w k a b c d) :
    Calls Try.prog 49 #[.slice (some ⟨k, 0, none⟩) 1 1] w fun e w' => e = .returned (.int .i64 (rcd a b c d)) ∧ Below w.heap.size w w' := by
  have hl := hA.lt
  obtain ⟨_, a0, a1, a2, a3, _⟩ := id hA
  have U0 := Below.refl w.heap.size w
  go_enter Try.func49, Try.ntmps49
  go_wp2_with fail
  refine wp_loop_rounds 2 ?_
  rw [rounds_succ]; go_wp2_with fail
  refine (l01Is_any a b c d _).mono ?_
  rintro e w1 ⟨rfl, hb1⟩
  have A1 := hA.next hb1
  have U1 := gr_trans U0 hb1
  clear a0 a1 a2 a3 hA U0 hl
  by_cases hf : isF a b c d = true
  · have hl := A1.lt
    obtain ⟨_, a0, a1, a2, a3, _⟩ := id A1
    go_wp2_with fail
    rw [rounds_succ]; go_wp2_with fail
    refine wp_loop_rounds 2 ?_
    rw [rounds_succ]; go_wp2_with fail
    refine wp_loop_rounds 5 ?_
    by_cases r0 : rng (-100) 100 a = true
    · rw [rounds_succ]; go_wp2_with (go_at_call 96; refine (l01In_any _ _ _ _).mono ?_; rintro e w2 ⟨rfl, rfl⟩)
      by_cases r1 : rng (-100) 100 b = true
      · rw [rounds_succ]; go_wp2_with (go_at_call 96; refine (l01In_any _ _ _ _).mono ?_; rintro e w2 ⟨rfl, rfl⟩)
        by_cases r2 : rng (-100) 100 c = true
        · rw [rounds_succ]; go_wp2_with (go_at_call 96; refine (l01In_any _ _ _ _).mono ?_; rintro e w2 ⟨rfl, rfl⟩)
          by_cases r3 : rng (-100) 100 d = true
          · rw [rounds_succ]; go_wp2_with (go_at_call 96; refine (l01In_any _ _ _ _).mono ?_; rintro e w2 ⟨rfl, rfl⟩)
            have hr : isR a b c d = true := by simp [isR, r0, r1, r2, r3]
            rw [rounds_succ]; go_wp2_with fail
            rw [rounds_succ]; go_wp2_with fail
            refine wp_loop_rounds 2 ?_
            rw [rounds_succ]; go_wp2_with fail
            have hs := fun W => sDisc0_any a b c d W
            by_cases hd : dsc a b c d = 0
            · rw [hd] at hs
              have HS := hid hs
              have HD := hid hd
              clear hs hd
              refine (HS.out _).mono ?_
              rintro e w3 ⟨rfl, hb3⟩
              go_wp2
              go_ret
              exact ⟨ret_int (by simp [rcd, hf, hr, HD.out]), by (repeat' (first | with_reducible exact Below.refl _ _ | with_reducible assumption | with_reducible refine gr_alloc ?_ _ | with_reducible refine gr_drew ?_ | with_reducible refine gr_drewN ?_ _ | with_reducible refine gr_trans ?_ (by assumption) | with_reducible refine gr_set ?_ ?_ _ | (simp; done) | omega | (simp; omega)))⟩
            · have hd' : (dsc a b c d == 0) = false := by simpa using hd
              have HD := hid hd
              have HS := hid hs
              clear hs hd
              refine (HS.out _).mono ?_
              rintro e w3 ⟨rfl, hb3⟩
              go_wp2_with fail
              rw [rounds_succ]; go_wp2_with fail
              go_ret
              exact ⟨ret_int (by simp [rcd, hf, hr, HD.out]), by (repeat' (first | with_reducible exact Below.refl _ _ | with_reducible assumption | with_reducible refine gr_alloc ?_ _ | with_reducible refine gr_drew ?_ | with_reducible refine gr_drewN ?_ _ | with_reducible refine gr_trans ?_ (by assumption) | with_reducible refine gr_set ?_ ?_ _ | (simp; done) | omega | (simp; omega)))⟩
          · have r3' : rng (-100) 100 d = false := by simpa using r3
            clear r3
            rw [rounds_succ]; go_wp2_with (go_at_call 96; refine (l01In_any _ _ _ _).mono ?_; rintro e w2 ⟨rfl, rfl⟩)
            go_ret
            exact ⟨ret_int (by simp [rcd, hf, isR, r3']), by (repeat' (first | with_reducible exact Below.refl _ _ | with_reducible assumption | with_reducible refine gr_alloc ?_ _ | with_reducible refine gr_drew ?_ | with_reducible refine gr_drewN ?_ _ | with_reducible refine gr_trans ?_ (by assumption) | with_reducible refine gr_set ?_ ?_ _ | (simp; done) | omega | (simp; omega)))⟩
        · have r2' : rng (-100) 100 c = false := by simpa using r2
          clear r2
          rw [rounds_succ]; go_wp2_with (go_at_call 96; refine (l01In_any _ _ _ _).mono ?_; rintro e w2 ⟨rfl, rfl⟩)
          go_ret
          exact ⟨ret_int (by simp [rcd, hf, isR, r2']), by (repeat' (first | with_reducible exact Below.refl _ _ | with_reducible assumption | with_reducible refine gr_alloc ?_ _ | with_reducible refine gr_drew ?_ | with_reducible refine gr_drewN ?_ _ | with_reducible refine gr_trans ?_ (by assumption) | with_reducible refine gr_set ?_ ?_ _ | (simp; done) | omega | (simp; omega)))⟩
      · have r1' : rng (-100) 100 b = false := by simpa using r1
        clear r1
        rw [rounds_succ]; go_wp2_with (go_at_call 96; refine (l01In_any _ _ _ _).mono ?_; rintro e w2 ⟨rfl, rfl⟩)
        go_ret
        exact ⟨ret_int (by simp [rcd, hf, isR, r1']), by (repeat' (first | with_reducible exact Below.refl _ _ | with_reducible assumption | with_reducible refine gr_alloc ?_ _ | with_reducible refine gr_drew ?_ | with_reducible refine gr_drewN ?_ _ | with_reducible refine gr_trans ?_ (by assumption) | with_reducible refine gr_set ?_ ?_ _ | (simp; done) | omega | (simp; omega)))⟩
    · have r0' : rng (-100) 100 a = false := by simpa using r0
      clear r0
      rw [rounds_succ]; go_wp2_with (go_at_call 96; refine (l01In_any _ _ _ _).mono ?_; rintro e w2 ⟨rfl, rfl⟩)
      go_ret
      exact ⟨ret_int (by simp [rcd, hf, isR, r0']), by (repeat' (first | with_reducible exact Below.refl _ _ | with_reducible assumption | with_reducible refine gr_alloc ?_ _ | with_reducible refine gr_drew ?_ | with_reducible refine gr_drewN ?_ _ | with_reducible refine gr_trans ?_ (by assumption) | with_reducible refine gr_set ?_ ?_ _ | (simp; done) | omega | (simp; omega)))⟩
  · have hf' : isF a b c d = false := by simpa using hf
    clear hf
    go_wp2_with fail
    go_ret
    exact ⟨ret_int (by simp [rcd, hf']), by (repeat' (first | with_reducible exact Below.refl _ _ | with_reducible assumption | with_reducible refine gr_alloc ?_ _ | with_reducible refine gr_drew ?_ | with_reducible refine gr_drewN ?_ _ | with_reducible refine gr_trans ?_ (by assumption) | with_reducible refine gr_set ?_ ?_ _ | (simp; done) | omega | (simp; omega)))⟩

/-- The side of a form by its three numbers, or by its five. -/
def sd1 (P Q R : Int) : Int := if Q < -P then 1 else if P < Q then -1 else if R < P then 2 else 0
def sd2 (E U V X Y : Int) : Int := if U < E then 1 else if E < V then -1 else if X < Y then 2 else 0
def sid (a b c d : Int) : Int := if 0 < dsc a b c d then sd1 (b * b - 3 * a * c) (b * c - 9 * a * d) (c * c - 3 * b * d) else sd2 (a * d - b * c) ((a + b) * (a + b) + a * c) (-(a - b) * (a - b) - a * c) (d * d - a * a) (b * d - a * c)

set_option maxRecDepth 100000 in
set_option maxHeartbeats 2000000 in
theorem sSide_any (a b c d : Int) (w : World) (hr : isR a b c d = true) :
    Calls Try.prog 75 #[.agg #[.int .i64 a, .int .i64 b, .int .i64 c, .int .i64 d]] w fun e w' => e = .returned (.int .i64 (sid a b c d)) ∧ Below w.heap.size w w' := by
  obtain ⟨ha, hb, hc, hd⟩ := isR_t hr
  have bb := mulb hb hb; have ac := mulb (mulb (show -3 ≤ (3 : Int) ∧ (3 : Int) ≤ 3 by omega) ha) hc; have bc := mulb hb hc
  have ad := mulb (mulb (show -9 ≤ (9 : Int) ∧ (9 : Int) ≤ 9 by omega) ha) hd; have cc := mulb hc hc; have bd := mulb (mulb (show -3 ≤ (3 : Int) ∧ (3 : Int) ≤ 3 by omega) hb) hd
  have ad1 := mulb ha hd; have ac1 := mulb ha hc; have dd := mulb hd hd; have aa := mulb ha ha; have bd1 := mulb hb hd
  have mm := mulb (show -200 ≤ -(a - b) ∧ -(a - b) ≤ 200 by omega) (show -200 ≤ a - b ∧ a - b ≤ 200 by omega)
  have pp := mulb (show -200 ≤ a + b ∧ a + b ≤ 200 by omega) (show -200 ≤ a + b ∧ a + b ≤ 200 by omega)
  simp only [Int.reduceMul] at bb ac bc ad cc bd ad1 ac1 dd aa bd1 mm pp
  obtain ⟨P, hP⟩ : ∃ P, P = b * b - 3 * a * c := ⟨_, rfl⟩
  obtain ⟨Q, hQ⟩ : ∃ Q, Q = b * c - 9 * a * d := ⟨_, rfl⟩
  obtain ⟨R, hR⟩ : ∃ R, R = c * c - 3 * b * d := ⟨_, rfl⟩
  obtain ⟨E, hE⟩ : ∃ E, E = a * d - b * c := ⟨_, rfl⟩
  obtain ⟨U, hU⟩ : ∃ U, U = (a + b) * (a + b) + a * c := ⟨_, rfl⟩
  obtain ⟨V, hV⟩ : ∃ V, V = -(a - b) * (a - b) - a * c := ⟨_, rfl⟩
  obtain ⟨X, hX⟩ : ∃ X, X = d * d - a * a := ⟨_, rfl⟩
  obtain ⟨Y, hY⟩ : ∃ Y, Y = b * d - a * c := ⟨_, rfl⟩
  have bP : -1000000 ≤ P ∧ P ≤ 1000000 := by omega
  have bQ : -1000000 ≤ Q ∧ Q ≤ 1000000 := by omega
  have bR : -1000000 ≤ R ∧ R ≤ 1000000 := by omega
  have bE : -1000000 ≤ E ∧ E ≤ 1000000 := by omega
  have bU : -1000000 ≤ U ∧ U ≤ 1000000 := by omega
  have bV : -1000000 ≤ V ∧ V ≤ 1000000 := by omega
  have bX : -1000000 ≤ X ∧ X ≤ 1000000 := by omega
  have bY : -1000000 ≤ Y ∧ Y ≤ 1000000 := by omega
  have eP : wrap64 (wrap64 (b * b) - wrap64 (wrap64 (3 * a) * c)) = P := by rw [hP]; simp only [wr_sl, wr_sr, wr_ml]; exact wr_in (by omega)
  have eQ : wrap64 (wrap64 (b * c) - wrap64 (wrap64 (9 * a) * d)) = Q := by rw [hQ]; simp only [wr_sl, wr_sr, wr_ml]; exact wr_in (by omega)
  have eR : wrap64 (wrap64 (c * c) - wrap64 (wrap64 (3 * b) * d)) = R := by rw [hR]; simp only [wr_sl, wr_sr, wr_ml]; exact wr_in (by omega)
  have eE : wrap64 (wrap64 (a * d) - wrap64 (b * c)) = E := by rw [hE]; simp only [wr_sl, wr_sr]; exact wr_in (by omega)
  have eU : wrap64 (wrap64 (wrap64 (a + b) * wrap64 (a + b)) + wrap64 (a * c)) = U := by rw [hU]; simp only [wr_al, wr_ar, wr_ml, wr_mr]; exact wr_in (by omega)
  have eV : wrap64 (wrap64 (wrap64 (-wrap64 (a - b)) * wrap64 (a - b)) - wrap64 (a * c)) = V := by rw [hV]; simp only [wr_sl, wr_sr, wr_ml, wr_mr, wr_n]; exact wr_in (by omega)
  have eX : wrap64 (wrap64 (d * d) - wrap64 (a * a)) = X := by rw [hX]; simp only [wr_sl, wr_sr]; exact wr_in (by omega)
  have eY : wrap64 (wrap64 (b * d) - wrap64 (a * c)) = Y := by rw [hY]; simp only [wr_sl, wr_sr]; exact wr_in (by omega)
  have eS : sid a b c d = if 0 < dsc a b c d then sd1 P Q R else sd2 E U V X Y := by rw [hP, hQ, hR, hE, hU, hV, hX, hY]; rfl
  have HS := hid eS
  clear ha hb hc hd bb ac bc ad cc bd ad1 ac1 dd aa bd1 mm pp hP hQ hR hE hU hV hX hY eS hr
  obtain ⟨bP1, bP2⟩ := bP; obtain ⟨bQ1, bQ2⟩ := bQ; obtain ⟨bR1, bR2⟩ := bR; obtain ⟨bE1, bE2⟩ := bE; obtain ⟨bU1, bU2⟩ := bU; obtain ⟨bV1, bV2⟩ := bV; obtain ⟨bX1, bX2⟩ := bX; obtain ⟨bY1, bY2⟩ := bY
  have A0 := Arr.new w a b c d 26
  have U0 := gr_alloc (Below.refl w.heap.size w) (.cells #[.int .i64 a, .int .i64 b, .int .i64 c, .int .i64 d] 26)
  go_enter Try.func75, Try.ntmps75
  go_upto_region 1 with fail
  generalize w.alloc (.cells #[.int .i64 a, .int .i64 b, .int .i64 c, .int .i64 d] 26) = W0 at A0 U0 ⊢
  obtain ⟨_, a0, a1, a2, a3, _⟩ := id A0
  go_quiet (fail)
  have A1 := A0.drewN nq
  have U1 := gr_drewN U0 nq
  clear a0 a1 a2 a3 A0 U0
  generalize W0.drewN nq = W1 at A1 U1 ⊢
  obtain ⟨_, a0, a1, a2, a3, _⟩ := id A1
  go_wp2_with fail
  refine (sDisc0_any a b c d _).mono ?_
  rintro e w2 ⟨rfl, hb2⟩
  by_cases hD : 0 < dsc a b c d
  · go_wp2
    all_goals (go_ret; exact ⟨ret_int (by rw [HS.out, if_pos hD]; simp only [sd1]; (repeat' split) <;> omega), by (repeat' (first | with_reducible exact Below.refl _ _ | with_reducible assumption | with_reducible refine gr_alloc ?_ _ | with_reducible refine gr_drew ?_ | with_reducible refine gr_drewN ?_ _ | with_reducible refine gr_trans ?_ (by assumption) | with_reducible refine gr_set ?_ ?_ _ | (simp; done) | omega | (simp; omega)))⟩)
  · have hD' : decide (0 < dsc a b c d) = false := by simpa using hD
    have HD := hid hD
    clear hD
    go_wp2
    all_goals (go_ret; exact ⟨ret_int (by rw [HS.out, if_neg (by have := HD.out; omega)]; simp only [sd2]; (repeat' split) <;> omega), by (repeat' (first | with_reducible exact Below.refl _ _ | with_reducible assumption | with_reducible refine gr_alloc ?_ _ | with_reducible refine gr_drew ?_ | with_reducible refine gr_drewN ?_ _ | with_reducible refine gr_trans ?_ (by assumption) | with_reducible refine gr_set ?_ ?_ _ | (simp; done) | omega | (simp; omega)))⟩)

theorem sid_rdd {a b c d : Int} : (sid a b c d == 0) = rdd a b c d := by
  have e1 : (a + b) * (a + b) + a * c - (a * d - b * c) = ((a + b) * (a + b) + a * c) - (a * d - b * c) := rfl
  have e2 : -(a - b) * (a - b) = -((a - b) * (a - b)) := by rw [Int.neg_mul]
  rw [Bool.eq_iff_iff]
  unfold sid rdd nn3 mg1 mg2 mg3
  by_cases hD : 0 < dsc a b c d
  · simp only [hD, if_true, decide_true, sd1, beq_iff_eq, Bool.and_eq_true, decide_eq_true_eq]
    generalize b * b - 3 * a * c = P
    generalize b * c - 9 * a * d = Q
    generalize c * c - 3 * b * d = R
    (repeat' split) <;> omega
  · simp only [hD, if_false, decide_false, Bool.false_eq_true, sd2, beq_iff_eq, Bool.and_eq_true, decide_eq_true_eq, e2]
    generalize (a - b) * (a - b) = s
    generalize (a + b) * (a + b) = t
    generalize a * c = u
    generalize a * d = v
    generalize b * c = x
    generalize d * d = y
    generalize a * a = z
    generalize b * d = m
    (repeat' split) <;> omega

set_option maxHeartbeats 1000000 in
theorem sIsReduced_any (a b c d : Int) (w : World) :
    Calls Try.prog 28 #[.agg #[.int .i64 a, .int .i64 b, .int .i64 c, .int .i64 d]] w fun e w' => e = .returned (.tuple #[.bool (rd0 a b c d), .int .i64 (rcd a b c d)]) ∧ Below w.heap.size w w' := by
  have A0 := (Arr.new w a b c d 26).alloc (.cells #[.int .i64 a, .int .i64 b, .int .i64 c, .int .i64 d] 26)
  have B0 := Arr.new (w.alloc (.cells #[.int .i64 a, .int .i64 b, .int .i64 c, .int .i64 d] 26)) a b c d 26
  have U0 := gr_alloc (gr_alloc (Below.refl w.heap.size w) (.cells #[.int .i64 a, .int .i64 b, .int .i64 c, .int .i64 d] 26)) (.cells #[.int .i64 a, .int .i64 b, .int .i64 c, .int .i64 d] 26)
  simp only [World.size_alloc] at B0
  go_enter Try.func28, Try.ntmps28
  go_wp2_with fail
  refine (sCode1_any _ a b c d _ B0).mono ?_
  rintro e w1 ⟨rfl, hb1⟩
  have A1 := A0.next hb1
  have U1 := gr_trans U0 hb1
  clear A0 B0 U0
  by_cases hk : rcd a b c d = 0
  · obtain ⟨hf, hr, hd⟩ := rcd_0 hk
    have HK := hid hk
    simp only [HK.out]
    clear hk hf hd
    obtain ⟨_, a0, a1, a2, a3, _⟩ := id A1
    go_wp2_with fail
    refine (sSide_any a b c d _ hr).mono ?_
    rintro e w2 ⟨rfl, hb2⟩
    go_wp2
    go_ret2
    exact ⟨ret_bi (by rw [rd0, HK.out, ← sid_rdd]; simp) (by simp [HK.out]), by (repeat' (first | with_reducible exact Below.refl _ _ | with_reducible assumption | with_reducible refine gr_alloc ?_ _ | with_reducible refine gr_drew ?_ | with_reducible refine gr_drewN ?_ _ | with_reducible refine gr_trans ?_ (by assumption) | with_reducible refine gr_set ?_ ?_ _ | (simp; done) | omega | (simp; omega)))⟩
  · have HK := hid hk
    have hk' : (rcd a b c d == 0) = false := by simpa using hk
    clear hk
    go_wp2
    go_ret2
    exact ⟨ret_bi (by simp [rd0, HK.out]) rfl, by (repeat' (first | with_reducible exact Below.refl _ _ | with_reducible assumption | with_reducible refine gr_alloc ?_ _ | with_reducible refine gr_drew ?_ | with_reducible refine gr_drewN ?_ _ | with_reducible refine gr_trans ?_ (by assumption) | with_reducible refine gr_set ?_ ?_ _ | (simp; done) | omega | (simp; omega)))⟩

end Go.Proofs.Ytikmjefbjejbkaa

/- Reduction: margins, sides and steps within the bounds. -/
namespace Go.Proofs.Ytikmjefbjejbkaa
open Go.RowKit

set_option maxRecDepth 100000 in
set_option maxHeartbeats 2000000 in
theorem sSideB_any (a b c d : Int) (w : World) (hr : Red.Bd (a, b, c, d)) :
    Calls Try.prog 75 #[.agg #[.int .i64 a, .int .i64 b, .int .i64 c, .int .i64 d]] w fun e w' => e = .returned (.int .i64 (sid a b c d)) ∧ Below w.heap.size w w' := by
  obtain ⟨ha, hb, hc, hd⟩ := hr
  dsimp only at ha hb hc hd
  have bb := mulb hb hb; have ac := mulb (mulb (show -3 ≤ (3 : Int) ∧ (3 : Int) ≤ 3 by omega) ha) hc; have bc := mulb hb hc
  have ad := mulb (mulb (show -9 ≤ (9 : Int) ∧ (9 : Int) ≤ 9 by omega) ha) hd; have cc := mulb hc hc; have bd := mulb (mulb (show -3 ≤ (3 : Int) ∧ (3 : Int) ≤ 3 by omega) hb) hd
  have ad1 := mulb ha hd; have ac1 := mulb ha hc; have dd := mulb hd hd; have aa := mulb ha ha; have bd1 := mulb hb hd
  have mm := mulb (show -2050000000 ≤ -(a - b) ∧ -(a - b) ≤ 2050000000 by omega) (show -2050000000 ≤ a - b ∧ a - b ≤ 2050000000 by omega)
  have pp := mulb (show -2050000000 ≤ a + b ∧ a + b ≤ 2050000000 by omega) (show -2050000000 ≤ a + b ∧ a + b ≤ 2050000000 by omega)
  simp only [Int.reduceMul] at bb ac bc ad cc bd ad1 ac1 dd aa bd1 mm pp
  obtain ⟨P, hP⟩ : ∃ P, P = b * b - 3 * a * c := ⟨_, rfl⟩
  obtain ⟨Q, hQ⟩ : ∃ Q, Q = b * c - 9 * a * d := ⟨_, rfl⟩
  obtain ⟨R, hR⟩ : ∃ R, R = c * c - 3 * b * d := ⟨_, rfl⟩
  obtain ⟨E, hE⟩ : ∃ E, E = a * d - b * c := ⟨_, rfl⟩
  obtain ⟨U, hU⟩ : ∃ U, U = (a + b) * (a + b) + a * c := ⟨_, rfl⟩
  obtain ⟨V, hV⟩ : ∃ V, V = -(a - b) * (a - b) - a * c := ⟨_, rfl⟩
  obtain ⟨X, hX⟩ : ∃ X, X = d * d - a * a := ⟨_, rfl⟩
  obtain ⟨Y, hY⟩ : ∃ Y, Y = b * d - a * c := ⟨_, rfl⟩
  have bP : -5000000000000000000 ≤ P ∧ P ≤ 5000000000000000000 := by omega
  have bQ : -5000000000000000000 ≤ Q ∧ Q ≤ 5000000000000000000 := by omega
  have bR : -5000000000000000000 ≤ R ∧ R ≤ 5000000000000000000 := by omega
  have bE : -5000000000000000000 ≤ E ∧ E ≤ 5000000000000000000 := by omega
  have bU : -5000000000000000000 ≤ U ∧ U ≤ 5000000000000000000 := by omega
  have bV : -5000000000000000000 ≤ V ∧ V ≤ 5000000000000000000 := by omega
  have bX : -5000000000000000000 ≤ X ∧ X ≤ 5000000000000000000 := by omega
  have bY : -5000000000000000000 ≤ Y ∧ Y ≤ 5000000000000000000 := by omega
  have eP : wrap64 (wrap64 (b * b) - wrap64 (wrap64 (3 * a) * c)) = P := by rw [hP]; simp only [wr_sl, wr_sr, wr_ml]; exact wr_in (by omega)
  have eQ : wrap64 (wrap64 (b * c) - wrap64 (wrap64 (9 * a) * d)) = Q := by rw [hQ]; simp only [wr_sl, wr_sr, wr_ml]; exact wr_in (by omega)
  have eR : wrap64 (wrap64 (c * c) - wrap64 (wrap64 (3 * b) * d)) = R := by rw [hR]; simp only [wr_sl, wr_sr, wr_ml]; exact wr_in (by omega)
  have eE : wrap64 (wrap64 (a * d) - wrap64 (b * c)) = E := by rw [hE]; simp only [wr_sl, wr_sr]; exact wr_in (by omega)
  have eU : wrap64 (wrap64 (wrap64 (a + b) * wrap64 (a + b)) + wrap64 (a * c)) = U := by rw [hU]; simp only [wr_al, wr_ar, wr_ml, wr_mr]; exact wr_in (by omega)
  have eV : wrap64 (wrap64 (wrap64 (-wrap64 (a - b)) * wrap64 (a - b)) - wrap64 (a * c)) = V := by rw [hV]; simp only [wr_sl, wr_sr, wr_ml, wr_mr, wr_n]; exact wr_in (by omega)
  have eX : wrap64 (wrap64 (d * d) - wrap64 (a * a)) = X := by rw [hX]; simp only [wr_sl, wr_sr]; exact wr_in (by omega)
  have eY : wrap64 (wrap64 (b * d) - wrap64 (a * c)) = Y := by rw [hY]; simp only [wr_sl, wr_sr]; exact wr_in (by omega)
  have eS : sid a b c d = if 0 < dsc a b c d then sd1 P Q R else sd2 E U V X Y := by rw [hP, hQ, hR, hE, hU, hV, hX, hY]; rfl
  have HS := hid eS
  clear ha hb hc hd bb ac bc ad cc bd ad1 ac1 dd aa bd1 mm pp hP hQ hR hE hU hV hX hY eS
  obtain ⟨bP1, bP2⟩ := bP; obtain ⟨bQ1, bQ2⟩ := bQ; obtain ⟨bR1, bR2⟩ := bR; obtain ⟨bE1, bE2⟩ := bE; obtain ⟨bU1, bU2⟩ := bU; obtain ⟨bV1, bV2⟩ := bV; obtain ⟨bX1, bX2⟩ := bX; obtain ⟨bY1, bY2⟩ := bY
  have A0 := Arr.new w a b c d 26
  have U0 := gr_alloc (Below.refl w.heap.size w) (.cells #[.int .i64 a, .int .i64 b, .int .i64 c, .int .i64 d] 26)
  go_enter Try.func75, Try.ntmps75
  go_upto_region 1 with fail
  generalize w.alloc (.cells #[.int .i64 a, .int .i64 b, .int .i64 c, .int .i64 d] 26) = W0 at A0 U0 ⊢
  obtain ⟨_, a0, a1, a2, a3, _⟩ := id A0
  go_quiet (fail)
  have A1 := A0.drewN nq
  have U1 := gr_drewN U0 nq
  clear a0 a1 a2 a3 A0 U0
  generalize W0.drewN nq = W1 at A1 U1 ⊢
  obtain ⟨_, a0, a1, a2, a3, _⟩ := id A1
  go_wp2_with fail
  refine (sDisc0_any a b c d _).mono ?_
  rintro e w2 ⟨rfl, hb2⟩
  by_cases hD : 0 < dsc a b c d
  · go_wp2
    all_goals (go_ret; exact ⟨ret_int (by rw [HS.out, if_pos hD]; simp only [sd1]; (repeat' split) <;> omega), by (repeat' (first | with_reducible exact Below.refl _ _ | with_reducible assumption | with_reducible refine gr_alloc ?_ _ | with_reducible refine gr_drew ?_ | with_reducible refine gr_drewN ?_ _ | with_reducible refine gr_trans ?_ (by assumption) | with_reducible refine gr_set ?_ ?_ _ | (simp; done) | omega | (simp; omega)))⟩)
  · have hD' : decide (0 < dsc a b c d) = false := by simpa using hD
    have HD := hid hD
    clear hD
    go_wp2
    all_goals (go_ret; exact ⟨ret_int (by rw [HS.out, if_neg (by have := HD.out; omega)]; simp only [sd2]; (repeat' split) <;> omega), by (repeat' (first | with_reducible exact Below.refl _ _ | with_reducible assumption | with_reducible refine gr_alloc ?_ _ | with_reducible refine gr_drew ?_ | with_reducible refine gr_drewN ?_ _ | with_reducible refine gr_trans ?_ (by assumption) | with_reducible refine gr_set ?_ ?_ _ | (simp; done) | omega | (simp; omega)))⟩)


theorem mg_lf (s : Bool) (a b c d : Int) : mg1 s a b c d = Red.lf s a b c d ∧ mg2 s a b c d = Red.rt s a b c d ∧ mg3 s a b c d = Red.hg s a b c d := by
  unfold mg1 mg2 mg3 Red.lf Red.rt Red.hg
  cases s <;> simp
theorem mg_in {a b c d : Int} (s : Bool) (h : Red.Bd (a, b, c, d)) : wrap64 (mg1 s a b c d) = Red.lf s a b c d ∧ wrap64 (mg2 s a b c d) = Red.rt s a b c d ∧ wrap64 (mg3 s a b c d) = Red.hg s a b c d := by
  obtain ⟨e1, e2, e3⟩ := mg_lf s a b c d
  rw [e1, e2, e3]
  obtain ⟨ha, hb, hc, hd⟩ := h
  dsimp only at ha hb hc hd
  have bb := mulb hb hb; have ac := mulb (mulb (show -3 ≤ (3 : Int) ∧ (3 : Int) ≤ 3 by omega) ha) hc; have bc := mulb hb hc
  have ad := mulb (mulb (show -9 ≤ (9 : Int) ∧ (9 : Int) ≤ 9 by omega) ha) hd; have cc := mulb hc hc; have bd := mulb (mulb (show -3 ≤ (3 : Int) ∧ (3 : Int) ≤ 3 by omega) hb) hd
  have ad1 := mulb ha hd; have ac1 := mulb ha hc; have dd := mulb hd hd; have aa := mulb ha ha; have bd1 := mulb hb hd
  have mm := mulb (show -2050000000 ≤ a - b ∧ a - b ≤ 2050000000 by omega) (show -2050000000 ≤ a - b ∧ a - b ≤ 2050000000 by omega)
  have pp := mulb (show -2050000000 ≤ a + b ∧ a + b ≤ 2050000000 by omega) (show -2050000000 ≤ a + b ∧ a + b ≤ 2050000000 by omega)
  simp only [Int.reduceMul] at bb ac bc ad cc bd ad1 ac1 dd aa bd1 mm pp
  have n1 := Red.sq0 b; have n2 := Red.sq0 c
  cases s
  · refine ⟨IntWalk.wrap64_in _ ?_, IntWalk.wrap64_in _ ?_, IntWalk.wrap64_in _ ?_⟩ <;> simp only [Red.lf, Red.rt, Red.hg, Bool.false_eq_true, if_false] <;> omega
  · refine ⟨IntWalk.wrap64_in _ ?_, IntWalk.wrap64_in _ ?_, IntWalk.wrap64_in _ ?_⟩ <;> simp only [Red.lf, Red.rt, Red.hg, if_true] <;> omega

theorem iMarginsB_any (t : Red.F4) (n : Int) (h : Red.Bd t) (w : World) :
    Calls Try.prog 118 #[.agg #[.int .i64 t.1, .int .i64 t.2.1, .int .i64 t.2.2.1, .int .i64 t.2.2.2], .int .i64 n] w fun e w' => e = .returned (.tuple #[.int .i64 (Red.lf (decide (0 < n)) t.1 t.2.1 t.2.2.1 t.2.2.2), .int .i64 (Red.rt (decide (0 < n)) t.1 t.2.1 t.2.2.1 t.2.2.2), .int .i64 (Red.hg (decide (0 < n)) t.1 t.2.1 t.2.2.1 t.2.2.2)]) ∧ Below w.heap.size w w' := by
  obtain ⟨a, b, c, d⟩ := t
  obtain ⟨e1, e2, e3⟩ := mg_in (decide (0 < n)) h
  have := iMargins_any a b c d n w
  rw [e1, e2, e3] at this
  exact this
theorem iChangeB_any (t : Red.F4) (s : Bool) (h : Red.Bd t) (w : World) :
    Calls Try.prog 80 #[.agg #[.int .i64 t.1, .int .i64 t.2.1, .int .i64 t.2.2.1, .int .i64 t.2.2.2], .agg #[.int .i64 ((Rd.sm s t).1), .int .i64 ((Rd.sm s t).2.1), .int .i64 ((Rd.sm s t).2.2.1), .int .i64 ((Rd.sm s t).2.2.2)]] w fun e w' => e = .returned (vF (Red.stp s t)) ∧ Below w.heap.size w w' := by
  obtain ⟨a, b, c, d⟩ := t
  obtain ⟨ha, hb, hc, hd⟩ := h
  dsimp only at ha hb hc hd
  have hsm : (-1 ≤ (Rd.sm s (a, b, c, d)).1 ∧ (Rd.sm s (a, b, c, d)).1 ≤ 1) ∧ (-1 ≤ (Rd.sm s (a, b, c, d)).2.1 ∧ (Rd.sm s (a, b, c, d)).2.1 ≤ 1) ∧ (-1 ≤ (Rd.sm s (a, b, c, d)).2.2.1 ∧ (Rd.sm s (a, b, c, d)).2.2.1 ≤ 1) ∧ (-1 ≤ (Rd.sm s (a, b, c, d)).2.2.2 ∧ (Rd.sm s (a, b, c, d)).2.2.2 ≤ 1) := by
    unfold Rd.sm
    split
    · decide
    · split <;> decide
  have hst : Red.stp s (a, b, c, d) = (cA a b c d (Rd.sm s (a, b, c, d)).1 (Rd.sm s (a, b, c, d)).2.2.1, cB a b c d (Rd.sm s (a, b, c, d)).1 (Rd.sm s (a, b, c, d)).2.1 (Rd.sm s (a, b, c, d)).2.2.1 (Rd.sm s (a, b, c, d)).2.2.2, cC a b c d (Rd.sm s (a, b, c, d)).1 (Rd.sm s (a, b, c, d)).2.1 (Rd.sm s (a, b, c, d)).2.2.1 (Rd.sm s (a, b, c, d)).2.2.2, cA a b c d (Rd.sm s (a, b, c, d)).2.1 (Rd.sm s (a, b, c, d)).2.2.2) := by
    unfold Rd.sm Red.stp
    dsimp only
    split
    · refine Prod.ext ?_ (Prod.ext ?_ (Prod.ext ?_ ?_)) <;> simp only [cA, cB, cC, vx] <;> grind
    · split
      · refine Prod.ext ?_ (Prod.ext ?_ (Prod.ext ?_ ?_)) <;> simp only [cA, cB, cC, vx] <;> grind
      · refine Prod.ext ?_ (Prod.ext ?_ (Prod.ext ?_ ?_)) <;> simp only [cA, cB, cC, vx] <;> grind
  rw [hst]
  exact iChange_any a b c d _ _ _ _ 1620000000 1 w (by omega) hb hc (by omega) hsm.1 hsm.2.1 hsm.2.2.1 hsm.2.2.2 (by decide) (by decide)
theorem sSideR (a b c d : Int) (s : Bool) (hs : decide (0 < dsc a b c d) = s) (h : ¬ (Red.lf s a b c d < 0 ∧ Red.rt s a b c d < 0)) : sid a b c d = Rd.sd s (a, b, c, d) := by
  have e2 : -(a - b) * (a - b) = -((a - b) * (a - b)) := by rw [Int.neg_mul]
  unfold sid Rd.sd
  dsimp only
  cases s with
  | true =>
    have hD : 0 < dsc a b c d := by simpa using hs
    rw [if_pos hD]
    simp only [Red.lf, Red.rt, Red.hg, if_true, sd1] at h ⊢
    generalize b * b - 3 * a * c = P at *
    generalize b * c - 9 * a * d = Q at *
    generalize c * c - 3 * b * d = R at *
    (repeat' split) <;> omega
  | false =>
    have hD : ¬ 0 < dsc a b c d := by simpa using hs
    rw [if_neg hD]
    simp only [Red.lf, Red.rt, Red.hg, Bool.false_eq_true, if_false, sd2, e2] at h ⊢
    generalize (a - b) * (a - b) = s at *
    generalize (a + b) * (a + b) = t at *
    generalize a * c = u at *
    generalize a * d = v at *
    generalize b * c = x at *
    generalize d * d = y at *
    generalize a * a = z at *
    generalize b * d = m at *
    (repeat' split) <;> omega

end Go.Proofs.Ytikmjefbjejbkaa
