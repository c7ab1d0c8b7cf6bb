/- Chapter 2: which forms are reduced: the model. -/
import Derived.Test.YtipeeljapmiciaaBaC2b
namespace Go.Proofs.Ytipeeljapmiciaa
open Go.RowKit

set_option maxRecDepth 100000 in
set_option maxHeartbeats 2000000 in
theorem sCode1_any (k : Nat) (a b c d : Int) (w : World) (hA : Arr w k a b c d) :
    Calls Try.prog 39 #[.slice (some ⟨k, 0, none⟩) 1 1] w fun e w' => e = .returned (.int .i64 (rcd a b c d)) ∧ Below w.heap.size w w' := by
  have hl := hA.lt
  obtain ⟨_, a0, a1, a2, a3, _⟩ := id hA
  have U0 := Below.refl w.heap.size w
  go_enter Try.func39, Try.ntmps39
  go_wp2_with fail
  refine wp_loop_rounds 2 ?_
  rw [rounds_succ]; go_wp2_with fail
  refine (l01Is_any a b c d _).mono ?_
  rintro e w1 ⟨rfl, hb1⟩
  have A1 := hA.next hb1
  have U1 := gr_trans U0 hb1
  clear a0 a1 a2 a3 hA U0 hl
  by_cases hf : isF a b c d = true
  · have hl := A1.lt
    obtain ⟨_, a0, a1, a2, a3, _⟩ := id A1
    go_wp2_with fail
    rw [rounds_succ]; go_wp2_with fail
    refine wp_loop_rounds 2 ?_
    rw [rounds_succ]; go_wp2_with fail
    refine wp_loop_rounds 5 ?_
    by_cases r0 : rng (-100) 100 a = true
    · rw [rounds_succ]; go_wp2_with (go_at_call 70; refine (l01In_any _ _ _ _).mono ?_; rintro e w2 ⟨rfl, rfl⟩)
      by_cases r1 : rng (-100) 100 b = true
      · rw [rounds_succ]; go_wp2_with (go_at_call 70; refine (l01In_any _ _ _ _).mono ?_; rintro e w2 ⟨rfl, rfl⟩)
        by_cases r2 : rng (-100) 100 c = true
        · rw [rounds_succ]; go_wp2_with (go_at_call 70; refine (l01In_any _ _ _ _).mono ?_; rintro e w2 ⟨rfl, rfl⟩)
          by_cases r3 : rng (-100) 100 d = true
          · rw [rounds_succ]; go_wp2_with (go_at_call 70; refine (l01In_any _ _ _ _).mono ?_; rintro e w2 ⟨rfl, rfl⟩)
            have hr : isR a b c d = true := by simp [isR, r0, r1, r2, r3]
            rw [rounds_succ]; go_wp2_with fail
            rw [rounds_succ]; go_wp2_with fail
            refine wp_loop_rounds 2 ?_
            rw [rounds_succ]; go_wp2_with fail
            have hs := fun W => sDisc0_any a b c d W
            by_cases hd : dsc a b c d = 0
            · rw [hd] at hs
              have HS := hid hs
              have HD := hid hd
              clear hs hd
              refine (HS.out _).mono ?_
              rintro e w3 ⟨rfl, hb3⟩
              go_wp2
              go_ret
              exact ⟨ret_int (by simp [rcd, hf, hr, HD.out]), by (repeat' (first | with_reducible exact Below.refl _ _ | with_reducible assumption | with_reducible refine gr_alloc ?_ _ | with_reducible refine gr_drew ?_ | with_reducible refine gr_drewN ?_ _ | with_reducible refine gr_trans ?_ (by assumption) | with_reducible refine gr_set ?_ ?_ _ | (simp; done) | omega | (simp; omega)))⟩
            · have hd' : (dsc a b c d == 0) = false := by simpa using hd
              have HD := hid hd
              have HS := hid hs
              clear hs hd
              refine (HS.out _).mono ?_
              rintro e w3 ⟨rfl, hb3⟩
              go_wp2_with fail
              rw [rounds_succ]; go_wp2_with fail
              go_ret
              exact ⟨ret_int (by simp [rcd, hf, hr, HD.out]), by (repeat' (first | with_reducible exact Below.refl _ _ | with_reducible assumption | with_reducible refine gr_alloc ?_ _ | with_reducible refine gr_drew ?_ | with_reducible refine gr_drewN ?_ _ | with_reducible refine gr_trans ?_ (by assumption) | with_reducible refine gr_set ?_ ?_ _ | (simp; done) | omega | (simp; omega)))⟩
          · have r3' : rng (-100) 100 d = false := by simpa using r3
            clear r3
            rw [rounds_succ]; go_wp2_with (go_at_call 70; refine (l01In_any _ _ _ _).mono ?_; rintro e w2 ⟨rfl, rfl⟩)
            go_ret
            exact ⟨ret_int (by simp [rcd, hf, isR, r3']), by (repeat' (first | with_reducible exact Below.refl _ _ | with_reducible assumption | with_reducible refine gr_alloc ?_ _ | with_reducible refine gr_drew ?_ | with_reducible refine gr_drewN ?_ _ | with_reducible refine gr_trans ?_ (by assumption) | with_reducible refine gr_set ?_ ?_ _ | (simp; done) | omega | (simp; omega)))⟩
        · have r2' : rng (-100) 100 c = false := by simpa using r2
          clear r2
          rw [rounds_succ]; go_wp2_with (go_at_call 70; refine (l01In_any _ _ _ _).mono ?_; rintro e w2 ⟨rfl, rfl⟩)
          go_ret
          exact ⟨ret_int (by simp [rcd, hf, isR, r2']), by (repeat' (first | with_reducible exact Below.refl _ _ | with_reducible assumption | with_reducible refine gr_alloc ?_ _ | with_reducible refine gr_drew ?_ | with_reducible refine gr_drewN ?_ _ | with_reducible refine gr_trans ?_ (by assumption) | with_reducible refine gr_set ?_ ?_ _ | (simp; done) | omega | (simp; omega)))⟩
      · have r1' : rng (-100) 100 b = false := by simpa using r1
        clear r1
        rw [rounds_succ]; go_wp2_with (go_at_call 70; refine (l01In_any _ _ _ _).mono ?_; rintro e w2 ⟨rfl, rfl⟩)
        go_ret
        exact ⟨ret_int (by simp [rcd, hf, isR, r1']), by (repeat' (first | with_reducible exact Below.refl _ _ | with_reducible assumption | with_reducible refine gr_alloc ?_ _ | with_reducible refine gr_drew ?_ | with_reducible refine gr_drewN ?_ _ | with_reducible refine gr_trans ?_ (by assumption) | with_reducible refine gr_set ?_ ?_ _ | (simp; done) | omega | (simp; omega)))⟩
    · have r0' : rng (-100) 100 a = false := by simpa using r0
      clear r0
      rw [rounds_succ]; go_wp2_with (go_at_call 70; refine (l01In_any _ _ _ _).mono ?_; rintro e w2 ⟨rfl, rfl⟩)
      go_ret
      exact ⟨ret_int (by simp [rcd, hf, isR, r0']), by (repeat' (first | with_reducible exact Below.refl _ _ | with_reducible assumption | with_reducible refine gr_alloc ?_ _ | with_reducible refine gr_drew ?_ | with_reducible refine gr_drewN ?_ _ | with_reducible refine gr_trans ?_ (by assumption) | with_reducible refine gr_set ?_ ?_ _ | (simp; done) | omega | (simp; omega)))⟩
  · have hf' : isF a b c d = false := by simpa using hf
    clear hf
    go_wp2_with fail
    go_ret
    exact ⟨ret_int (by simp [rcd, hf']), by (repeat' (first | with_reducible exact Below.refl _ _ | with_reducible assumption | with_reducible refine gr_alloc ?_ _ | with_reducible refine gr_drew ?_ | with_reducible refine gr_drewN ?_ _ | with_reducible refine gr_trans ?_ (by assumption) | with_reducible refine gr_set ?_ ?_ _ | (simp; done) | omega | (simp; omega)))⟩

/-- The side of a form by its three numbers, or by its five. -/
def sd1 (P Q R : Int) : Int := if Q < -P then 1 else if P < Q then -1 else if R < P then 2 else 0
def sd2 (E U V X Y : Int) : Int := if U < E then 1 else if E < V then -1 else if X < Y then 2 else 0
def sid (a b c d : Int) : Int := if 0 < dsc a b c d then sd1 (b * b - 3 * a * c) (b * c - 9 * a * d) (c * c - 3 * b * d) else sd2 (a * d - b * c) ((a + b) * (a + b) + a * c) (-(a - b) * (a - b) - a * c) (d * d - a * a) (b * d - a * c)

set_option maxRecDepth 100000 in
set_option maxHeartbeats 2000000 in
theorem sSide_any (a b c d : Int) (w : World) (hr : isR a b c d = true) :
    Calls Try.prog 73 #[.agg #[.int .i64 a, .int .i64 b, .int .i64 c, .int .i64 d]] w fun e w' => e = .returned (.int .i64 (sid a b c d)) ∧ Below w.heap.size w w' := by
  obtain ⟨ha, hb, hc, hd⟩ := isR_t hr
  have bb := mulb hb hb; have ac := mulb (mulb (show -3 ≤ (3 : Int) ∧ (3 : Int) ≤ 3 by omega) ha) hc; have bc := mulb hb hc
  have ad := mulb (mulb (show -9 ≤ (9 : Int) ∧ (9 : Int) ≤ 9 by omega) ha) hd; have cc := mulb hc hc; have bd := mulb (mulb (show -3 ≤ (3 : Int) ∧ (3 : Int) ≤ 3 by omega) hb) hd
  have ad1 := mulb ha hd; have ac1 := mulb ha hc; have dd := mulb hd hd; have aa := mulb ha ha; have bd1 := mulb hb hd
  have mm := mulb (show -200 ≤ -(a - b) ∧ -(a - b) ≤ 200 by omega) (show -200 ≤ a - b ∧ a - b ≤ 200 by omega)
  have pp := mulb (show -200 ≤ a + b ∧ a + b ≤ 200 by omega) (show -200 ≤ a + b ∧ a + b ≤ 200 by omega)
  simp only [Int.reduceMul] at bb ac bc ad cc bd ad1 ac1 dd aa bd1 mm pp
  obtain ⟨P, hP⟩ : ∃ P, P = b * b - 3 * a * c := ⟨_, rfl⟩
  obtain ⟨Q, hQ⟩ : ∃ Q, Q = b * c - 9 * a * d := ⟨_, rfl⟩
  obtain ⟨R, hR⟩ : ∃ R, R = c * c - 3 * b * d := ⟨_, rfl⟩
  obtain ⟨E, hE⟩ : ∃ E, E = a * d - b * c := ⟨_, rfl⟩
  obtain ⟨U, hU⟩ : ∃ U, U = (a + b) * (a + b) + a * c := ⟨_, rfl⟩
  obtain ⟨V, hV⟩ : ∃ V, V = -(a - b) * (a - b) - a * c := ⟨_, rfl⟩
  obtain ⟨X, hX⟩ : ∃ X, X = d * d - a * a := ⟨_, rfl⟩
  obtain ⟨Y, hY⟩ : ∃ Y, Y = b * d - a * c := ⟨_, rfl⟩
  have bP : -1000000 ≤ P ∧ P ≤ 1000000 := by omega
  have bQ : -1000000 ≤ Q ∧ Q ≤ 1000000 := by omega
  have bR : -1000000 ≤ R ∧ R ≤ 1000000 := by omega
  have bE : -1000000 ≤ E ∧ E ≤ 1000000 := by omega
  have bU : -1000000 ≤ U ∧ U ≤ 1000000 := by omega
  have bV : -1000000 ≤ V ∧ V ≤ 1000000 := by omega
  have bX : -1000000 ≤ X ∧ X ≤ 1000000 := by omega
  have bY : -1000000 ≤ Y ∧ Y ≤ 1000000 := by omega
  have eP : wrap64 (wrap64 (b * b) - wrap64 (wrap64 (3 * a) * c)) = P := by rw [hP]; simp only [wr_sl, wr_sr, wr_ml]; exact wr_in (by omega)
  have eQ : wrap64 (wrap64 (b * c) - wrap64 (wrap64 (9 * a) * d)) = Q := by rw [hQ]; simp only [wr_sl, wr_sr, wr_ml]; exact wr_in (by omega)
  have eR : wrap64 (wrap64 (c * c) - wrap64 (wrap64 (3 * b) * d)) = R := by rw [hR]; simp only [wr_sl, wr_sr, wr_ml]; exact wr_in (by omega)
  have eE : wrap64 (wrap64 (a * d) - wrap64 (b * c)) = E := by rw [hE]; simp only [wr_sl, wr_sr]; exact wr_in (by omega)
  have eU : wrap64 (wrap64 (wrap64 (a + b) * wrap64 (a + b)) + wrap64 (a * c)) = U := by rw [hU]; simp only [wr_al, wr_ar, wr_ml, wr_mr]; exact wr_in (by omega)
  have eV : wrap64 (wrap64 (wrap64 (-wrap64 (a - b)) * wrap64 (a - b)) - wrap64 (a * c)) = V := by rw [hV]; simp only [wr_sl, wr_sr, wr_ml, wr_mr, wr_n]; exact wr_in (by omega)
  have eX : wrap64 (wrap64 (d * d) - wrap64 (a * a)) = X := by rw [hX]; simp only [wr_sl, wr_sr]; exact wr_in (by omega)
  have eY : wrap64 (wrap64 (b * d) - wrap64 (a * c)) = Y := by rw [hY]; simp only [wr_sl, wr_sr]; exact wr_in (by omega)
  have eS : sid a b c d = if 0 < dsc a b c d then sd1 P Q R else sd2 E U V X Y := by rw [hP, hQ, hR, hE, hU, hV, hX, hY]; rfl
  have HS := hid eS
  clear ha hb hc hd bb ac bc ad cc bd ad1 ac1 dd aa bd1 mm pp hP hQ hR hE hU hV hX hY eS hr
  obtain ⟨bP1, bP2⟩ := bP; obtain ⟨bQ1, bQ2⟩ := bQ; obtain ⟨bR1, bR2⟩ := bR; obtain ⟨bE1, bE2⟩ := bE; obtain ⟨bU1, bU2⟩ := bU; obtain ⟨bV1, bV2⟩ := bV; obtain ⟨bX1, bX2⟩ := bX; obtain ⟨bY1, bY2⟩ := bY
  have A0 := Arr.new w a b c d 23
  have U0 := gr_alloc (Below.refl w.heap.size w) (.cells #[.int .i64 a, .int .i64 b, .int .i64 c, .int .i64 d] 23)
  go_enter Try.func73, Try.ntmps73
  go_upto_region 1 with fail
  generalize w.alloc (.cells #[.int .i64 a, .int .i64 b, .int .i64 c, .int .i64 d] 23) = W0 at A0 U0 ⊢
  obtain ⟨_, a0, a1, a2, a3, _⟩ := id A0
  go_quiet (fail)
  have A1 := A0.drewN nq
  have U1 := gr_drewN U0 nq
  clear a0 a1 a2 a3 A0 U0
  generalize W0.drewN nq = W1 at A1 U1 ⊢
  obtain ⟨_, a0, a1, a2, a3, _⟩ := id A1
  go_wp2_with fail
  refine (sDisc0_any a b c d _).mono ?_
  rintro e w2 ⟨rfl, hb2⟩
  by_cases hD : 0 < dsc a b c d
  · go_wp2
    all_goals (go_ret; exact ⟨ret_int (by rw [HS.out, if_pos hD]; simp only [sd1]; (repeat' split) <;> omega), by (repeat' (first | with_reducible exact Below.refl _ _ | with_reducible assumption | with_reducible refine gr_alloc ?_ _ | with_reducible refine gr_drew ?_ | with_reducible refine gr_drewN ?_ _ | with_reducible refine gr_trans ?_ (by assumption) | with_reducible refine gr_set ?_ ?_ _ | (simp; done) | omega | (simp; omega)))⟩)
  · have hD' : decide (0 < dsc a b c d) = false := by simpa using hD
    have HD := hid hD
    clear hD
    go_wp2
    all_goals (go_ret; exact ⟨ret_int (by rw [HS.out, if_neg (by have := HD.out; omega)]; simp only [sd2]; (repeat' split) <;> omega), by (repeat' (first | with_reducible exact Below.refl _ _ | with_reducible assumption | with_reducible refine gr_alloc ?_ _ | with_reducible refine gr_drew ?_ | with_reducible refine gr_drewN ?_ _ | with_reducible refine gr_trans ?_ (by assumption) | with_reducible refine gr_set ?_ ?_ _ | (simp; done) | omega | (simp; omega)))⟩)

theorem sid_rdd {a b c d : Int} : (sid a b c d == 0) = rdd a b c d := by
  have e1 : (a + b) * (a + b) + a * c - (a * d - b * c) = ((a + b) * (a + b) + a * c) - (a * d - b * c) := rfl
  have e2 : -(a - b) * (a - b) = -((a - b) * (a - b)) := by rw [Int.neg_mul]
  rw [Bool.eq_iff_iff]
  unfold sid rdd nn3 mg1 mg2 mg3
  by_cases hD : 0 < dsc a b c d
  · simp only [hD, if_true, decide_true, sd1, beq_iff_eq, Bool.and_eq_true, decide_eq_true_eq]
    generalize b * b - 3 * a * c = P
    generalize b * c - 9 * a * d = Q
    generalize c * c - 3 * b * d = R
    (repeat' split) <;> omega
  · simp only [hD, if_false, decide_false, Bool.false_eq_true, sd2, beq_iff_eq, Bool.and_eq_true, decide_eq_true_eq, e2]
    generalize (a - b) * (a - b) = s
    generalize (a + b) * (a + b) = t
    generalize a * c = u
    generalize a * d = v
    generalize b * c = x
    generalize d * d = y
    generalize a * a = z
    generalize b * d = m
    (repeat' split) <;> omega



end Go.Proofs.Ytipeeljapmiciaa
