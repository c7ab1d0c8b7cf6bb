/- Several texts in one: XGm, XGq. -/
import Derived.Test.YtmhlolimaeejfaaDoorZ10
import Derived.Test.YtmhlolimaeejfaaDoorRq
import Derived.Test.YtmhlolimaeejfaaDoorGp

/- Chapter 5: rational roots: exact quotients. Mathematics; no Go function in sight. -/
namespace Go.Proofs.YtmhlolimaeejfaaDoor
open Go.RowKit

theorem cop_dvd {x y z : Int} (hg : Int.gcd x y = 1) (h : y ∣ x * z) : y ∣ z := by
  have hc : Nat.Coprime y.natAbs x.natAbs := by rw [Nat.coprime_comm]; exact hg
  have hn : y.natAbs ∣ x.natAbs * z.natAbs := by rw [← Int.natAbs_mul]; exact Int.natAbs_dvd_natAbs.2 h
  exact Int.natAbs_dvd_natAbs.1 (hc.dvd_of_dvd_mul_left hn)
theorem mul_can {y z : Int} (hy : 1 ≤ y) (h : y * z = 0) : z = 0 := by
  rcases Int.mul_eq_zero.1 h with h | h
  · omega
  · exact h
/-- A linear form, a quadratic, a cubic form that is 0 at x, y is y X - x Y times another one. -/
theorem ex1 {a b x y : Int} (hy : 1 ≤ y) (hg : Int.gcd x y = 1) (h : a * x + b * y = 0) : ∃ a' : Int, a = y * a' ∧ b = -(x * a') := by
  have h1 : y ∣ x * a := ⟨-b, by grind⟩
  obtain ⟨a', rfl⟩ := cop_dvd hg h1
  have h2 : y * (a' * x + b) = 0 := by grind
  have := mul_can hy h2
  exact ⟨a', rfl, by grind⟩
theorem ex2 {a b c x y : Int} (hy : 1 ≤ y) (hg : Int.gcd x y = 1) (h : a * x * x + b * x * y + c * y * y = 0) : ∃ a' b' : Int, a = y * a' ∧ b = y * b' - x * a' ∧ c = -(x * b') := by
  have h1 : y ∣ x * (x * a) := ⟨-(b * x + c * y), by grind⟩
  obtain ⟨a', rfl⟩ := cop_dvd hg (cop_dvd hg h1)
  have h2 : y * ((a' * x + b) * x + c * y) = 0 := by grind
  obtain ⟨b', e1, e2⟩ := ex1 hy hg (mul_can hy h2)
  exact ⟨a', b', rfl, by grind, e2⟩
theorem ex3 {a b c d x y : Int} (hy : 1 ≤ y) (hg : Int.gcd x y = 1) (h : vx a b c d x y = 0) : ∃ a' b' c' : Int, a = y * a' ∧ b = y * b' - x * a' ∧ c = y * c' - x * b' ∧ d = -(x * c') := by
  unfold vx at h
  have h1 : y ∣ x * (x * (x * a)) := ⟨-(b * x * x + c * x * y + d * y * y), by grind⟩
  obtain ⟨a', rfl⟩ := cop_dvd hg (cop_dvd hg (cop_dvd hg h1))
  have h2 : y * ((a' * x + b) * x * x + c * x * y + d * y * y) = 0 := by grind
  obtain ⟨b', c', e1, e2, e3⟩ := ex2 hy hg (mul_can hy h2)
  exact ⟨a', b', c', rfl, by grind, e2, e3⟩
theorem quo_bd {y z B : Int} (hy : 1 ≤ y) (h : -B ≤ y * z ∧ y * z ≤ B) : -B ≤ z ∧ z ≤ B := by
  have h1 : (y * z).natAbs = y.natAbs * z.natAbs := Int.natAbs_mul ..
  have h2 : z.natAbs ≤ y.natAbs * z.natAbs := Nat.le_mul_of_pos_left _ (by omega)
  omega
theorem qt1 {y z B n : Int} (hy : 1 ≤ y) (hB : B ≤ 9000000000000000000) (e : n = y * z) (h : -B ≤ n ∧ n ≤ B) : wrap64 ((wrap64 n).tdiv y) = z := by
  have hz := quo_bd hy (e ▸ h)
  have wn : wrap64 n = n := wr_in (by omega)
  rw [wn, e, Int.mul_tdiv_cancel_left _ (by omega), wr_in (by omega)]
/-- The quotients of the program, where they are exact. -/
theorem dq3 {a b c d x y a' b' c' : Int} (hy : 1 ≤ y) (hx : -1000 ≤ x ∧ x ≤ 1000) (ha : -1000 ≤ a ∧ a ≤ 1000) (hb : -1000 ≤ b ∧ b ≤ 1000) (hc : -1000 ≤ c ∧ c ≤ 1000) (e1 : a = y * a') (e2 : b = y * b' - x * a') (e3 : c = y * c' - x * b') :
    dvd [a, b, c, d] x y = [a', b', c'] ∧ (-1000 ≤ a' ∧ a' ≤ 1000) ∧ (-1001000 ≤ b' ∧ b' ≤ 1001000) ∧ (-1001001000 ≤ c' ∧ c' ≤ 1001001000) := by
  have qa := quo_bd hy (e1 ▸ ha)
  have m1 := mulb hx qa
  have qb := quo_bd (B := 1001000) hy (z := b') (by omega)
  have m2 := mulb hx qb
  have qc := quo_bd (B := 1001001000) hy (z := c') (by omega)
  refine ⟨?_, qa, qb, qc⟩
  have s1 : wrap64 ((pl a (mu x 0)).tdiv y) = a' := by
    simp only [pl, mu, wr_ar, Int.mul_zero, Int.add_zero]
    exact qt1 (B := 1000) hy (by omega) e1 ha
  have s2 : wrap64 ((pl b (mu x a')).tdiv y) = b' := by
    simp only [pl, mu, wr_ar]
    exact qt1 (B := 1001000) hy (by omega) (by omega) (by omega)
  have s3 : wrap64 ((pl c (mu x b')).tdiv y) = c' := by
    simp only [pl, mu, wr_ar]
    exact qt1 (B := 1001001000) hy (by omega) (by omega) (by omega)
  simp only [dvd, show ¬ y = 0 by omega, if_false, List.dropLast, List.foldl, dst, s1, s2, s3, List.nil_append, List.cons_append]
theorem dq2 {a b c x y a' b' : Int} (hy : 1 ≤ y) (hx : -1000 ≤ x ∧ x ≤ 1000) (ha : -1000 ≤ a ∧ a ≤ 1000) (hb : -1001000 ≤ b ∧ b ≤ 1001000) (e1 : a = y * a') (e2 : b = y * b' - x * a') :
    dvd [a, b, c] x y = [a', b'] ∧ (-1000 ≤ a' ∧ a' ≤ 1000) ∧ (-2001000 ≤ b' ∧ b' ≤ 2001000) := by
  have qa := quo_bd hy (e1 ▸ ha)
  have m1 := mulb hx qa
  have qb := quo_bd (B := 2001000) hy (z := b') (by omega)
  refine ⟨?_, qa, qb⟩
  have s1 : wrap64 ((pl a (mu x 0)).tdiv y) = a' := by
    simp only [pl, mu, wr_ar, Int.mul_zero, Int.add_zero]
    exact qt1 (B := 1000) hy (by omega) e1 ha
  have s2 : wrap64 ((pl b (mu x a')).tdiv y) = b' := by
    simp only [pl, mu, wr_ar]
    exact qt1 (B := 2001000) hy (by omega) (by omega) (by omega)
  simp only [dvd, show ¬ y = 0 by omega, if_false, List.dropLast, List.foldl, dst, s1, s2, List.nil_append, List.cons_append]
theorem dq1 {a b x y a' : Int} (hy : 1 ≤ y) (ha : -1000 ≤ a ∧ a ≤ 1000) (e1 : a = y * a') : dvd [a, b] x y = [a'] ∧ (-1000 ≤ a' ∧ a' ≤ 1000) := by
  have qa := quo_bd hy (e1 ▸ ha)
  refine ⟨?_, qa⟩
  have s1 : wrap64 ((pl a (mu x 0)).tdiv y) = a' := by
    simp only [pl, mu, wr_ar, Int.mul_zero, Int.add_zero]
    exact qt1 (B := 1000) hy (by omega) e1 ha
  simp only [dvd, show ¬ y = 0 by omega, if_false, List.dropLast, List.foldl, dst, s1, List.nil_append]
/-- The values of the program. -/
theorem nx3 (a b c d x y : Int) : nva [a, b, c, d] x y = wrap64 (vx a b c d x y) := by
  simp only [nva, List.foldl, nst, pl, mu, wr_al, wr_ar, wr_ml, wr_mr]
  congr 1; unfold vx; grind
theorem nx2 (a b c x y : Int) : nva [a, b, c] x y = wrap64 (a * x * x + b * x * y + c * y * y) := by
  simp only [nva, List.foldl, nst, pl, mu, wr_al, wr_ar, wr_ml, wr_mr]
  congr 1; grind
theorem nx1 (a b x y : Int) : nva [a, b] x y = wrap64 (a * x + b * y) := by
  simp only [nva, List.foldl, nst, pl, mu, wr_al, wr_ar, wr_ml, wr_mr]
  congr 1; grind
theorem nx0 (a x y : Int) : nva [a] x y = wrap64 a := by
  simp only [nva, List.foldl, nst, pl, mu, wr_al, wr_ar]
  congr 1; grind
theorem mul0_0 (n : Int) : mul0 n 0 = decide (n = 0) := by simp [mul0]
/-- The search at a rational place ends; a place is a root where the value is 0. -/
theorem stp_r {a b c d x y : Int} (ha : -1000 ≤ a ∧ a ≤ 1000) (hb : -1000 ≤ b ∧ b ≤ 1000) (hc : -1000 ≤ c ∧ c ≤ 1000) (hd : -1000 ≤ d ∧ d ≤ 1000) (hx : -1000 ≤ x ∧ x ≤ 1000) (hy : 1 ≤ y) (hy' : y ≤ 1000) (hg : Int.gcd x y = 1) (hN : mul0 (cnt a b c d) 0 = false) :
    stp 0 x y 4 [a, b, c, d] = true ∧ (mlt 0 x y 4 [a, b, c, d] = 0 ↔ vx a b c d x y ≠ 0) := by
  have hyy : -1000 ≤ y ∧ y ≤ 1000 := by omega
  have hv := vx_bd (A := 1000) (B := 1000) ha hb hc hd hx hyy
  have n3 : nva [a, b, c, d] x y = vx a b c d x y := by rw [nx3, wr_in (by omega)]
  have hn : ¬ (a = 0 ∧ b = 0 ∧ c = 0 ∧ d = 0) := fun h => by
    obtain ⟨rfl, rfl, rfl, rfl⟩ := h
    simp [mul0, cnt] at hN
  simp only [stp, mlt, n3, mul0_0]
  by_cases h3 : vx a b c d x y = 0
  · obtain ⟨a1, b1, c1, e1, e2, e3, e4⟩ := ex3 hy hg h3
    obtain ⟨q, qa, qb, qc⟩ := dq3 (d := d) hy hx ha hb hc e1 e2 e3
    have m1 := mulb (mulb qa hx) hx
    have m2 := mulb (mulb qb hx) hyy
    have m3 := mulb (mulb qc hyy) hyy
    have n2 : nva [a1, b1, c1] x y = a1 * x * x + b1 * x * y + c1 * y * y := by rw [nx2, wr_in (by omega)]
    simp only [h3, q, n2, decide_true, if_true]
    have hz : ∀ t : Nat, ((t + 1 = 0) ↔ (0 : Int) ≠ 0) := fun t => by simp
    refine ⟨?_, hz _⟩
    by_cases h2 : a1 * x * x + b1 * x * y + c1 * y * y = 0
    · obtain ⟨a2, b2, f1, f2, f3⟩ := ex2 hy hg h2
      obtain ⟨q', ra, rb⟩ := dq2 (c := c1) hy hx qa qb f1 f2
      have m4 := mulb ra hx
      have m5 := mulb rb hyy
      have n1 : nva [a2, b2] x y = a2 * x + b2 * y := by rw [nx1, wr_in (by omega)]
      simp only [h2, q', n1, decide_true, if_true]
      by_cases h1 : a2 * x + b2 * y = 0
      · obtain ⟨a3, g1, g2⟩ := ex1 hy hg h1
        obtain ⟨q'', sa⟩ := dq1 (b := b2) hy ra g1
        have n0 : nva [a3] x y = a3 := by rw [nx0, wr_in (by omega)]
        have h0 : a3 ≠ 0 := fun h0 => by
          have z1 : a2 = 0 := by rw [g1, h0]; simp
          have z2 : b2 = 0 := by rw [g2, h0]; simp
          have z3 : a1 = 0 := by rw [f1, z1]; simp
          have z4 : b1 = 0 := by rw [f2, z1, z2]; simp
          have z5 : c1 = 0 := by rw [f3, z2]; simp
          exact hn ⟨by rw [e1, z3]; simp, by rw [e2, z3, z4]; simp, by rw [e3, z4, z5]; simp, by rw [e4, z5]; simp⟩
        simp only [h1, decide_true, if_true]
        simp
        rw [q'', n0]
        exact h0
      · simp [h1]
    · simp [h2]
  · simp [h3]


end Go.Proofs.YtmhlolimaeejfaaDoor

/- Chapter 5: RationalRoots, the program's. -/
namespace Go.Proofs.YtmhlolimaeejfaaDoor
open Go.RowKit

theorem flS_bd {s : Int × Int} {n : Int} (h : 0 ≤ s.1 ∧ s.1 ≤ 1000 ∧ 0 ≤ s.2 ∧ s.2 ≤ 1000) (hn : -1000 ≤ n ∧ n ≤ 1000) : 0 ≤ (flS s n).1 ∧ (flS s n).1 ≤ 1000 ∧ 0 ≤ (flS s n).2 ∧ (flS s n).2 ≤ 1000 := by
  unfold flS
  split
  · exact h
  · split <;> simp only <;> omega
def fN (a b c d : Int) : Nat := (flK a b c d 4).1.toNat
def lN (a b c d : Int) : Nat := (flK a b c d 4).2.toNat
theorem flK_bd {a b c d : Int} (ha : -1000 ≤ a ∧ a ≤ 1000) (hb : -1000 ≤ b ∧ b ≤ 1000) (hc : -1000 ≤ c ∧ c ≤ 1000) (hd : -1000 ≤ d ∧ d ≤ 1000) : 0 ≤ (flK a b c d 4).1 ∧ (flK a b c d 4).1 ≤ 1000 ∧ 0 ≤ (flK a b c d 4).2 ∧ (flK a b c d 4).2 ≤ 1000 :=
  flS_bd (flS_bd (flS_bd (flS_bd (s := (0, 0)) (by decide) ha) hb) hc) hd
theorem flK_N {a b c d : Int} (ha : -1000 ≤ a ∧ a ≤ 1000) (hb : -1000 ≤ b ∧ b ≤ 1000) (hc : -1000 ≤ c ∧ c ≤ 1000) (hd : -1000 ≤ d ∧ d ≤ 1000) : flK a b c d 4 = ((fN a b c d : Int), (lN a b c d : Int)) ∧ fN a b c d ≤ 1000 ∧ lN a b c d ≤ 1000 := by
  obtain ⟨h1, h2, h3, h4⟩ := flK_bd ha hb hc hd
  unfold fN lN
  exact ⟨Prod.ext (by simp only; omega) (by simp only; omega), by omega, by omega⟩
/-- The places, and the roots among them. -/
def rpl (a b c d : Int) : List (Int × Int) := rpK (fN a b c d) (lN a b c d) (fN a b c d)
def rrt (a b c d : Int) : List (Int × Int × Int) := rts 0 [a, b, c, d] (rpl a b c d)
def rw2 (r : Int × Int × Int) : List Int := [r.1, r.2.1]
theorem mem_xs {L y x : Int} {i : Nat} (h : x ∈ xsK L y i) : -L ≤ x ∧ x < (i : Int) - L ∧ (x = 0 ∨ L % x = 0) ∧ Int.gcd x y = 1 := by
  unfold xsK at h
  obtain ⟨h1, h2⟩ := List.mem_filter.1 h
  obtain ⟨j, hj, rfl⟩ := List.mem_map.1 h1
  have := List.mem_range.1 hj
  simp only [Bool.and_eq_true, Bool.or_eq_true, beq_iff_eq] at h2
  exact ⟨by omega, by omega, h2.1, by omega⟩
theorem mem_rpK {F L : Int} {n : Nat} {q : Int × Int} (h : q ∈ rpK F L n) : q = (1, 0) ∨ (∃ j : Nat, j < n ∧ q.2 = (j : Int) + 1 ∧ F % q.2 = 0 ∧ q.1 ∈ xsK L q.2 (2 * L + 1).toNat) := by
  unfold rpK at h
  rcases List.mem_cons.1 h with h | h
  · exact .inl h
  · obtain ⟨j, hj, h⟩ := List.mem_flatMap.1 h
    unfold rpY at h
    split at h
    · rename_i hF
      obtain ⟨x, hx, rfl⟩ := List.mem_map.1 h
      exact .inr ⟨j, List.mem_range.1 hj, rfl, by simpa using hF, hx⟩
    · cases h
theorem stp_rpl {a b c d : Int} (ha : -1000 ≤ a ∧ a ≤ 1000) (hb : -1000 ≤ b ∧ b ≤ 1000) (hc : -1000 ≤ c ∧ c ≤ 1000) (hd : -1000 ≤ d ∧ d ≤ 1000) (hN : mul0 (cnt a b c d) 0 = false) : ∀ k, (h : k < (rpl a b c d).length) → stp 0 (rpl a b c d)[k].1 (rpl a b c d)[k].2 4 [a, b, c, d] = true := by
  intro k h
  obtain ⟨_, h1, h2⟩ := flK_N ha hb hc hd
  rcases mem_rpK (List.getElem_mem h) with e | ⟨j, hj, hy, _, hx⟩
  · rw [e]; exact (mlt_0 ha hb hc hd hN).2
  · obtain ⟨x1, x2, _, x4⟩ := mem_xs hx
    exact (stp_r ha hb hc hd (by omega) (by omega) (by omega) x4 hN).1
theorem rpl_len (a b c d : Int) (ha : -1000 ≤ a ∧ a ≤ 1000) (hb : -1000 ≤ b ∧ b ≤ 1000) (hc : -1000 ≤ c ∧ c ≤ 1000) (hd : -1000 ≤ d ∧ d ≤ 1000) : (rpl a b c d).length ≤ 2001001 ∧ 0 < (rpl a b c d).length := by
  obtain ⟨_, h1, h2⟩ := flK_N ha hb hc hd
  have h := rpK_len (fN a b c d) (lN a b c d) (fN a b c d)
  have h' : fN a b c d * (2 * (lN a b c d : Int) + 1).toNat ≤ 1000 * 2001 := Nat.mul_le_mul h1 (by omega)
  refine ⟨by unfold rpl; omega, by simp [rpl, rpK]⟩
theorem rrt_len {a b c d : Int} (ha : -1000 ≤ a ∧ a ≤ 1000) (hb : -1000 ≤ b ∧ b ≤ 1000) (hc : -1000 ≤ c ∧ c ≤ 1000) (hd : -1000 ≤ d ∧ d ≤ 1000) : (rrt a b c d).length ≤ 2001001 := by
  unfold rrt; rw [← rtK_e]; have := rtK_len 0 [a, b, c, d] (rpl a b c d) (rpl a b c d).length; have := rpl_len a b c d ha hb hc hd; omega
theorem places_0 (a b c d p : Int) (w : World) (hp : (p == 0) = true) (ha : -1000 ≤ a ∧ a ≤ 1000) (hb : -1000 ≤ b ∧ b ≤ 1000) (hc : -1000 ≤ c ∧ c ≤ 1000) (hd : -1000 ≤ d ∧ d ≤ 1000) : Calls Tryd.prog 66 #[.agg #[.int .i64 a, .int .i64 b, .int .i64 c, .int .i64 d], .int .i64 p] w (PlOut (rpl a b c d) w) := by
  obtain ⟨e, h1, h2⟩ := flK_N ha hb hc hd
  have H := hid (fun W => rationalPlaces_any a b c d _ _ W ha hb hc hd e h1 h2)
  change Hid (∀ W, Calls _ _ _ W (PlOut (rpl a b c d) W)) at H
  generalize rpl a b c d = P at H ⊢
  clear e h1 h2
  have U0 := gr_alloc (Below.refl w.heap.size w) (.cells #[.int .i64 a, .int .i64 b, .int .i64 c, .int .i64 d] 26)
  obtain ⟨_, c0, c1, c2, c3, _⟩ := Arr.new w a b c d 26
  go_enter Tryd.func66, Tryd.ntmps66
  go_wp2_with fail
  refine (H.out _).mono ?_
  rintro e w1 ⟨v, rfl, hO, hb⟩
  go_wp2_with fail
  go_ret
  exact ⟨v, rfl, owns_mono hO U0.size, gr_trans U0 hb⟩
theorem roe_r (a b c d : Int) (w : World) (hF : isF a b c d = true) (hN : mul0 (cnt a b c d) 0 = false) :
    Calls Tryd.prog 29 #[.agg #[.int .i64 a, .int .i64 b, .int .i64 c, .int .i64 d], .int .i64 0] w (RtOk (rrt a b c d).length ((rrt a b c d).flatMap tr3) w) := by
  obtain ⟨ha, hb, hc, hd⟩ := isF_t hF
  have hl := rpl_len a b c d ha hb hc hd
  exact rootsOrError_ok a b c d 0 (rpl a b c d) w (by omega) (by omega) ha hb hc hd (fun W => places_0 a b c d 0 W rfl ha hb hc hd) hl.2 (by omega) hN (stp_rpl ha hb hc hd hN)
theorem roe_rn (a b c d : Int) (pv : Value) (w : World) (hg : Sen w pv) (hF : isF a b c d = true) (hN : mul0 (cnt a b c d) 0 = true) :
    Calls Tryd.prog 29 #[.agg #[.int .i64 a, .int .i64 b, .int .i64 c, .int .i64 d], .int .i64 0] w fun e w' => e = .returned (.tuple #[.slice none 0 0, .iface 105 pv]) ∧ Below w.heap.size w w' := by
  obtain ⟨ha, hb, hc, hd⟩ := isF_t hF
  exact rootsOrError_err a b c d 0 pv w hg (by omega) (by omega) ha hb hc hd hN
/-- The code of RationalRoots. -/
def rrc (a b c d : Int) : Int := if isF a b c d = true then (if mul0 (cnt a b c d) 0 then 5 else 0) else 1
theorem rrc_n {a b c d : Int} (h : isF a b c d = false) : rrc a b c d = 1 := by simp [rrc, h]
theorem rrc_5 {a b c d : Int} (h : isF a b c d = true) (hN : mul0 (cnt a b c d) 0 = true) : rrc a b c d = 5 := by simp [rrc, h, hN]
theorem rrc_0 {a b c d : Int} (h : isF a b c d = true) (hN : mul0 (cnt a b c d) 0 = false) : rrc a b c d = 0 := by simp [rrc, h, hN]




end Go.Proofs.YtmhlolimaeejfaaDoor
