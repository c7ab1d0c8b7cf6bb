/- Several texts in one: XGm, XGq, XGd, XGr, XGt. -/
import Derived.Test.YtihcmgjfkiaelaaDoorZ11
import Derived.Test.YtihcmgjfkiaelaaDoorZ12
import Derived.Test.YtihcmgjfkiaelaaDoorGp
import Derived.Test.YtihcmgjfkiaelaaDoorZ7

/- Chapter 5: rational roots: exact quotients. Mathematics; no Go function in sight. -/
namespace Go.Proofs.YtihcmgjfkiaelaaDoor
open Go.RowKit

theorem cop_dvd {x y z : Int} (hg : Int.gcd x y = 1) (h : y ∣ x * z) : y ∣ z := by
  have hc : Nat.Coprime y.natAbs x.natAbs := by rw [Nat.coprime_comm]; exact hg
  have hn : y.natAbs ∣ x.natAbs * z.natAbs := by rw [← Int.natAbs_mul]; exact Int.natAbs_dvd_natAbs.2 h
  exact Int.natAbs_dvd_natAbs.1 (hc.dvd_of_dvd_mul_left hn)
theorem mul_can {y z : Int} (hy : 1 ≤ y) (h : y * z = 0) : z = 0 := by
  rcases Int.mul_eq_zero.1 h with h | h
  · omega
  · exact h
/-- A linear form, a quadratic, a cubic form that is 0 at x, y is y X - x Y times another one. -/
theorem ex1 {a b x y : Int} (hy : 1 ≤ y) (hg : Int.gcd x y = 1) (h : a * x + b * y = 0) : ∃ a' : Int, a = y * a' ∧ b = -(x * a') := by
  have h1 : y ∣ x * a := ⟨-b, by grind⟩
  obtain ⟨a', rfl⟩ := cop_dvd hg h1
  have h2 : y * (a' * x + b) = 0 := by grind
  have := mul_can hy h2
  exact ⟨a', rfl, by grind⟩
theorem ex2 {a b c x y : Int} (hy : 1 ≤ y) (hg : Int.gcd x y = 1) (h : a * x * x + b * x * y + c * y * y = 0) : ∃ a' b' : Int, a = y * a' ∧ b = y * b' - x * a' ∧ c = -(x * b') := by
  have h1 : y ∣ x * (x * a) := ⟨-(b * x + c * y), by grind⟩
  obtain ⟨a', rfl⟩ := cop_dvd hg (cop_dvd hg h1)
  have h2 : y * ((a' * x + b) * x + c * y) = 0 := by grind
  obtain ⟨b', e1, e2⟩ := ex1 hy hg (mul_can hy h2)
  exact ⟨a', b', rfl, by grind, e2⟩
theorem ex3 {a b c d x y : Int} (hy : 1 ≤ y) (hg : Int.gcd x y = 1) (h : vx a b c d x y = 0) : ∃ a' b' c' : Int, a = y * a' ∧ b = y * b' - x * a' ∧ c = y * c' - x * b' ∧ d = -(x * c') := by
  unfold vx at h
  have h1 : y ∣ x * (x * (x * a)) := ⟨-(b * x * x + c * x * y + d * y * y), by grind⟩
  obtain ⟨a', rfl⟩ := cop_dvd hg (cop_dvd hg (cop_dvd hg h1))
  have h2 : y * ((a' * x + b) * x * x + c * x * y + d * y * y) = 0 := by grind
  obtain ⟨b', c', e1, e2, e3⟩ := ex2 hy hg (mul_can hy h2)
  exact ⟨a', b', c', rfl, by grind, e2, e3⟩
theorem quo_bd {y z B : Int} (hy : 1 ≤ y) (h : -B ≤ y * z ∧ y * z ≤ B) : -B ≤ z ∧ z ≤ B := by
  have h1 : (y * z).natAbs = y.natAbs * z.natAbs := Int.natAbs_mul ..
  have h2 : z.natAbs ≤ y.natAbs * z.natAbs := Nat.le_mul_of_pos_left _ (by omega)
  omega
theorem qt1 {y z B n : Int} (hy : 1 ≤ y) (hB : B ≤ 9000000000000000000) (e : n = y * z) (h : -B ≤ n ∧ n ≤ B) : wrap64 ((wrap64 n).tdiv y) = z := by
  have hz := quo_bd hy (e ▸ h)
  have wn : wrap64 n = n := wr_in (by omega)
  rw [wn, e, Int.mul_tdiv_cancel_left _ (by omega), wr_in (by omega)]
/-- The quotients of the program, where they are exact. -/
theorem dq3 {a b c d x y a' b' c' : Int} (hy : 1 ≤ y) (hx : -1000 ≤ x ∧ x ≤ 1000) (ha : -1000 ≤ a ∧ a ≤ 1000) (hb : -1000 ≤ b ∧ b ≤ 1000) (hc : -1000 ≤ c ∧ c ≤ 1000) (e1 : a = y * a') (e2 : b = y * b' - x * a') (e3 : c = y * c' - x * b') :
    dvd [a, b, c, d] x y = [a', b', c'] ∧ (-1000 ≤ a' ∧ a' ≤ 1000) ∧ (-1001000 ≤ b' ∧ b' ≤ 1001000) ∧ (-1001001000 ≤ c' ∧ c' ≤ 1001001000) := by
  have qa := quo_bd hy (e1 ▸ ha)
  have m1 := mulb hx qa
  have qb := quo_bd (B := 1001000) hy (z := b') (by omega)
  have m2 := mulb hx qb
  have qc := quo_bd (B := 1001001000) hy (z := c') (by omega)
  refine ⟨?_, qa, qb, qc⟩
  have s1 : wrap64 ((pl a (mu x 0)).tdiv y) = a' := by
    simp only [pl, mu, wr_ar, Int.mul_zero, Int.add_zero]
    exact qt1 (B := 1000) hy (by omega) e1 ha
  have s2 : wrap64 ((pl b (mu x a')).tdiv y) = b' := by
    simp only [pl, mu, wr_ar]
    exact qt1 (B := 1001000) hy (by omega) (by omega) (by omega)
  have s3 : wrap64 ((pl c (mu x b')).tdiv y) = c' := by
    simp only [pl, mu, wr_ar]
    exact qt1 (B := 1001001000) hy (by omega) (by omega) (by omega)
  simp only [dvd, show ¬ y = 0 by omega, if_false, List.dropLast, List.foldl, dst, s1, s2, s3, List.nil_append, List.cons_append]
theorem dq2 {a b c x y a' b' : Int} (hy : 1 ≤ y) (hx : -1000 ≤ x ∧ x ≤ 1000) (ha : -1000 ≤ a ∧ a ≤ 1000) (hb : -1001000 ≤ b ∧ b ≤ 1001000) (e1 : a = y * a') (e2 : b = y * b' - x * a') :
    dvd [a, b, c] x y = [a', b'] ∧ (-1000 ≤ a' ∧ a' ≤ 1000) ∧ (-2001000 ≤ b' ∧ b' ≤ 2001000) := by
  have qa := quo_bd hy (e1 ▸ ha)
  have m1 := mulb hx qa
  have qb := quo_bd (B := 2001000) hy (z := b') (by omega)
  refine ⟨?_, qa, qb⟩
  have s1 : wrap64 ((pl a (mu x 0)).tdiv y) = a' := by
    simp only [pl, mu, wr_ar, Int.mul_zero, Int.add_zero]
    exact qt1 (B := 1000) hy (by omega) e1 ha
  have s2 : wrap64 ((pl b (mu x a')).tdiv y) = b' := by
    simp only [pl, mu, wr_ar]
    exact qt1 (B := 2001000) hy (by omega) (by omega) (by omega)
  simp only [dvd, show ¬ y = 0 by omega, if_false, List.dropLast, List.foldl, dst, s1, s2, List.nil_append, List.cons_append]
theorem dq1 {a b x y a' : Int} (hy : 1 ≤ y) (ha : -1000 ≤ a ∧ a ≤ 1000) (e1 : a = y * a') : dvd [a, b] x y = [a'] ∧ (-1000 ≤ a' ∧ a' ≤ 1000) := by
  have qa := quo_bd hy (e1 ▸ ha)
  refine ⟨?_, qa⟩
  have s1 : wrap64 ((pl a (mu x 0)).tdiv y) = a' := by
    simp only [pl, mu, wr_ar, Int.mul_zero, Int.add_zero]
    exact qt1 (B := 1000) hy (by omega) e1 ha
  simp only [dvd, show ¬ y = 0 by omega, if_false, List.dropLast, List.foldl, dst, s1, List.nil_append]
/-- The values of the program. -/
theorem nx3 (a b c d x y : Int) : nva [a, b, c, d] x y = wrap64 (vx a b c d x y) := by
  simp only [nva, List.foldl, nst, pl, mu, wr_al, wr_ar, wr_ml, wr_mr]
  congr 1; unfold vx; grind
theorem nx2 (a b c x y : Int) : nva [a, b, c] x y = wrap64 (a * x * x + b * x * y + c * y * y) := by
  simp only [nva, List.foldl, nst, pl, mu, wr_al, wr_ar, wr_ml, wr_mr]
  congr 1; grind
theorem nx1 (a b x y : Int) : nva [a, b] x y = wrap64 (a * x + b * y) := by
  simp only [nva, List.foldl, nst, pl, mu, wr_al, wr_ar, wr_ml, wr_mr]
  congr 1; grind
theorem nx0 (a x y : Int) : nva [a] x y = wrap64 a := by
  simp only [nva, List.foldl, nst, pl, mu, wr_al, wr_ar]
  congr 1; grind
theorem mul0_0 (n : Int) : mul0 n 0 = decide (n = 0) := by simp [mul0]
/-- The search at a rational place ends; a place is a root where the value is 0. -/
theorem stp_r {a b c d x y : Int} (ha : -1000 ≤ a ∧ a ≤ 1000) (hb : -1000 ≤ b ∧ b ≤ 1000) (hc : -1000 ≤ c ∧ c ≤ 1000) (hd : -1000 ≤ d ∧ d ≤ 1000) (hx : -1000 ≤ x ∧ x ≤ 1000) (hy : 1 ≤ y) (hy' : y ≤ 1000) (hg : Int.gcd x y = 1) (hN : mul0 (cnt a b c d) 0 = false) :
    stp 0 x y 4 [a, b, c, d] = true ∧ (mlt 0 x y 4 [a, b, c, d] = 0 ↔ vx a b c d x y ≠ 0) := by
  have hyy : -1000 ≤ y ∧ y ≤ 1000 := by omega
  have hv := vx_bd (A := 1000) (B := 1000) ha hb hc hd hx hyy
  have n3 : nva [a, b, c, d] x y = vx a b c d x y := by rw [nx3, wr_in (by omega)]
  have hn : ¬ (a = 0 ∧ b = 0 ∧ c = 0 ∧ d = 0) := fun h => by
    obtain ⟨rfl, rfl, rfl, rfl⟩ := h
    simp [mul0, cnt] at hN
  simp only [stp, mlt, n3, mul0_0]
  by_cases h3 : vx a b c d x y = 0
  · obtain ⟨a1, b1, c1, e1, e2, e3, e4⟩ := ex3 hy hg h3
    obtain ⟨q, qa, qb, qc⟩ := dq3 (d := d) hy hx ha hb hc e1 e2 e3
    have m1 := mulb (mulb qa hx) hx
    have m2 := mulb (mulb qb hx) hyy
    have m3 := mulb (mulb qc hyy) hyy
    have n2 : nva [a1, b1, c1] x y = a1 * x * x + b1 * x * y + c1 * y * y := by rw [nx2, wr_in (by omega)]
    simp only [h3, q, n2, decide_true, if_true]
    have hz : ∀ t : Nat, ((t + 1 = 0) ↔ (0 : Int) ≠ 0) := fun t => by simp
    refine ⟨?_, hz _⟩
    by_cases h2 : a1 * x * x + b1 * x * y + c1 * y * y = 0
    · obtain ⟨a2, b2, f1, f2, f3⟩ := ex2 hy hg h2
      obtain ⟨q', ra, rb⟩ := dq2 (c := c1) hy hx qa qb f1 f2
      have m4 := mulb ra hx
      have m5 := mulb rb hyy
      have n1 : nva [a2, b2] x y = a2 * x + b2 * y := by rw [nx1, wr_in (by omega)]
      simp only [h2, q', n1, decide_true, if_true]
      by_cases h1 : a2 * x + b2 * y = 0
      · obtain ⟨a3, g1, g2⟩ := ex1 hy hg h1
        obtain ⟨q'', sa⟩ := dq1 (b := b2) hy ra g1
        have n0 : nva [a3] x y = a3 := by rw [nx0, wr_in (by omega)]
        have h0 : a3 ≠ 0 := fun h0 => by
          have z1 : a2 = 0 := by rw [g1, h0]; simp
          have z2 : b2 = 0 := by rw [g2, h0]; simp
          have z3 : a1 = 0 := by rw [f1, z1]; simp
          have z4 : b1 = 0 := by rw [f2, z1, z2]; simp
          have z5 : c1 = 0 := by rw [f3, z2]; simp
          exact hn ⟨by rw [e1, z3]; simp, by rw [e2, z3, z4]; simp, by rw [e3, z4, z5]; simp, by rw [e4, z5]; simp⟩
        simp only [h1, decide_true, if_true]
        simp
        rw [q'', n0]
        exact h0
      · simp [h1]
    · simp [h2]
  · simp [h3]


end Go.Proofs.YtihcmgjfkiaelaaDoor

/- Chapter 5: RationalRoots, the program's. -/
namespace Go.Proofs.YtihcmgjfkiaelaaDoor
open Go.RowKit

theorem flS_bd {s : Int × Int} {n : Int} (h : 0 ≤ s.1 ∧ s.1 ≤ 1000 ∧ 0 ≤ s.2 ∧ s.2 ≤ 1000) (hn : -1000 ≤ n ∧ n ≤ 1000) : 0 ≤ (flS s n).1 ∧ (flS s n).1 ≤ 1000 ∧ 0 ≤ (flS s n).2 ∧ (flS s n).2 ≤ 1000 := by
  unfold flS
  split
  · exact h
  · split <;> simp only <;> omega
def fN (a b c d : Int) : Nat := (flK a b c d 4).1.toNat
def lN (a b c d : Int) : Nat := (flK a b c d 4).2.toNat
theorem flK_bd {a b c d : Int} (ha : -1000 ≤ a ∧ a ≤ 1000) (hb : -1000 ≤ b ∧ b ≤ 1000) (hc : -1000 ≤ c ∧ c ≤ 1000) (hd : -1000 ≤ d ∧ d ≤ 1000) : 0 ≤ (flK a b c d 4).1 ∧ (flK a b c d 4).1 ≤ 1000 ∧ 0 ≤ (flK a b c d 4).2 ∧ (flK a b c d 4).2 ≤ 1000 :=
  flS_bd (flS_bd (flS_bd (flS_bd (s := (0, 0)) (by decide) ha) hb) hc) hd
theorem flK_N {a b c d : Int} (ha : -1000 ≤ a ∧ a ≤ 1000) (hb : -1000 ≤ b ∧ b ≤ 1000) (hc : -1000 ≤ c ∧ c ≤ 1000) (hd : -1000 ≤ d ∧ d ≤ 1000) : flK a b c d 4 = ((fN a b c d : Int), (lN a b c d : Int)) ∧ fN a b c d ≤ 1000 ∧ lN a b c d ≤ 1000 := by
  obtain ⟨h1, h2, h3, h4⟩ := flK_bd ha hb hc hd
  unfold fN lN
  exact ⟨Prod.ext (by simp only; omega) (by simp only; omega), by omega, by omega⟩
/-- The places, and the roots among them. -/
def rpl (a b c d : Int) : List (Int × Int) := rpK (fN a b c d) (lN a b c d) (fN a b c d)
def rrt (a b c d : Int) : List (Int × Int × Int) := rts 0 [a, b, c, d] (rpl a b c d)
def rw2 (r : Int × Int × Int) : List Int := [r.1, r.2.1]
theorem mem_xs {L y x : Int} {i : Nat} (h : x ∈ xsK L y i) : -L ≤ x ∧ x < (i : Int) - L ∧ (x = 0 ∨ L % x = 0) ∧ Int.gcd x y = 1 := by
  unfold xsK at h
  obtain ⟨h1, h2⟩ := List.mem_filter.1 h
  obtain ⟨j, hj, rfl⟩ := List.mem_map.1 h1
  have := List.mem_range.1 hj
  simp only [Bool.and_eq_true, Bool.or_eq_true, beq_iff_eq] at h2
  exact ⟨by omega, by omega, h2.1, by omega⟩
theorem mem_rpK {F L : Int} {n : Nat} {q : Int × Int} (h : q ∈ rpK F L n) : q = (1, 0) ∨ (∃ j : Nat, j < n ∧ q.2 = (j : Int) + 1 ∧ F % q.2 = 0 ∧ q.1 ∈ xsK L q.2 (2 * L + 1).toNat) := by
  unfold rpK at h
  rcases List.mem_cons.1 h with h | h
  · exact .inl h
  · obtain ⟨j, hj, h⟩ := List.mem_flatMap.1 h
    unfold rpY at h
    split at h
    · rename_i hF
      obtain ⟨x, hx, rfl⟩ := List.mem_map.1 h
      exact .inr ⟨j, List.mem_range.1 hj, rfl, by simpa using hF, hx⟩
    · cases h
theorem stp_rpl {a b c d : Int} (ha : -1000 ≤ a ∧ a ≤ 1000) (hb : -1000 ≤ b ∧ b ≤ 1000) (hc : -1000 ≤ c ∧ c ≤ 1000) (hd : -1000 ≤ d ∧ d ≤ 1000) (hN : mul0 (cnt a b c d) 0 = false) : ∀ k, (h : k < (rpl a b c d).length) → stp 0 (rpl a b c d)[k].1 (rpl a b c d)[k].2 4 [a, b, c, d] = true := by
  intro k h
  obtain ⟨_, h1, h2⟩ := flK_N ha hb hc hd
  rcases mem_rpK (List.getElem_mem h) with e | ⟨j, hj, hy, _, hx⟩
  · rw [e]; exact (mlt_0 ha hb hc hd hN).2
  · obtain ⟨x1, x2, _, x4⟩ := mem_xs hx
    exact (stp_r ha hb hc hd (by omega) (by omega) (by omega) x4 hN).1
theorem rpl_len (a b c d : Int) (ha : -1000 ≤ a ∧ a ≤ 1000) (hb : -1000 ≤ b ∧ b ≤ 1000) (hc : -1000 ≤ c ∧ c ≤ 1000) (hd : -1000 ≤ d ∧ d ≤ 1000) : (rpl a b c d).length ≤ 2001001 ∧ 0 < (rpl a b c d).length := by
  obtain ⟨_, h1, h2⟩ := flK_N ha hb hc hd
  have h := rpK_len (fN a b c d) (lN a b c d) (fN a b c d)
  have h' : fN a b c d * (2 * (lN a b c d : Int) + 1).toNat ≤ 1000 * 2001 := Nat.mul_le_mul h1 (by omega)
  refine ⟨by unfold rpl; omega, by simp [rpl, rpK]⟩
theorem rrt_len {a b c d : Int} (ha : -1000 ≤ a ∧ a ≤ 1000) (hb : -1000 ≤ b ∧ b ≤ 1000) (hc : -1000 ≤ c ∧ c ≤ 1000) (hd : -1000 ≤ d ∧ d ≤ 1000) : (rrt a b c d).length ≤ 2001001 := by
  unfold rrt; rw [← rtK_e]; have := rtK_len 0 [a, b, c, d] (rpl a b c d) (rpl a b c d).length; have := rpl_len a b c d ha hb hc hd; omega
theorem places_0 (a b c d p : Int) (w : World) (hp : (p == 0) = true) (ha : -1000 ≤ a ∧ a ≤ 1000) (hb : -1000 ≤ b ∧ b ≤ 1000) (hc : -1000 ≤ c ∧ c ≤ 1000) (hd : -1000 ≤ d ∧ d ≤ 1000) : Calls Tryd.prog 118 #[.agg #[.int .i64 a, .int .i64 b, .int .i64 c, .int .i64 d], .int .i64 p] w (PlOut (rpl a b c d) w) := by
  obtain ⟨e, h1, h2⟩ := flK_N ha hb hc hd
  have H := hid (fun W => rationalPlaces_any a b c d _ _ W ha hb hc hd e h1 h2)
  change Hid (∀ W, Calls _ _ _ W (PlOut (rpl a b c d) W)) at H
  generalize rpl a b c d = P at H ⊢
  clear e h1 h2
  have U0 := gr_alloc (Below.refl w.heap.size w) (.cells #[.int .i64 a, .int .i64 b, .int .i64 c, .int .i64 d] 25)
  obtain ⟨_, c0, c1, c2, c3, _⟩ := Arr.new w a b c d 25
  go_enter Tryd.func118, Tryd.ntmps118
  go_wp2_with fail
  refine (H.out _).mono ?_
  rintro e w1 ⟨v, rfl, hO, hb⟩
  go_wp2_with fail
  go_ret
  exact ⟨v, rfl, owns_mono hO U0.size, gr_trans U0 hb⟩
theorem roe_r (a b c d : Int) (w : World) (hF : isF a b c d = true) (hN : mul0 (cnt a b c d) 0 = false) :
    Calls Tryd.prog 93 #[.agg #[.int .i64 a, .int .i64 b, .int .i64 c, .int .i64 d], .int .i64 0] w (RtOk (rrt a b c d).length ((rrt a b c d).flatMap tr3) w) := by
  obtain ⟨ha, hb, hc, hd⟩ := isF_t hF
  have hl := rpl_len a b c d ha hb hc hd
  exact rootsOrError_ok a b c d 0 (rpl a b c d) w (by omega) (by omega) ha hb hc hd (fun W => places_0 a b c d 0 W rfl ha hb hc hd) hl.2 (by omega) hN (stp_rpl ha hb hc hd hN)
theorem roe_rn (a b c d : Int) (pv : Value) (w : World) (hg : Sen w pv) (hF : isF a b c d = true) (hN : mul0 (cnt a b c d) 0 = true) :
    Calls Tryd.prog 93 #[.agg #[.int .i64 a, .int .i64 b, .int .i64 c, .int .i64 d], .int .i64 0] w fun e w' => e = .returned (.tuple #[.slice none 0 0, .iface 130 pv]) ∧ Below w.heap.size w w' := by
  obtain ⟨ha, hb, hc, hd⟩ := isF_t hF
  exact rootsOrError_err a b c d 0 pv w hg (by omega) (by omega) ha hb hc hd hN
/-- The code of RationalRoots. -/
def rrc (a b c d : Int) : Int := if isF a b c d = true then (if mul0 (cnt a b c d) 0 then 5 else 0) else 1
theorem rrc_n {a b c d : Int} (h : isF a b c d = false) : rrc a b c d = 1 := by simp [rrc, h]
theorem rrc_5 {a b c d : Int} (h : isF a b c d = true) (hN : mul0 (cnt a b c d) 0 = true) : rrc a b c d = 5 := by simp [rrc, h, hN]
theorem rrc_0 {a b c d : Int} (h : isF a b c d = true) (hN : mul0 (cnt a b c d) 0 = false) : rrc a b c d = 0 := by simp [rrc, h, hN]




end Go.Proofs.YtihcmgjfkiaelaaDoor

/- Chapter 5: divisors, the model's. -/
namespace Go.Proofs.YtihcmgjfkiaelaaDoor
open Go.RowKit

/-- The divisors of D among 1, .., k. -/
def dvK (D : Int) (k : Nat) : List Int := ((List.range k).map fun j : Nat => (j : Int) + 1).filter fun y => D % y == 0
theorem dvK_s (D : Int) (k : Nat) : dvK D (k + 1) = dvK D k ++ (if (D % ((k : Int) + 1) == 0) = true then [(k : Int) + 1] else []) := by
  unfold dvK
  rw [List.range_succ, List.map_append, List.filter_append]
  simp [List.filter_cons]
theorem dvK_t {D : Int} {k : Nat} (h : (D % ((k : Int) + 1) == 0) = true) : dvK D (k + 1) = dvK D k ++ [(k : Int) + 1] := by rw [dvK_s, if_pos h]
theorem dvK_f {D : Int} {k : Nat} (h : (D % ((k : Int) + 1) == 0) = false) : dvK D (k + 1) = dvK D k := by rw [dvK_s, h]; simp
theorem dvK_len (D : Int) (k : Nat) : (dvK D k).length ≤ k := by
  have := List.length_filter_le (fun y : Int => D % y == 0) ((List.range k).map fun j : Nat => (j : Int) + 1)
  simpa [dvK] using this
theorem dv_app {w : World} {B : Nat} {t : TypeId} {v : Value} {D : Int} {k : Nat} (hp : dvK D (k + 1) = dvK D k ++ [(k : Int) + 1]) (h : w.ownsRow B t 1 v ((dvK D k).length + 1) ((dvK D k).map (Value.int .i64) ++ [.int .i64 ((k : Int) + 1)])) : w.ownsRow B t 1 v (dvK D (k + 1)).length ((dvK D (k + 1)).map (Value.int .i64)) := by
  rw [hp]; simpa using h

/-- A row of integers of the call's own. -/
def DvOut (L : List Int) (w : World) (e : Ending) (w' : World) : Prop := ∃ v, e = .returned v ∧ w'.ownsRow w.heap.size 2 1 v L.length (L.map (Value.int .i64)) ∧ Below w.heap.size w w'

set_option maxRecDepth 100000 in
set_option maxHeartbeats 1000000 in
theorem l05Divisors_any (n : Int) (N : Nat) (w : World) (h0 : -1000 ≤ n) (h1 : n ≤ 1000) (hN : N = n.natAbs) : Calls Tryd.prog 109 #[.int .i64 n] w (DvOut (dvK N N) w) := by
  have hcase : (n < -n ∧ -n = (N : Int)) ∨ (¬ n < -n ∧ n = (N : Int)) := by omega
  have hN' : N ≤ 1000 := by omega
  have O0 := owns_empty w w.heap.size 2 1 (Nat.le_refl _)
  have U0 := gr_alloc (Below.refl w.heap.size w) (.cells #[] 2)
  obtain ⟨i0, hi, hi0, hi1, hi2⟩ := info_parts info_l64
  have HI := hid hi; have HZ0 := hid hi0; have HZ1 := hid hi1; have HZ2 := hid hi2
  clear hi hi0 hi1 hi2 hN
  go_enter Tryd.func109, Tryd.ntmps109
  rcases hcase with ⟨h1', h2⟩ | ⟨h1', h2⟩
  all_goals
    go_wp2_with fail
    go_loopw [3, 4] (fun s3 s4 wr => ∃ k : Nat, k ≤ N ∧ s4 = .int .i64 (((k : Int) + 1)) ∧ wr.ownsRow w.heap.size 2 1 s3 (dvK N k).length ((dvK N k).map (Value.int .i64)) ∧ Below w.heap.size w wr) (fun _ s4 _ => N + 1 - (intOf s4).toNat)
    case atStart => exact ⟨0, Nat.zero_le _, rfl, O0, U0⟩
    case round =>
      obtain ⟨k, hk, rfl, hO, hU⟩ := hrel
      have HO := hid hO; have HU := hid hU
      have hl := dvK_len N k
      have hv := hU.size
      clear hO hU O0 U0
      by_cases hlt : k < N
      · cases hp : ((N : Int) % ((k : Int) + 1) == 0) with
        | false =>
          have HP := hid (dvK_f hp)
          go_wp2
          go_roundw
          case rel => exact ⟨k + 1, by omega, by go_num, by rw [HP.out]; exact HO.out, HU.out⟩
          case measure => simp [intOf]; omega
        | true =>
          have HP := hid (dvK_t hp)
          go_wp2_with (at_builtin; refine app_i64 rfl _ _ rfl w.heap.size rfl HO.out rfl (by omega) (by omega) ?_)
          intro y1 W1 O1 hg1
          have HO1 := hid (dv_app HP.out O1)
          have HU1 := hid (gr_own (gr_alloc HU.out _) hg1 (fun j hj => (HO.out.lt j hj).1))
          clear O1 hg1
          go_wp2
          go_roundw
          case rel => exact ⟨k + 1, by omega, by go_num, HO1.out, HU1.out⟩
          case measure => simp [intOf]; omega
      · have e : k = N := by omega
        subst e
        go_wp2
        go_ret
        exact ⟨_, rfl, HO.out, HU.out⟩


end Go.Proofs.YtihcmgjfkiaelaaDoor

/- Chapter 5: what stands while the model looks for rational roots. -/
namespace Go.Proofs.YtihcmgjfkiaelaaDoor
open Go.RowKit

/-- The rows found (v: R), the form, the two rows of divisors. -/
structure Sst (w wr : World) (a b c d : Int) (vb : Value) (B : List Int) (va : Value) (D : List Int) (v : Value) (R : List (List Int)) : Prop where
  rw : RwX w.heap.size wr v 2 R
  fm : Bx wr w.heap.size #[.int .i64 a, .int .i64 b, .int .i64 c, .int .i64 d] 25
  ob : wr.ownsRow w.heap.size 2 1 vb B.length (B.map (Value.int .i64))
  oa : wr.ownsRow w.heap.size 2 1 va D.length (D.map (Value.int .i64))
  up : Below w.heap.size w wr
theorem Sst.next {w wr w' : World} {a b c d : Int} {vb : Value} {B : List Int} {va : Value} {D : List Int} {v : Value} {R : List (List Int)} (h : Sst w wr a b c d vb B va D v R) (hb : Below wr.heap.size wr w') : Sst w w' a b c d vb B va D v R :=
  ⟨h.rw.next hb, h.fm.next hb, owns_next h.ob hb, owns_next h.oa hb, gr_trans h.up hb⟩
theorem Sst.app {w wr w' : World} {a b c d : Int} {vb : Value} {B : List Int} {va : Value} {D : List Int} {v v' : Value} {R : List (List Int)} {T : List Nat} (h : Sst w wr a b c d vb B va D v R) (hT : Rwb w.heap.size wr v 2 R T) {z y : Int}
    (hg : ((wr.alloc (.cells #[.int .i64 z, .int .i64 y] 2)).alloc (.cells #[.slice (some ⟨wr.heap.size, 0, none⟩) 2 2] 41)).grownBy w' v.ownBlock)
    (hO : w'.ownsRow w.heap.size 41 1 v' (R.length + 1) ((T.map fun t => Value.slice (some ⟨t, 0, none⟩) 2 2) ++ [.slice (some ⟨wr.heap.size, 0, none⟩) 2 2])) : Sst w w' a b c d vb B va D v' (R ++ [[z, y]]) :=
  ⟨⟨_, hT.app (r := [z, y]) rfl h.up.size hg hO⟩, (h.fm.alloc (.cells (cI [z, y]) 2)).app (hT.own.alloc _) (by decide) hg, owns_keep2 h.ob hT.own (by decide) hg, owns_keep2 h.oa hT.own (by decide) hg,
   gr_own (gr_alloc (gr_alloc h.up _) _) hg (fun j hj => (hT.own.lt j hj).1)⟩

/-- append(out, []int64{z, y}). -/
theorem app_S {ops : Array Oper} {rest : List Oper} {o : Oper} {act : Act} {Q : Exit → Act → World → Prop} {w wr : World} {a b c d : Int} {vb : Value} {B : List Int} {va : Value} {D : List Int} {v : Value} {R : List (List Int)} (hgd : o.guard = none) (s x : Operand)
    (ho : o.op = .call { callee := .builtin .append, args := #[s, x], argTypes := #[94, 94] }) (hs : act.eval s = v) (hS : Sst w wr a b c d vb B va D v R)
    {z y : Int} (hx : act.eval x = .slice (some ⟨wr.heap.size + 1, 0, none⟩) 1 1) (hn : R.length ≤ 100000000)
    (h : ∀ v' w', Sst w w' a b c d vb B va D v' (R ++ [[z, y]]) → wpList Tryd.prog ops Q rest (act.put o.dst v') w') :
    wpList Tryd.prog ops Q (o :: rest) act ((wr.alloc (.cells #[.int .i64 z, .int .i64 y] 2)).alloc (.cells #[.slice (some ⟨wr.heap.size, 0, none⟩) 2 2] 41)) := by
  obtain ⟨i0, hi, hi0, hi1, hi2⟩ := info_parts info_sl5
  obtain ⟨T, hT⟩ := hS.rw
  have hsz := hS.up.size
  refine wpList_append_own _ hgd s x 94 ho w.heap.size 41 i0 (.slice none 0 0) 1 24 Tryd.underlying94 hi hi0 hi1 hi2 rfl (by decide) _ _ _ hs ((hT.own.alloc _).alloc _) ⟨wr.heap.size + 1, 0, none⟩ 1 1 [.slice (some ⟨wr.heap.size, 0, none⟩) 2 2] hx rfl ?_ ?_ ?_ ?_ ?_ (fun v' w' h1 h2 _ => h v' w' (hS.app hT h2 h1))
  · intro j u hj
    match j, hj with
    | 0, hj => simp at hj; subst hj; simp [Addr.add, go_sem]
  · first | (intro u hu; simp at hu; subst hu; rfl) | rfl | simp [Value.oneCell']
  · unfold maxLen; omega
  · omega
  · simp; omega


end Go.Proofs.YtihcmgjfkiaelaaDoor

/- Chapter 5: rational roots, the model's list. -/
namespace Go.Proofs.YtihcmgjfkiaelaaDoor
open Go.RowKit

def fsS (F n : Int) : Int := if F = 0 then n else F
theorem fsS_0 (n : Int) : fsS 0 n = n := by simp [fsS]
theorem fsS_n {F n : Int} (h : F ≠ 0) : fsS F n = F := by simp [fsS, h]
def fsK (a b c d : Int) : Nat → Int
  | 0 => a
  | 1 => a
  | 2 => fsS a b
  | 3 => fsS (fsS a b) c
  | _ => fsS (fsS (fsS a b) c) d
theorem fsK_n {a b c d : Int} {k : Nat} (h : fsK a b c d k ≠ 0) (hk : k ≤ 4) : fsK a b c d 4 = fsK a b c d k := by
  have hk' : k = 0 ∨ k = 1 ∨ k = 2 ∨ k = 3 ∨ k = 4 := by omega
  rcases hk' with rfl | rfl | rfl | rfl | rfl <;> simp only [fsK] at h ⊢ <;> simp only [fsS_n h]
/-- Is x, y a root, z and y apart? -/
def cnd (a b c d z x y : Int) : Bool := ((Int.gcd z y : Int) == 1) && (vl a b c d x y == 0)
def mN (a b c d y : Int) (D : List Int) (k : Nat) : List (List Int) := ((D.drop k).reverse.filter fun z => cnd a b c d z (-z) y).map fun z => [-z, y]
def mP (a b c d y : Int) (D : List Int) (k : Nat) : List (List Int) := ((D.take k).filter fun z => cnd a b c d z z y).map fun z => [z, y]
def mZ (d y : Int) : List (List Int) := if (y == 1 && d == 0) = true then [[0, 1]] else []
def mY (a b c d : Int) (D : List Int) (y : Int) : List (List Int) := mN a b c d y D 0 ++ mZ d y ++ mP a b c d y D D.length
def m0r (a : Int) : List (List Int) := if (a == 0) = true then [[1, 0]] else []
def mK (a b c d : Int) (B D : List Int) (i : Nat) : List (List Int) := m0r a ++ (B.take i).flatMap (mY a b c d D)
theorem mN_s {a b c d y : Int} {D : List Int} {k : Nat} (h : k < D.length) : mN a b c d y D k = mN a b c d y D (k + 1) ++ (if cnd a b c d D[k] (-D[k]) y = true then [[-D[k], y]] else []) := by
  unfold mN
  rw [List.drop_eq_getElem_cons h, List.reverse_cons, List.filter_append, List.map_append]
  congr 1
  simp only [List.filter_cons, List.filter_nil]
  split <;> simp
theorem mP_s {a b c d y : Int} {D : List Int} {k : Nat} (h : k < D.length) : mP a b c d y D (k + 1) = mP a b c d y D k ++ (if cnd a b c d D[k] D[k] y = true then [[D[k], y]] else []) := by
  unfold mP
  rw [List.take_succ_eq_append_getElem h, List.filter_append, List.map_append]
  congr 1
  simp only [List.filter_cons, List.filter_nil]
  split <;> simp
theorem mN_e (a b c d y : Int) (D : List Int) : mN a b c d y D D.length = [] := by simp [mN]
theorem mP_0 (a b c d y : Int) (D : List Int) : mP a b c d y D 0 = [] := by simp [mP]
theorem mK_s {a b c d : Int} {B D : List Int} {i : Nat} (h : i < B.length) : mK a b c d B D (i + 1) = mK a b c d B D i ++ mY a b c d D B[i] := by
  unfold mK
  rw [List.take_succ_eq_append_getElem h, List.flatMap_append, ← List.append_assoc]
  simp
theorem mN_len (a b c d y : Int) (D : List Int) (k : Nat) : (mN a b c d y D k).length ≤ D.length := by
  unfold mN
  rw [List.length_map]
  have := List.length_filter_le (fun z => cnd a b c d z (-z) y) (D.drop k).reverse
  rw [List.length_reverse, List.length_drop] at this
  omega
theorem mP_len (a b c d y : Int) (D : List Int) (k : Nat) : (mP a b c d y D k).length ≤ D.length := by
  unfold mP
  rw [List.length_map]
  have := List.length_filter_le (fun z => cnd a b c d z z y) (D.take k)
  rw [List.length_take] at this
  omega
theorem mZ_len (d y : Int) : (mZ d y).length ≤ 1 := by unfold mZ; split <;> simp
theorem mK_len (a b c d : Int) (B D : List Int) : ∀ i, i ≤ B.length → (mK a b c d B D i).length ≤ 1 + i * (2 * D.length + 1) := by
  intro i
  induction i with
  | zero => intro _; unfold mK m0r; split <;> simp
  | succ i ih =>
    intro h
    rw [mK_s (by omega), List.length_append, Nat.succ_mul]
    have h1 := ih (by omega)
    have h2 := mN_len a b c d B[i] D 0
    have h3 := mP_len a b c d B[i] D D.length
    have h4 := mZ_len d B[i]
    unfold mY
    rw [List.length_append, List.length_append]
    omega
theorem mem_dvK {D z : Int} {k : Nat} (h : z ∈ dvK D k) : 1 ≤ z ∧ z ≤ k ∧ D % z = 0 := by
  unfold dvK at h
  obtain ⟨h1, h2⟩ := List.mem_filter.1 h
  obtain ⟨j, hj, rfl⟩ := List.mem_map.1 h1
  have := List.mem_range.1 hj
  exact ⟨by omega, by omega, by simpa using h2⟩
theorem dvK_pos {N : Nat} (h : 1 ≤ N) : 0 < (dvK N N).length := by
  refine List.length_pos_of_mem (a := 1) ?_
  unfold dvK
  refine List.mem_filter.2 ⟨List.mem_map.2 ⟨0, List.mem_range.2 (by omega), rfl⟩, by simp⟩
theorem ocell {w : World} {B g n cap : Nat} {t : TypeId} {L : List Int} (h : w.ownsRow B t 1 (.slice (some ⟨g, 0, none⟩) n cap) L.length (L.map (Value.int .i64))) (i : Nat) (hi : i < L.length) : w.cell? ⟨g, i, none⟩ = some (.int .i64 L[i]) ∧ g < w.heap.size := by
  obtain ⟨a, cap', e, _, _, hc⟩ := owns_form h
  obtain ⟨g', rfl, hg, hcell⟩ := hc (by omega)
  cases e
  exact ⟨hcell i _ (by simp [hi]), hg⟩
/-- A cell that stays. -/
def CellAt (w : World) (g k : Nat) (z : Int) : Prop := g < w.heap.size ∧ w.cell? ⟨g, k, none⟩ = some (.int .i64 z)
theorem CellAt.next {w w' : World} {g k : Nat} {z : Int} (h : CellAt w g k z) (hb : Below w.heap.size w w') : CellAt w' g k z := ⟨Nat.lt_of_lt_of_le h.1 hb.size, (hb.cell (p := ⟨g, k, none⟩) h.1).trans h.2⟩
theorem CellAt.drew {w : World} {g k : Nat} {z : Int} (h : CellAt w g k z) : CellAt w.drew g k z := h.next (Below.refl _ w).drew
theorem CellAt.alloc {w : World} {g k : Nat} {z : Int} (h : CellAt w g k z) (o : Obj) : CellAt (w.alloc o) g k z := h.next ((Below.refl _ w).alloc (Nat.le_refl _) o)
theorem cellsS {W : World} {kf g k : Nat} {a b c d z : Int} (F : Arr W kf a b c d) (C : CellAt W g k z) :
    W.cell? ⟨kf, 0, none⟩ = some (.int .i64 a) ∧ W.cell? ⟨kf, 1, none⟩ = some (.int .i64 b) ∧ W.cell? ⟨kf, 2, none⟩ = some (.int .i64 c) ∧ W.cell? ⟨kf, 3, none⟩ = some (.int .i64 d) ∧ W.cell? ⟨g, k, none⟩ = some (.int .i64 z) := ⟨F.c0, F.c1, F.c2, F.c3, C.2⟩


end Go.Proofs.YtihcmgjfkiaelaaDoor
