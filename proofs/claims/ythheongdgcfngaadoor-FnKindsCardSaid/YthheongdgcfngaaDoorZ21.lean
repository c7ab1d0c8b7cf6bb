/- Several texts in one: XKk, XGm, XFa. -/
import Derived.Test.YthheongdgcfngaaDoorZ20
import Derived.Test.YthheongdgcfngaaDoorRv
import Derived.Test.YthheongdgcfngaaDoorPk
import Derived.Test.YthheongdgcfngaaDoorZ13

/- Chapter 5: what FnKinds asks of the numbers. Mathematics; no Go function in sight. -/
namespace Go.Proofs.YthheongdgcfngaaDoor
open Go.RowKit

/-- Kinds, counts, totals, whether ramified, and the code of the roots. -/
structure LawOk (kd ct tt p rm : Int) (ra : Bool) : Prop where
  rng : kd = 0 ∨ kd = 1 ∨ kd = 2 ∨ kd = 3 ∨ kd = 4 ∨ kd = 5
  z : kd = 0 → ct = p + 1
  k1 : kd = 1 → ct = 3 ∧ tt = 3
  k2 : kd = 2 → ct = 1 ∧ tt = 1
  k3 : kd = 3 → ct = 0
  k4 : kd = 4 → ct = 2 ∧ tt = 3
  k5 : kd = 5 → ct = 1 ∧ tt = 3
  ra : ra = (kd == 0 || kd == 4 || kd == 5)
  rm : (rm == 0) = !(kd == 0)
def ttl (R : List (List Int)) : Int := (R.map fun r => r.getD 2 0).sum
theorem ttl_rw3 (R : List (Int × Int × Int)) : ttl (R.map rw3) = rtt R := by
  unfold ttl rtt
  rw [List.map_map]
  rfl
theorem ttl_s {R : List (List Int)} {k : Nat} (h : k < R.length) : ttl (R.take (k + 1)) = ttl (R.take k) + (R.getD k []).getD 2 0 := by
  unfold ttl
  rw [List.take_succ_eq_append_getElem h, List.map_append, List.sum_append]
  simp [List.getD, h]
theorem law_ok {a b c d p : Int} (h : fpc a b c d p = 0) : LawOk (kmv a b c d p) (crv a b c d p) (ttl (if rmc a b c d p = 0 then (rtp a b c d p).map rw3 else [])) p (rmc a b c d p) (rmf a b c d p) := by
  obtain ⟨hF, hp⟩ := fpc_0.1 h
  have e1 : kmv a b c d p = kdn a b c d p := by simp [kmv, h]
  have hp0 : p ≠ 0 := by have := (prm_rng hp).1; omega
  have e3 : rmf a b c d p = mul0 (dsc a b c d) p := by simp [rmf, h, mul0, hp0]
  rw [e1, e3]
  cases hN : mul0 (cnt a b c d) p with
  | true =>
    have k0 : kdn a b c d p = 0 := by simp [kdn, hN]
    have hd : mul0 (dsc a b c d) p = true := by
      rw [mul0_d, decide_eq_true_eq] at hN ⊢
      obtain ⟨h0, h1, h2, h3⟩ := cnt_dvd.1 hN
      rw [dsc_eq hF, show dsx a b c d = a * (-4 * c * c * c - 27 * a * d * d + 18 * b * c * d) + b * (b * c * c - 4 * b * b * d) by unfold dsx; grind]
      exact Int.dvd_add (Int.dvd_mul_of_dvd_left h0) (Int.dvd_mul_of_dvd_left h1)
    rw [k0, hd, rmc_5 h hN]
    refine ⟨.inl rfl, fun _ => by simp [crv, h, hN], ?_, ?_, ?_, ?_, ?_, rfl, rfl⟩ <;> (intro h; omega)
  | false =>
    have hk := kd_ok hF hp hN
    have ec : crv a b c d p = (rtp a b c d p).length := by simp [crv, h, hN]
    rw [rmc_0 h hN, if_pos rfl, ttl_rw3, ec]
    generalize kdn a b c d p = kd at hk
    generalize rtt (rtp a b c d p) = tt at hk
    generalize (rtp a b c d p).length = n at hk
    generalize mul0 (dsc a b c d) p = ra at hk
    obtain ⟨k1, k2, k3, k4, k5, ⟨r1, r2⟩, hra⟩ := hk
    refine ⟨by omega, fun h => by omega, fun h => ?_, fun h => ?_, fun h => ?_, fun h => ?_, fun h => ?_, ?_, ?_⟩
    · have := k1 h; omega
    · have := k2 h; omega
    · have := k3 h; omega
    · have := k4 h; omega
    · have := k5 h; omega
    · rw [hra]
      rcases (show kd = 1 ∨ kd = 2 ∨ kd = 3 ∨ kd = 4 ∨ kd = 5 by omega) with rfl | rfl | rfl | rfl | rfl <;> rfl
    · rcases (show kd = 1 ∨ kd = 2 ∨ kd = 3 ∨ kd = 4 ∨ kd = 5 by omega) with rfl | rfl | rfl | rfl | rfl <;> rfl
theorem LawOk.tb {kd ct tt p rm : Int} {ra : Bool} (h : LawOk kd ct tt p rm ra) (hk : kd ≠ 0) (h3 : kd ≠ 3) : 1 ≤ tt ∧ tt ≤ 3 := by
  rcases h.rng with h0 | h0 | h0 | h0 | h0 | h0
  · exact absurd h0 hk
  · have := h.k1 h0; omega
  · have := h.k2 h0; omega
  · exact absurd h0 h3
  · have := h.k4 h0; omega
  · have := h.k5 h0; omega
/-- The counts of the kinds, added up. -/
def skn (p : Int) : Nat → Int
  | 0 => 0
  | k + 1 => skn p k + ck0 p k
theorem sk_all : ∀ q < 98, prmN q = true → skn q 6 = (q : Int) * q * q * q ∧ ∀ k < 7, 0 ≤ skn q k ∧ skn q k ≤ 100000000 := by decide +kernel
theorem sk_ok {p : Int} (h : prm p = true) : skn p 6 = p * p * p * p ∧ ∀ k, k < 7 → 0 ≤ skn p k ∧ skn p k ≤ 100000000 := by
  obtain ⟨h2, h97⟩ := prm_rng h
  obtain ⟨n, rfl⟩ : ∃ n : Nat, p = n := ⟨p.toNat, by omega⟩
  obtain ⟨h1, h3⟩ := sk_all n (by omega) (by simpa [prm] using h)
  exact ⟨h1, fun k hk => h3 k hk⟩
theorem ckc_0 {p : Int} (h : prm p = true) {k : Int} (h0 : 0 ≤ k) (h5 : k ≤ 5) : ckc p k = 0 := by
  simp [ckc, h, rng_mk h0 h5]
theorem kuc_0 {a b c d n : Int} (h : kuc a b c d n = 0) : nco n = 0 := by
  unfold kuc at h
  split at h
  · exact h
  · omega
theorem kul_ln (a b c d n : Int) : (kul a b c d n).length = (prl (n.toNat + 1)).length := by simp [kul]
/-- A form moved by 1, 1, 0, 1 has the same kind. -/
theorem kmv_mv {a b c d p : Int} (h : fpc a b c d p = 0) (hc : chc a b c d 1 1 0 1 = 0) : kmv (cA a b c d 1 0) (cB a b c d 1 1 0 1) (cC a b c d 1 1 0 1) (cA a b c d 1 1) p = kmv a b c d p ∧ fpc (cA a b c d 1 0) (cB a b c d 1 1 0 1) (cC a b c d 1 1 0 1) (cA a b c d 1 1) p = 0 := by
  obtain ⟨hF, hp⟩ := fpc_0.1 h
  obtain ⟨_, _, hF'⟩ := chc_0 hc
  have h' : fpc (cA a b c d 1 0) (cB a b c d 1 1 0 1) (cC a b c d 1 1 0 1) (cA a b c d 1 1) p = 0 := fpc_0.2 ⟨hF', hp⟩
  refine ⟨?_, h'⟩
  unfold kmv
  rw [if_pos h, if_pos h', kdn_ch (g := 1) hF hF' hp (by rfl) (.inl rfl)]


end Go.Proofs.YthheongdgcfngaaDoor

/- Chapter 5: rational roots: exact quotients. Mathematics; no Go function in sight. -/
namespace Go.Proofs.YthheongdgcfngaaDoor
open Go.RowKit

theorem cop_dvd {x y z : Int} (hg : Int.gcd x y = 1) (h : y ∣ x * z) : y ∣ z := by
  have hc : Nat.Coprime y.natAbs x.natAbs := by rw [Nat.coprime_comm]; exact hg
  have hn : y.natAbs ∣ x.natAbs * z.natAbs := by rw [← Int.natAbs_mul]; exact Int.natAbs_dvd_natAbs.2 h
  exact Int.natAbs_dvd_natAbs.1 (hc.dvd_of_dvd_mul_left hn)
theorem mul_can {y z : Int} (hy : 1 ≤ y) (h : y * z = 0) : z = 0 := by
  rcases Int.mul_eq_zero.1 h with h | h
  · omega
  · exact h
/-- A linear form, a quadratic, a cubic form that is 0 at x, y is y X - x Y times another one. -/
theorem ex1 {a b x y : Int} (hy : 1 ≤ y) (hg : Int.gcd x y = 1) (h : a * x + b * y = 0) : ∃ a' : Int, a = y * a' ∧ b = -(x * a') := by
  have h1 : y ∣ x * a := ⟨-b, by grind⟩
  obtain ⟨a', rfl⟩ := cop_dvd hg h1
  have h2 : y * (a' * x + b) = 0 := by grind
  have := mul_can hy h2
  exact ⟨a', rfl, by grind⟩
theorem ex2 {a b c x y : Int} (hy : 1 ≤ y) (hg : Int.gcd x y = 1) (h : a * x * x + b * x * y + c * y * y = 0) : ∃ a' b' : Int, a = y * a' ∧ b = y * b' - x * a' ∧ c = -(x * b') := by
  have h1 : y ∣ x * (x * a) := ⟨-(b * x + c * y), by grind⟩
  obtain ⟨a', rfl⟩ := cop_dvd hg (cop_dvd hg h1)
  have h2 : y * ((a' * x + b) * x + c * y) = 0 := by grind
  obtain ⟨b', e1, e2⟩ := ex1 hy hg (mul_can hy h2)
  exact ⟨a', b', rfl, by grind, e2⟩
theorem ex3 {a b c d x y : Int} (hy : 1 ≤ y) (hg : Int.gcd x y = 1) (h : vx a b c d x y = 0) : ∃ a' b' c' : Int, a = y * a' ∧ b = y * b' - x * a' ∧ c = y * c' - x * b' ∧ d = -(x * c') := by
  unfold vx at h
  have h1 : y ∣ x * (x * (x * a)) := ⟨-(b * x * x + c * x * y + d * y * y), by grind⟩
  obtain ⟨a', rfl⟩ := cop_dvd hg (cop_dvd hg (cop_dvd hg h1))
  have h2 : y * ((a' * x + b) * x * x + c * x * y + d * y * y) = 0 := by grind
  obtain ⟨b', c', e1, e2, e3⟩ := ex2 hy hg (mul_can hy h2)
  exact ⟨a', b', c', rfl, by grind, e2, e3⟩
theorem quo_bd {y z B : Int} (hy : 1 ≤ y) (h : -B ≤ y * z ∧ y * z ≤ B) : -B ≤ z ∧ z ≤ B := by
  have h1 : (y * z).natAbs = y.natAbs * z.natAbs := Int.natAbs_mul ..
  have h2 : z.natAbs ≤ y.natAbs * z.natAbs := Nat.le_mul_of_pos_left _ (by omega)
  omega
theorem qt1 {y z B n : Int} (hy : 1 ≤ y) (hB : B ≤ 9000000000000000000) (e : n = y * z) (h : -B ≤ n ∧ n ≤ B) : wrap64 ((wrap64 n).tdiv y) = z := by
  have hz := quo_bd hy (e ▸ h)
  have wn : wrap64 n = n := wr_in (by omega)
  rw [wn, e, Int.mul_tdiv_cancel_left _ (by omega), wr_in (by omega)]
/-- The quotients of the program, where they are exact. -/
theorem dq3 {a b c d x y a' b' c' : Int} (hy : 1 ≤ y) (hx : -1000 ≤ x ∧ x ≤ 1000) (ha : -1000 ≤ a ∧ a ≤ 1000) (hb : -1000 ≤ b ∧ b ≤ 1000) (hc : -1000 ≤ c ∧ c ≤ 1000) (e1 : a = y * a') (e2 : b = y * b' - x * a') (e3 : c = y * c' - x * b') :
    dvd [a, b, c, d] x y = [a', b', c'] ∧ (-1000 ≤ a' ∧ a' ≤ 1000) ∧ (-1001000 ≤ b' ∧ b' ≤ 1001000) ∧ (-1001001000 ≤ c' ∧ c' ≤ 1001001000) := by
  have qa := quo_bd hy (e1 ▸ ha)
  have m1 := mulb hx qa
  have qb := quo_bd (B := 1001000) hy (z := b') (by omega)
  have m2 := mulb hx qb
  have qc := quo_bd (B := 1001001000) hy (z := c') (by omega)
  refine ⟨?_, qa, qb, qc⟩
  have s1 : wrap64 ((pl a (mu x 0)).tdiv y) = a' := by
    simp only [pl, mu, wr_ar, Int.mul_zero, Int.add_zero]
    exact qt1 (B := 1000) hy (by omega) e1 ha
  have s2 : wrap64 ((pl b (mu x a')).tdiv y) = b' := by
    simp only [pl, mu, wr_ar]
    exact qt1 (B := 1001000) hy (by omega) (by omega) (by omega)
  have s3 : wrap64 ((pl c (mu x b')).tdiv y) = c' := by
    simp only [pl, mu, wr_ar]
    exact qt1 (B := 1001001000) hy (by omega) (by omega) (by omega)
  simp only [dvd, show ¬ y = 0 by omega, if_false, List.dropLast, List.foldl, dst, s1, s2, s3, List.nil_append, List.cons_append]
theorem dq2 {a b c x y a' b' : Int} (hy : 1 ≤ y) (hx : -1000 ≤ x ∧ x ≤ 1000) (ha : -1000 ≤ a ∧ a ≤ 1000) (hb : -1001000 ≤ b ∧ b ≤ 1001000) (e1 : a = y * a') (e2 : b = y * b' - x * a') :
    dvd [a, b, c] x y = [a', b'] ∧ (-1000 ≤ a' ∧ a' ≤ 1000) ∧ (-2001000 ≤ b' ∧ b' ≤ 2001000) := by
  have qa := quo_bd hy (e1 ▸ ha)
  have m1 := mulb hx qa
  have qb := quo_bd (B := 2001000) hy (z := b') (by omega)
  refine ⟨?_, qa, qb⟩
  have s1 : wrap64 ((pl a (mu x 0)).tdiv y) = a' := by
    simp only [pl, mu, wr_ar, Int.mul_zero, Int.add_zero]
    exact qt1 (B := 1000) hy (by omega) e1 ha
  have s2 : wrap64 ((pl b (mu x a')).tdiv y) = b' := by
    simp only [pl, mu, wr_ar]
    exact qt1 (B := 2001000) hy (by omega) (by omega) (by omega)
  simp only [dvd, show ¬ y = 0 by omega, if_false, List.dropLast, List.foldl, dst, s1, s2, List.nil_append, List.cons_append]
theorem dq1 {a b x y a' : Int} (hy : 1 ≤ y) (ha : -1000 ≤ a ∧ a ≤ 1000) (e1 : a = y * a') : dvd [a, b] x y = [a'] ∧ (-1000 ≤ a' ∧ a' ≤ 1000) := by
  have qa := quo_bd hy (e1 ▸ ha)
  refine ⟨?_, qa⟩
  have s1 : wrap64 ((pl a (mu x 0)).tdiv y) = a' := by
    simp only [pl, mu, wr_ar, Int.mul_zero, Int.add_zero]
    exact qt1 (B := 1000) hy (by omega) e1 ha
  simp only [dvd, show ¬ y = 0 by omega, if_false, List.dropLast, List.foldl, dst, s1, List.nil_append]
/-- The values of the program. -/
theorem nx3 (a b c d x y : Int) : nva [a, b, c, d] x y = wrap64 (vx a b c d x y) := by
  simp only [nva, List.foldl, nst, pl, mu, wr_al, wr_ar, wr_ml, wr_mr]
  congr 1; unfold vx; grind
theorem nx2 (a b c x y : Int) : nva [a, b, c] x y = wrap64 (a * x * x + b * x * y + c * y * y) := by
  simp only [nva, List.foldl, nst, pl, mu, wr_al, wr_ar, wr_ml, wr_mr]
  congr 1; grind
theorem nx1 (a b x y : Int) : nva [a, b] x y = wrap64 (a * x + b * y) := by
  simp only [nva, List.foldl, nst, pl, mu, wr_al, wr_ar, wr_ml, wr_mr]
  congr 1; grind
theorem nx0 (a x y : Int) : nva [a] x y = wrap64 a := by
  simp only [nva, List.foldl, nst, pl, mu, wr_al, wr_ar]
  congr 1; grind
theorem mul0_0 (n : Int) : mul0 n 0 = decide (n = 0) := by simp [mul0]
/-- The search at a rational place ends; a place is a root where the value is 0. -/
theorem stp_r {a b c d x y : Int} (ha : -1000 ≤ a ∧ a ≤ 1000) (hb : -1000 ≤ b ∧ b ≤ 1000) (hc : -1000 ≤ c ∧ c ≤ 1000) (hd : -1000 ≤ d ∧ d ≤ 1000) (hx : -1000 ≤ x ∧ x ≤ 1000) (hy : 1 ≤ y) (hy' : y ≤ 1000) (hg : Int.gcd x y = 1) (hN : mul0 (cnt a b c d) 0 = false) :
    stp 0 x y 4 [a, b, c, d] = true ∧ (mlt 0 x y 4 [a, b, c, d] = 0 ↔ vx a b c d x y ≠ 0) := by
  have hyy : -1000 ≤ y ∧ y ≤ 1000 := by omega
  have hv := vx_bd (A := 1000) (B := 1000) ha hb hc hd hx hyy
  have n3 : nva [a, b, c, d] x y = vx a b c d x y := by rw [nx3, wr_in (by omega)]
  have hn : ¬ (a = 0 ∧ b = 0 ∧ c = 0 ∧ d = 0) := fun h => by
    obtain ⟨rfl, rfl, rfl, rfl⟩ := h
    simp [mul0, cnt] at hN
  simp only [stp, mlt, n3, mul0_0]
  by_cases h3 : vx a b c d x y = 0
  · obtain ⟨a1, b1, c1, e1, e2, e3, e4⟩ := ex3 hy hg h3
    obtain ⟨q, qa, qb, qc⟩ := dq3 (d := d) hy hx ha hb hc e1 e2 e3
    have m1 := mulb (mulb qa hx) hx
    have m2 := mulb (mulb qb hx) hyy
    have m3 := mulb (mulb qc hyy) hyy
    have n2 : nva [a1, b1, c1] x y = a1 * x * x + b1 * x * y + c1 * y * y := by rw [nx2, wr_in (by omega)]
    simp only [h3, q, n2, decide_true, if_true]
    have hz : ∀ t : Nat, ((t + 1 = 0) ↔ (0 : Int) ≠ 0) := fun t => by simp
    refine ⟨?_, hz _⟩
    by_cases h2 : a1 * x * x + b1 * x * y + c1 * y * y = 0
    · obtain ⟨a2, b2, f1, f2, f3⟩ := ex2 hy hg h2
      obtain ⟨q', ra, rb⟩ := dq2 (c := c1) hy hx qa qb f1 f2
      have m4 := mulb ra hx
      have m5 := mulb rb hyy
      have n1 : nva [a2, b2] x y = a2 * x + b2 * y := by rw [nx1, wr_in (by omega)]
      simp only [h2, q', n1, decide_true, if_true]
      by_cases h1 : a2 * x + b2 * y = 0
      · obtain ⟨a3, g1, g2⟩ := ex1 hy hg h1
        obtain ⟨q'', sa⟩ := dq1 (b := b2) hy ra g1
        have n0 : nva [a3] x y = a3 := by rw [nx0, wr_in (by omega)]
        have h0 : a3 ≠ 0 := fun h0 => by
          have z1 : a2 = 0 := by rw [g1, h0]; simp
          have z2 : b2 = 0 := by rw [g2, h0]; simp
          have z3 : a1 = 0 := by rw [f1, z1]; simp
          have z4 : b1 = 0 := by rw [f2, z1, z2]; simp
          have z5 : c1 = 0 := by rw [f3, z2]; simp
          exact hn ⟨by rw [e1, z3]; simp, by rw [e2, z3, z4]; simp, by rw [e3, z4, z5]; simp, by rw [e4, z5]; simp⟩
        simp only [h1, decide_true, if_true]
        simp
        rw [q'', n0]
        exact h0
      · simp [h1]
    · simp [h2]
  · simp [h3]


end Go.Proofs.YthheongdgcfngaaDoor

/- Chapter 5: factors: rests of forms divided by their roots keep the other roots with their multiplicities. Mathematics; no Go function in sight. -/
namespace Go.Proofs.YthheongdgcfngaaDoor
open Go.RowKit

/-- A list times y X - x Y. -/
def mulA (x y : Int) (p : Int) : List Int → List Int
  | [] => [-(x * p)]
  | m :: M => (y * m - x * p) :: mulA x y m M
def mulL (x y : Int) (M : List Int) : List Int := mulA x y 0 M
theorem mulL0 (x y : Int) : mulL x y [] = [-(x * 0)] := rfl
theorem mulL1 (x y a : Int) : mulL x y [a] = [y * a - x * 0, -(x * a)] := rfl
theorem mulL2 (x y a b : Int) : mulL x y [a, b] = [y * a - x * 0, y * b - x * a, -(x * b)] := rfl
theorem mulL3 (x y a b c : Int) : mulL x y [a, b, c] = [y * a - x * 0, y * b - x * a, y * c - x * b, -(x * c)] := rfl
theorem mulL_len (x y : Int) (M : List Int) : (mulL x y M).length = M.length + 1 := by
  unfold mulL
  generalize (0 : Int) = p
  induction M generalizing p with
  | nil => rfl
  | cons m M ih => simp [mulA, ih]
/-- The value, as a whole number. -/
def ev (L : List Int) (x y : Int) : Int := (L.foldl (fun s n => (s.1 * x + n * s.2, s.2 * y)) ((0, 1) : Int × Int)).1
theorem ev4 (a b c d x y : Int) : ev [a, b, c, d] x y = vx a b c d x y := by simp only [ev, List.foldl]; unfold vx; grind
theorem ev3 (a b c x y : Int) : ev [a, b, c] x y = a * x * x + b * x * y + c * y * y := by simp only [ev, List.foldl]; grind
theorem ev2 (a b x y : Int) : ev [a, b] x y = a * x + b * y := by simp only [ev, List.foldl]; grind
theorem ev1 (a x y : Int) : ev [a] x y = a := by simp only [ev, List.foldl]; grind
/-- Lists that are met: of one to four numbers, not all 0, not too great. -/
def bdF : Nat → Int
  | 4 => 1000
  | 3 => 1002001000
  | 2 => 1003003001000
  | _ => 1003003001000
def GL (L : List Int) : Prop := 1 ≤ L.length ∧ L.length ≤ 4 ∧ (∀ n ∈ L, -bdF L.length ≤ n ∧ n ≤ bdF L.length) ∧ ∃ n ∈ L, n ≠ 0
/-- Points: 1, 0, or x, y with y of at least 1, without a common divisor. -/
def PT (x y : Int) : Prop := (x = 1 ∧ y = 0) ∨ (1 ≤ y ∧ y ≤ 1000 ∧ -1000 ≤ x ∧ x ≤ 1000 ∧ Int.gcd x y = 1)
theorem PT.bd {x y : Int} (h : PT x y) : (-1000 ≤ x ∧ x ≤ 1000) ∧ (-1000 ≤ y ∧ y ≤ 1000) := by
  rcases h with ⟨rfl, rfl⟩ | h
  · omega
  · omega
theorem len_1 {L : List Int} (h : L.length = 1) : ∃ a, L = [a] := by
  match L, h with
  | [a], _ => exact ⟨a, rfl⟩
theorem len_2 {L : List Int} (h : L.length = 2) : ∃ a b, L = [a, b] := by
  match L, h with
  | [a, b], _ => exact ⟨a, b, rfl⟩
theorem len_3 {L : List Int} (h : L.length = 3) : ∃ a b c, L = [a, b, c] := by
  match L, h with
  | [a, b, c], _ => exact ⟨a, b, c, rfl⟩
theorem len_4 {L : List Int} (h : L.length = 4) : ∃ a b c d, L = [a, b, c, d] := by
  match L, h with
  | [a, b, c, d], _ => exact ⟨a, b, c, d, rfl⟩
theorem GL.cases {L : List Int} (h : GL L) : (∃ a, L = [a]) ∨ (∃ a b, L = [a, b]) ∨ (∃ a b c, L = [a, b, c]) ∨ (∃ a b c d, L = [a, b, c, d]) := by
  obtain ⟨h1, h2, _⟩ := h
  rcases (show L.length = 1 ∨ L.length = 2 ∨ L.length = 3 ∨ L.length = 4 by omega) with e | e | e | e
  · exact .inl (len_1 e)
  · exact .inr (.inl (len_2 e))
  · exact .inr (.inr (.inl (len_3 e)))
  · exact .inr (.inr (.inr (len_4 e)))
theorem GL.b1 {a : Int} (h : GL [a]) : a ≠ 0 ∧ -1003003001000 ≤ a ∧ a ≤ 1003003001000 := by
  obtain ⟨_, _, h3, h4⟩ := h
  simp [bdF] at h3 h4
  exact ⟨h4, h3.1, h3.2⟩
theorem GL.b2 {a b : Int} (h : GL [a, b]) : ¬ (a = 0 ∧ b = 0) ∧ (-1003003001000 ≤ a ∧ a ≤ 1003003001000) ∧ (-1003003001000 ≤ b ∧ b ≤ 1003003001000) := by
  obtain ⟨_, _, h3, h4⟩ := h
  simp [bdF] at h3 h4
  exact ⟨by omega, h3.1, h3.2⟩
theorem GL.b3 {a b c : Int} (h : GL [a, b, c]) : ¬ (a = 0 ∧ b = 0 ∧ c = 0) ∧ (-1002001000 ≤ a ∧ a ≤ 1002001000) ∧ (-1002001000 ≤ b ∧ b ≤ 1002001000) ∧ (-1002001000 ≤ c ∧ c ≤ 1002001000) := by
  obtain ⟨_, _, h3, h4⟩ := h
  simp [bdF] at h3 h4
  exact ⟨by omega, h3.1, h3.2.1, h3.2.2⟩
theorem GL.b4 {a b c d : Int} (h : GL [a, b, c, d]) : ¬ (a = 0 ∧ b = 0 ∧ c = 0 ∧ d = 0) ∧ (-1000 ≤ a ∧ a ≤ 1000) ∧ (-1000 ≤ b ∧ b ≤ 1000) ∧ (-1000 ≤ c ∧ c ≤ 1000) ∧ (-1000 ≤ d ∧ d ≤ 1000) := by
  obtain ⟨_, _, h3, h4⟩ := h
  simp [bdF] at h3 h4
  exact ⟨by omega, h3.1, h3.2.1, h3.2.2.1, h3.2.2.2⟩
theorem GL.m1 {a : Int} (h : a ≠ 0) (h1 : -1003003001000 ≤ a ∧ a ≤ 1003003001000) : GL [a] := ⟨by simp, by simp, by simp [bdF]; omega, by simpa using h⟩
theorem GL.m2 {a b : Int} (h : ¬ (a = 0 ∧ b = 0)) (h1 : -1003003001000 ≤ a ∧ a ≤ 1003003001000) (h2 : -1003003001000 ≤ b ∧ b ≤ 1003003001000) : GL [a, b] := ⟨by simp, by simp, by simp [bdF]; omega, by simp; omega⟩
theorem GL.m3 {a b c : Int} (h : ¬ (a = 0 ∧ b = 0 ∧ c = 0)) (h1 : -1002001000 ≤ a ∧ a ≤ 1002001000) (h2 : -1002001000 ≤ b ∧ b ≤ 1002001000) (h3 : -1002001000 ≤ c ∧ c ≤ 1002001000) : GL [a, b, c] := ⟨by simp, by simp, by simp [bdF]; omega, by simp; omega⟩
theorem GL.m4 {a b c d : Int} (h : ¬ (a = 0 ∧ b = 0 ∧ c = 0 ∧ d = 0)) (h1 : -1000 ≤ a ∧ a ≤ 1000) (h2 : -1000 ≤ b ∧ b ≤ 1000) (h3 : -1000 ≤ c ∧ c ≤ 1000) (h4 : -1000 ≤ d ∧ d ≤ 1000) : GL [a, b, c, d] := ⟨by simp, by simp, by simp [bdF]; omega, by simp; omega⟩
/-- The program's value is exact. -/
theorem nva_ev {L : List Int} {x y : Int} (h : GL L) (hp : PT x y) : nva L x y = ev L x y := by
  obtain ⟨hx, hy⟩ := hp.bd
  rcases h.cases with ⟨a, rfl⟩ | ⟨a, b, rfl⟩ | ⟨a, b, c, rfl⟩ | ⟨a, b, c, d, rfl⟩
  · obtain ⟨_, h1⟩ := h.b1
    rw [nx0, ev1, wr_in (by omega)]
  · obtain ⟨_, ha, hb⟩ := h.b2
    have m1 := mulb ha hx; have m2 := mulb hb hy
    rw [nx1, ev2, wr_in (by omega)]
  · obtain ⟨_, ha, hb, hc⟩ := h.b3
    have m1 := mulb (mulb ha hx) hx; have m2 := mulb (mulb hb hx) hy; have m3 := mulb (mulb hc hy) hy
    rw [nx2, ev3, wr_in (by omega)]
  · obtain ⟨_, ha, hb, hc, hd⟩ := h.b4
    have := vx_bd (A := 1000) (B := 1000) ha hb hc hd hx hy
    rw [nx3, ev4, wr_in (by omega)]
/-- A quotient of at most three numbers. -/
theorem qq {y z n B : Int} (hy : 1 ≤ y) (e : n = y * z) (h : -B ≤ n ∧ n ≤ B) : -B ≤ z ∧ z ≤ B := quo_bd hy (e ▸ h)
theorem stq {n x p y z B : Int} (hy : 1 ≤ y) (hB : B ≤ 9000000000000000000) (e : n = y * z - x * p) (h : -B ≤ y * z ∧ y * z ≤ B) : wrap64 ((pl n (mu x p)).tdiv y) = z := by
  simp only [pl, mu, wr_ar]
  exact qt1 (B := B) hy hB (by omega) (by omega)
/-- Division by y X - x Y: the quotient that the program takes is the exact one. -/
theorem dvd_mul {L M : List Int} {x y : Int} (h : GL L) (hp : PT x y) (e : L = mulL x y M) : dvd L x y = M ∧ GL M := by
  have hl := mulL_len x y M
  rw [← e] at hl
  have h4 := h.2.1
  have h0 : M ≠ [] := fun e0 => by
    subst e0; subst e
    have := h.b1; simp at this
  have hm : M.length = 1 ∨ M.length = 2 ∨ M.length = 3 := by
    have := List.length_pos_iff.2 h0; omega
  rcases hp with ⟨rfl, rfl⟩ | ⟨hy, hy', hx0, hx1, hg⟩
  · rcases hm with e1 | e1 | e1
    · obtain ⟨a, rfl⟩ := len_1 e1
      subst e
      obtain ⟨n0, ha, hb⟩ := h.b2
      refine ⟨?_, GL.m1 (by omega) (by omega)⟩
      simp [mulL1, dvd]; exact wr_in (by omega)
    · obtain ⟨a, b, rfl⟩ := len_2 e1
      subst e
      obtain ⟨n0, ha, hb, hc⟩ := h.b3
      refine ⟨?_, GL.m2 (by omega) (by omega) (by omega)⟩
      simp [mulL2, dvd]; exact ⟨wr_in (by omega), wr_in (by omega)⟩
    · obtain ⟨a, b, c, rfl⟩ := len_3 e1
      subst e
      obtain ⟨n0, ha, hb, hc, hd⟩ := h.b4
      refine ⟨?_, GL.m3 (by omega) (by omega) (by omega) (by omega)⟩
      simp [mulL3, dvd]; exact ⟨wr_in (by omega), wr_in (by omega), wr_in (by omega)⟩
  · have hx : -1000 ≤ x ∧ x ≤ 1000 := ⟨hx0, hx1⟩
    have ny : ¬ y = 0 := by omega
    have yz : ∀ {z : Int}, z = 0 → y * z = 0 := fun h => by rw [h]; simp
    have xz : ∀ {z : Int}, z = 0 → x * z = 0 := fun h => by rw [h]; simp
    rcases hm with e1 | e1 | e1
    · obtain ⟨a, rfl⟩ := len_1 e1
      subst e
      obtain ⟨n0, ha, hb⟩ := h.b2
      have qa := qq (B := 1003003001000) hy rfl (show -1003003001000 ≤ y * a ∧ y * a ≤ 1003003001000 by omega)
      refine ⟨?_, GL.m1 (fun h => n0 ⟨by rw [h]; simp, by rw [h]; simp⟩) qa⟩
      simp only [mulL1, dvd, ny, if_false, List.dropLast, List.foldl, dst, List.nil_append]
      rw [stq (B := 1003003001000) hy (by omega) rfl (by omega)]
    · obtain ⟨a, b, rfl⟩ := len_2 e1
      subst e
      obtain ⟨n0, ha, hb, hc⟩ := h.b3
      have qa := qq (B := 1002001000) hy rfl (show -1002001000 ≤ y * a ∧ y * a ≤ 1002001000 by omega)
      have m1 := mulb hx qa
      have qb := qq (B := 1003003001000) hy rfl (show -1003003001000 ≤ y * b ∧ y * b ≤ 1003003001000 by omega)
      refine ⟨?_, GL.m2 (fun h => n0 ⟨by rw [h.1]; simp, by rw [h.1, h.2]; simp, by rw [h.2]; simp⟩) (by omega) qb⟩
      simp only [mulL2, dvd, ny, if_false, List.dropLast, List.foldl, dst, List.nil_append, List.cons_append]
      rw [stq (z := a) (B := 1002001000) hy (by omega) rfl (by omega), stq (z := b) (B := 1003003001000) hy (by omega) rfl (by omega)]
    · obtain ⟨a, b, c, rfl⟩ := len_3 e1
      subst e
      obtain ⟨n0, ha, hb, hc, hd⟩ := h.b4
      have qa := qq (B := 1000) hy rfl (show -1000 ≤ y * a ∧ y * a ≤ 1000 by omega)
      have m1 := mulb hx qa
      have qb := qq (B := 1001000) hy rfl (show -1001000 ≤ y * b ∧ y * b ≤ 1001000 by omega)
      have m2 := mulb hx qb
      have qc := qq (B := 1001001000) hy rfl (show -1001001000 ≤ y * c ∧ y * c ≤ 1001001000 by omega)
      refine ⟨?_, GL.m3 (fun h => n0 ⟨by rw [h.1]; simp, by rw [h.1, h.2.1]; simp, by rw [h.2.1, h.2.2]; simp, by rw [h.2.2]; simp⟩) (by omega) (by omega) (by omega)⟩
      simp only [mulL3, dvd, ny, if_false, List.dropLast, List.foldl, dst, List.nil_append, List.cons_append]
      rw [stq (z := a) (B := 1000) hy (by omega) rfl (by omega), stq (z := b) (B := 1001000) hy (by omega) rfl (by omega), stq (z := c) (B := 1001001000) hy (by omega) rfl (by omega)]
/-- Where the value is 0 the form is a multiple. -/
theorem ev_mul {L : List Int} {x y : Int} (h : GL L) (hp : PT x y) (h0 : ev L x y = 0) : ∃ M, L = mulL x y M := by
  rcases h.cases with ⟨a, rfl⟩ | ⟨a, b, rfl⟩ | ⟨a, b, c, rfl⟩ | ⟨a, b, c, d, rfl⟩
  · rw [ev1] at h0; exact absurd h0 h.b1.1
  · rw [ev2] at h0
    rcases hp with ⟨rfl, rfl⟩ | ⟨hy, _, _, _, hg⟩
    · exact ⟨[-b], by rw [mulL1]; simp at h0 ⊢; exact h0⟩
    · obtain ⟨a', e1, e2⟩ := ex1 hy hg h0
      exact ⟨[a'], by rw [mulL1, e1, e2]; simp⟩
  · rw [ev3] at h0
    rcases hp with ⟨rfl, rfl⟩ | ⟨hy, _, _, _, hg⟩
    · exact ⟨[-b, -c], by rw [mulL2]; simp at h0 ⊢; exact h0⟩
    · obtain ⟨a', b', e1, e2, e3⟩ := ex2 hy hg h0
      exact ⟨[a', b'], by rw [mulL2, e1, e2, e3]; simp⟩
  · rw [ev4] at h0
    rcases hp with ⟨rfl, rfl⟩ | ⟨hy, _, _, _, hg⟩
    · exact ⟨[-b, -c, -d], by rw [mulL3]; simp [vx] at h0 ⊢; exact h0⟩
    · obtain ⟨a', b', c', e1, e2, e3, e4⟩ := ex3 hy hg h0
      exact ⟨[a', b', c'], by rw [mulL3, e1, e2, e3, e4]; simp⟩
theorem ev_app {M : List Int} {x y s t : Int} (h : M.length ≤ 3) : ev (mulL x y M) s t = (y * s - x * t) * ev M s t := by
  rcases (show M.length = 0 ∨ M.length = 1 ∨ M.length = 2 ∨ M.length = 3 by omega) with e | e | e | e
  · rw [List.length_eq_zero_iff.1 e, mulL0, ev1]; simp [ev]
  · obtain ⟨a, rfl⟩ := len_1 e
    rw [mulL1, ev2, ev1]; grind
  · obtain ⟨a, b, rfl⟩ := len_2 e
    rw [mulL2, ev3, ev2]; grind
  · obtain ⟨a, b, c, rfl⟩ := len_3 e
    rw [mulL3, ev4, ev3]; unfold vx; grind
theorem mulL_com {N : List Int} {x y s t : Int} (h : N.length ≤ 2) : mulL x y (mulL s t N) = mulL s t (mulL x y N) := by
  rcases (show N.length = 0 ∨ N.length = 1 ∨ N.length = 2 by omega) with e | e | e
  · rw [List.length_eq_zero_iff.1 e]; simp only [mulL0, mulL1]; simp
  · obtain ⟨a, rfl⟩ := len_1 e
    simp only [mulL1, mulL2, List.cons.injEq, and_true]; grind
  · obtain ⟨a, b, rfl⟩ := len_2 e
    simp only [mulL2, mulL3, List.cons.injEq, and_true]; grind
theorem mlt_e {x y : Int} {n : Nat} {L : List Int} (h : GL L) (hp : PT x y) : mlt 0 x y (n + 1) L = if ev L x y = 0 then mlt 0 x y n (dvd L x y) + 1 else 0 := by
  simp only [mlt, nva_ev h hp, mul0_0, decide_eq_true_eq]
/-- A factor of another root does not count. -/
theorem mlt_app {x y s t : Int} (hp : PT x y) (hq : PT s t) (hne : t * x - s * y ≠ 0) : ∀ (n : Nat) {L M : List Int}, GL L → L = mulL s t M → mlt 0 x y n L = mlt 0 x y n M := by
  intro n
  induction n with
  | zero => intro _ _ _ _; rfl
  | succ n ih =>
    intro L M hL e
    obtain ⟨_, hM⟩ := dvd_mul hL hq e
    have hl : M.length ≤ 3 := by have := mulL_len s t M; rw [← e] at this; have := hL.2.1; omega
    have he : ev L x y = 0 ↔ ev M x y = 0 := by
      rw [e, ev_app hl, Int.mul_eq_zero]
      exact ⟨fun h => h.resolve_left hne, .inr⟩
    rw [mlt_e hL hp, mlt_e hM hp]
    by_cases h0 : ev M x y = 0
    · obtain ⟨N, eN⟩ := ev_mul hM hp h0
      obtain ⟨d1, hN⟩ := dvd_mul hM hp eN
      have hNl : N.length ≤ 2 := by have := mulL_len x y N; rw [← eN] at this; omega
      have e2 : L = mulL x y (mulL s t N) := by rw [e, eN]; exact (mulL_com hNl).symm
      obtain ⟨d2, hK⟩ := dvd_mul hL hp e2
      rw [if_pos (he.2 h0), if_pos h0, d1, d2, ih hK rfl]
    · rw [if_neg h0, if_neg fun h => h0 (he.1 h)]


end Go.Proofs.YthheongdgcfngaaDoor
