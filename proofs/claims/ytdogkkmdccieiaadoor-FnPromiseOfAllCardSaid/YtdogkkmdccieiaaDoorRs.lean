/- Chapter 5: kinds, both sides' the same: there are no two roots of a multiplicity greater than 1. Mathematics; no Go function in sight. -/
import Derived.Test.YtdogkkmdccieiaaDoorRq
import Derived.Test.YtdogkkmdccieiaaDoorRn
namespace Go.Proofs.YtdogkkmdccieiaaDoor
open Go.RowKit

theorem prq_dvd_mul {p x y : Int} (hp : prq p = true) (h : p ∣ x * y) : p ∣ x ∨ p ∣ y := by
  obtain ⟨h2, h97⟩ := prq_rng hp
  by_cases hx : p ∣ x
  · exact .inl hx
  · right
    have hg : Int.gcd p x = 1 := by
      have hd : ((Int.gcd p x : Nat) : Int) ∣ p := Int.gcd_dvd_left ..
      have hdx : ((Int.gcd p x : Nat) : Int) ∣ x := Int.gcd_dvd_right ..
      by_cases h1 : Int.gcd p x = 1
      · exact h1
      · exfalso
        have hpos : 0 < Int.gcd p x := Int.gcd_pos_of_ne_zero_left _ (by omega)
        have hle := Int.le_of_dvd (by omega) hd
        by_cases he : ((Int.gcd p x : Nat) : Int) = p
        · rw [he] at hdx; exact hx hdx
        · exact prq_div hp (Int.gcd p x) (by omega) (by omega) (Int.emod_eq_zero_of_dvd hd)
    have hc : Nat.Coprime p.natAbs x.natAbs := hg
    have hn : p.natAbs ∣ x.natAbs * y.natAbs := by rw [← Int.natAbs_mul]; exact Int.natAbs_dvd_natAbs.2 h
    exact Int.natAbs_dvd_natAbs.1 (hc.dvd_of_dvd_mul_left hn)
theorem prm_dvd_mul {p x y : Int} (hp : prm p = true) (h : p ∣ x * y) : p ∣ x ∨ p ∣ y := prq_dvd_mul (prm_prq hp) h
theorem mm3_2 {p u v t : Int} (h : 2 ≤ mm3 p u v t) : p ∣ t ∧ p ∣ v := by
  unfold mm3 at h
  by_cases h1 : p ∣ t
  · by_cases h2 : p ∣ v
    · exact ⟨h1, h2⟩
    · simp [h1, h2] at h
  · simp [h1] at h
theorem mm3_le (p u v t : Int) : mm3 p u v t ≤ 3 := by
  unfold mm3
  split
  · omega
  · split
    · omega
    · split <;> omega
/-- Two double roots, at x and x + h: all numbers are multiples. -/
theorem two_fin {p a b c d x h : Int} (hp : prq p = true) (hh : ¬ p ∣ h) (t1 : p ∣ g3 a b c d x) (v1 : p ∣ g2 a b c x) (t2 : p ∣ g3 a b c d (x + h)) (v2 : p ∣ g2 a b c (x + h)) : p ∣ a ∧ p ∣ b ∧ p ∣ c ∧ p ∣ d := by
  have e1 : g3 a b c d (x + h) - (g3 a b c d x + h * g2 a b c x) = h * (h * (g1 a b x + a * h)) := by unfold g3 g2 g1; grind
  have e2 : g2 a b c (x + h) - g2 a b c x = h * (2 * g1 a b x + 3 * (a * h)) := by unfold g2 g1; grind
  have d1 : p ∣ h * (h * (g1 a b x + a * h)) := by rw [← e1]; exact Int.dvd_sub t2 (Int.dvd_add t1 (Int.dvd_mul_of_dvd_right v1))
  have d2 : p ∣ h * (2 * g1 a b x + 3 * (a * h)) := by rw [← e2]; exact Int.dvd_sub v2 v1
  have q1 : p ∣ g1 a b x + a * h := by
    rcases prq_dvd_mul hp d1 with q | q
    · exact absurd q hh
    · rcases prq_dvd_mul hp q with q | q
      · exact absurd q hh
      · exact q
  have q2 : p ∣ 2 * g1 a b x + 3 * (a * h) := (prq_dvd_mul hp d2).resolve_left hh
  have q3 : p ∣ a * h := by
    have e : a * h = (2 * g1 a b x + 3 * (a * h)) - 2 * (g1 a b x + a * h) := by grind
    rw [e]; exact Int.dvd_sub q2 (Int.dvd_mul_of_dvd_right q1)
  have qa : p ∣ a := (prq_dvd_mul hp q3).resolve_right hh
  have q4 : p ∣ g1 a b x := by
    have e : g1 a b x = (g1 a b x + a * h) - a * h := by grind
    rw [e]; exact Int.dvd_sub q1 q3
  exact g_null t1 v1 q4 qa
theorem two_inf {p a b c d x : Int} (ta : p ∣ a) (vb : p ∣ b) (t : p ∣ g3 a b c d x) (v : p ∣ g2 a b c x) : p ∣ a ∧ p ∣ b ∧ p ∣ c ∧ p ∣ d :=
  g_null t v (by unfold g1; exact Int.dvd_add (Int.dvd_mul_of_dvd_left (Int.dvd_mul_of_dvd_right ta)) vb) ta
theorem nd_lt {p k j : Nat} (hj : j < p) (hkj : k < j) : ¬ (p : Int) ∣ ((j : Int) - k) := fun h => by
  have := Int.le_of_dvd (by omega) h; omega
/-- The list of roots: multiplicities of at most 3; no two greater than 1. -/
theorem rtp_pw {a b c d p : Int} (hF : isF a b c d = true) (hp : prq p = true) (hN : mul0 (cnt a b c d) p = false) : (rtp a b c d p).Pairwise fun r r' => ¬ (1 < r.2.2 ∧ 1 < r'.2.2) := by
  obtain ⟨ha, hb, hc, hd⟩ := isF_t hF
  obtain ⟨h2, h97⟩ := prq_rng hp
  have hN' : ¬ (p ∣ a ∧ p ∣ b ∧ p ∣ c ∧ p ∣ d) := fun h => by
    rw [mul0_d] at hN; exact absurd (cnt_dvd.2 h) (by simpa using hN)
  have hr1 : ∀ (q : Int × Int) (r : Int × Int × Int), r ∈ rt1 p [a, b, c, d] q → 1 < r.2.2 → 2 ≤ mlt p q.1 q.2 4 [a, b, c, d] := by
    intro q r hr h1
    unfold rt1 at hr
    split at hr
    · simp at hr
    · simp at hr; subst hr; simp only at h1; omega
  unfold rtp rts
  rw [List.pairwise_flatMap]
  refine ⟨fun q _ => ?_, ?_⟩
  · unfold rt1; split <;> simp
  · rw [List.pairwise_iff_getElem]
    intro i j hi hj hij r hr r' hr' ⟨h1, h1'⟩
    have m1 := hr1 _ _ hr h1
    have m2 := hr1 _ _ hr' h1'
    obtain ⟨n, rfl⟩ : ∃ n : Nat, p = n := ⟨p.toNat, by omega⟩
    have hl := ptm_len n
    have hin : i < n := by omega
    rw [ptm_k hin hi] at m1
    simp only at m1
    rw [(mlt_1 ha hb hc hd (by omega) hN).1] at m1
    have q1 := mm3_2 (show 2 ≤ mm3 n (g1 a b i) (g2 a b c i) (g3 a b c d i) by simpa [mmu] using m1)
    by_cases hjn : j < n
    · rw [ptm_k hjn hj] at m2
      simp only at m2
      rw [(mlt_1 ha hb hc hd (by omega) hN).1] at m2
      have q2 := mm3_2 (show 2 ≤ mm3 n (g1 a b j) (g2 a b c j) (g3 a b c d j) by simpa [mmu] using m2)
      have e : (j : Int) = i + (j - i) := by omega
      rw [e] at q2
      exact hN' (two_fin hp (nd_lt hjn hij) q1.1 q1.2 q2.1 q2.2)
    · have e : j = n := by omega
      subst e
      rw [ptm_e hj] at m2
      simp only at m2
      rw [(mlt_0 ha hb hc hd hN).1] at m2
      have q2 := mm3_2 (show 2 ≤ mm3 j c b a by simpa [mmu] using m2)
      exact hN' (two_inf q2.1 q2.2 q1.1 q1.2)
theorem rtp_3 {a b c d p : Int} (hF : isF a b c d = true) (hp : prq p = true) (hN : mul0 (cnt a b c d) p = false) : ∀ r ∈ rtp a b c d p, 0 < r.2.2 ∧ r.2.2 ≤ 3 := by
  obtain ⟨ha, hb, hc, hd⟩ := isF_t hF
  obtain ⟨h2, h97⟩ := prq_rng hp
  intro r hr
  unfold rtp rts at hr
  obtain ⟨q, hq, hr⟩ := List.mem_flatMap.1 hr
  obtain ⟨i, hi, rfl⟩ := List.getElem_of_mem hq
  have hm : mlt p (ptm p)[i].1 (ptm p)[i].2 4 [a, b, c, d] ≤ 3 := by
    obtain ⟨n, rfl⟩ : ∃ n : Nat, p = n := ⟨p.toNat, by omega⟩
    have hl := ptm_len n
    by_cases hin : i < n
    · rw [ptm_k hin hi]
      simp only
      rw [(mlt_1 ha hb hc hd (by omega) hN).1]
      unfold mmu; split <;> exact mm3_le _ _ _ _
    · have e : i = n := by omega
      subst e
      rw [ptm_e hi]
      simp only
      rw [(mlt_0 ha hb hc hd hN).1]
      unfold mmu; split <;> exact mm3_le _ _ _ _
  unfold rt1 at hr
  split at hr
  · simp at hr
  · simp at hr; subst hr; simp only; omega

/-- The number of a kind, out of the roots: the program's way; the model's way. -/
def kdp (R : List (Int × Int × Int)) : Int := match R.find? (fun r => decide (1 < r.2.2)) with | some r => if r.2.2 = 2 then 4 else 5 | none => if R.length = 3 then 1 else if R.length = 1 then 2 else 3
def mxt (R : List (Int × Int × Int)) : Int := R.foldl (fun m r => max m r.2.2) 0
def kdm (R : List (Int × Int × Int)) : Int := if mxt R = 3 then 5 else if mxt R = 2 then 4 else if R.length = 3 then 1 else if R.length = 1 then 2 else 3
theorem mx_of : ∀ (R : List (Int × Int × Int)) (m B : Int), m ≤ B → (∀ r ∈ R, r.2.2 ≤ B) → R.foldl (fun m r => max m r.2.2) m ≤ B := by
  intro R
  induction R with
  | nil => intro m B hm _; exact hm
  | cons r R ih =>
    intro m B hm h
    refine ih _ B ?_ (fun x hx => h x (List.mem_cons_of_mem _ hx))
    have := h r List.mem_cons_self
    show max m r.2.2 ≤ B
    omega
theorem mx_ge : ∀ (R : List (Int × Int × Int)) (m : Int), m ≤ R.foldl (fun m r => max m r.2.2) m ∧ ∀ r ∈ R, r.2.2 ≤ R.foldl (fun m r => max m r.2.2) m := by
  intro R
  induction R with
  | nil => intro m; exact ⟨Int.le_refl _, fun r hr => by simp at hr⟩
  | cons r R ih =>
    intro m
    obtain ⟨i1, i2⟩ := ih (max m r.2.2)
    refine ⟨by simp only [List.foldl_cons]; omega, fun x hx => ?_⟩
    simp only [List.foldl_cons]
    rcases List.mem_cons.1 hx with rfl | hx
    · omega
    · exact i2 x hx
theorem kd_eq {R : List (Int × Int × Int)} (hp : R.Pairwise fun r r' => ¬ (1 < r.2.2 ∧ 1 < r'.2.2)) (h3 : ∀ r ∈ R, 0 < r.2.2 ∧ r.2.2 ≤ 3) : kdp R = kdm R := by
  unfold kdp
  cases hf : R.find? (fun r => decide (1 < r.2.2)) with
  | none =>
    have h1 : mxt R ≤ 1 := mx_of R 0 1 (by omega) fun r hr => by
      have := List.find?_eq_none.1 hf r hr; simp at this; exact this
    simp [kdm, show ¬ mxt R = 3 by omega, show ¬ mxt R = 2 by omega]
  | some r =>
    have hr : r ∈ R := List.mem_of_find?_eq_some hf
    have h1 : 1 < r.2.2 := by have := List.find?_some hf; simpa using this
    have hb := h3 r hr
    have hge := (mx_ge R 0).2 r hr
    have hle : mxt R ≤ r.2.2 := mx_of R 0 _ (by omega) fun x hx => by
      by_cases hxr : x = r
      · subst hxr; exact Int.le_refl _
      · have h := hp
        rw [List.pairwise_iff_getElem] at h
        obtain ⟨i, hi, ei⟩ := List.getElem_of_mem hr
        obtain ⟨j, hj, ej⟩ := List.getElem_of_mem hx
        have hne : i ≠ j := fun e => by subst e; exact hxr (ej.symm.trans ei)
        rcases Nat.lt_or_gt_of_ne hne with hlt | hlt
        · have := h i j hi hj hlt; rw [ei, ej] at this; omega
        · have := h j i hj hi hlt; rw [ei, ej] at this; omega
    have he : mxt R = r.2.2 := by unfold mxt at *; omega
    simp only [kdm, he]
    by_cases h2 : r.2.2 = 2
    · simp [h2]
    · have : r.2.2 = 3 := by omega
      simp [this]
/-- The kind of a form modulo a prime. -/
def kdn (a b c d p : Int) : Int := if mul0 (cnt a b c d) p then 0 else kdp (rtp a b c d p)


end Go.Proofs.YtdogkkmdccieiaaDoor
