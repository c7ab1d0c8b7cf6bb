/- Mathematics: a form with a place of the value 0 has a rational root; discriminants of irreducible forms are not 0. No Go function in sight. -/
import Derived.Test.YtmhlolimaeejfaaDoorZ12
import Derived.Test.YtmhlolimaeejfaaDoorGw
import Derived.Test.YtmhlolimaeejfaaDoorYl
namespace Go.Proofs.YtmhlolimaeejfaaDoor
open Go.RowKit

theorem nva_vx (a b c d x y : Int) : nva [a, b, c, d] x y = wrap64 (vx a b c d x y) := by
  simp only [nva, List.foldl_cons, List.foldl_nil, nst, pl, mu, wr_al, wr_ar, wr_ml, wr_mr]
  congr 1
  unfold vx
  grind
theorem vx_hom (a b c d g x y : Int) : vx a b c d (g * x) (g * y) = g * g * g * vx a b c d x y := by unfold vx; grind
/-- A place that is searched, with the value 0, is a root. -/
theorem rrt_of {a b c d : Int} {q : Int × Int} (hq : q ∈ rpl a b c d) (h0 : vx a b c d q.1 q.2 = 0) : rrt a b c d ≠ [] := by
  intro he
  have h1 : nva [a, b, c, d] q.1 q.2 = 0 := by rw [nva_vx, h0]; exact wr_in (by omega)
  have h2 : mlt 0 q.1 q.2 4 [a, b, c, d] ≠ 0 := by
    show (if mul0 (nva [a, b, c, d] q.1 q.2) 0 then _ + 1 else 0) ≠ 0
    rw [h1, if_pos (by decide)]
    omega
  unfold rrt rts at he
  have h3 := List.flatMap_eq_nil_iff.1 he q hq
  unfold rt1 at h3
  rw [if_neg h2] at h3
  cases h3
theorem abs_dvd {x n : Int} (h : x ∣ n) : x ∣ (n.natAbs : Int) := Int.dvd_natAbs.2 h
theorem le_abs {x n : Int} (h : x ∣ n) (hn : n ≠ 0) : (x.natAbs : Int) ≤ (n.natAbs : Int) := by
  have := Nat.le_of_dvd (Int.natAbs_pos.2 hn) (Int.natAbs_dvd_natAbs.2 h)
  omega
theorem fN_a {a b c d : Int} (h : a ≠ 0) : fN a b c d = a.natAbs := by
  have h1 : (flK a b c d 4).1 = (a.natAbs : Int) := by
    have ha' : ((a.natAbs : Nat) : Int) ≠ 0 := by omega
    simp only [flK, flS]
    (repeat' split) <;> simp_all
  unfold fN; omega
theorem lN_of (a b c d : Int) : lN a b c d = if d ≠ 0 then d.natAbs else if c ≠ 0 then c.natAbs else if b ≠ 0 then b.natAbs else a.natAbs := by
  have h1 : (flK a b c d 4).2 = ((if d ≠ 0 then d.natAbs else if c ≠ 0 then c.natAbs else if b ≠ 0 then b.natAbs else a.natAbs : Nat) : Int) := by
    simp only [flK, flS]
    (repeat' split) <;> simp_all
  unfold lN; omega
/-- y divides what it divides with a factor that has no common divisor with it. -/
theorem copr_dvd {u y n : Int} (h : Int.gcd u y = 1) (hd : y ∣ n * u) : y ∣ n := by
  have h1 : y.natAbs ∣ n.natAbs * u.natAbs := by rw [← Int.natAbs_mul]; exact Int.natAbs_dvd_natAbs.2 hd
  have h2 : Nat.Coprime y.natAbs u.natAbs := by rw [Nat.coprime_comm]; exact h
  exact Int.natAbs_dvd_natAbs.1 (h2.dvd_of_dvd_mul_right h1)
theorem cop2 {x y : Int} (h : Int.gcd x y = 1) : Int.gcd (x * x) y = 1 := by
  have h1 : Nat.Coprime x.natAbs y.natAbs := h
  show Nat.gcd (x * x).natAbs y.natAbs = 1
  rw [Int.natAbs_mul]; exact h1.mul_left h1
theorem cop3 {x y : Int} (h : Int.gcd x y = 1) : Int.gcd (x * x * x) y = 1 := by
  have h1 : Nat.Coprime x.natAbs y.natAbs := h
  show Nat.gcd (x * x * x).natAbs y.natAbs = 1
  rw [Int.natAbs_mul, Int.natAbs_mul]; exact (h1.mul_left h1).mul_left h1
/-- Coprime numbers of a place with the value 0 divide the outer numbers. -/
theorem root_dvd {a b c d x y : Int} (hg : Int.gcd x y = 1) (h0 : vx a b c d x y = 0) : y ∣ a ∧ (x ∣ d ∧ (d = 0 → y ≠ 0 → x = 0 ∨ (x ∣ c ∧ (c = 0 → x ∣ b ∧ (b = 0 → a = 0))))) := by
  have e : a * x * x * x + b * x * x * y + c * x * y * y + d * y * y * y = 0 := h0
  have hya : y ∣ a := by
    have h1 : y ∣ a * (x * x * x) := ⟨-(b * x * x + c * x * y + d * y * y), by grind⟩
    exact copr_dvd (cop3 hg) h1
  have hxd : x ∣ d := by
    have h1 : x ∣ d * (y * y * y) := ⟨-(a * x * x + b * x * y + c * y * y), by grind⟩
    exact copr_dvd (cop3 (by rw [Int.gcd_comm]; exact hg)) h1
  refine ⟨hya, hxd, fun hd hy => ?_⟩
  by_cases hx : x = 0
  · exact .inl hx
  right
  subst hd
  have e2 : a * x * x + b * x * y + c * y * y = 0 := by
    have h1 : x * (a * x * x + b * x * y + c * y * y) = 0 := by grind
    exact (Int.mul_eq_zero.1 h1).resolve_left hx
  refine ⟨?_, fun hc => ?_⟩
  · have h1 : x ∣ c * (y * y) := ⟨-(a * x + b * y), by grind⟩
    exact copr_dvd (cop2 (by rw [Int.gcd_comm]; exact hg)) h1
  · subst hc
    have e3 : a * x + b * y = 0 := by
      have h1 : x * (a * x + b * y) = 0 := by grind
      exact (Int.mul_eq_zero.1 h1).resolve_left hx
    refine ⟨?_, fun hb => ?_⟩
    · have h1 : x ∣ b * y := ⟨-a, by grind⟩
      exact copr_dvd (by rw [Int.gcd_comm]; exact hg) h1
    · subst hb
      have h1 : a * x = 0 := by grind
      exact (Int.mul_eq_zero.1 h1).resolve_right hx

/-- What divides the last number that is not 0, divides lN; and is not greater. -/
theorem lN_dv {a b c d x : Int} (hx : x ∣ d ∧ (d = 0 → x = 0 ∨ (x ∣ c ∧ (c = 0 → x ∣ b ∧ (b = 0 → a = 0))))) (ha : a ≠ 0) : x = 0 ∨ ((lN a b c d : Int) % x = 0 ∧ (x.natAbs : Int) ≤ (lN a b c d : Int)) := by
  rw [lN_of]
  have key : ∀ n : Int, n ≠ 0 → x ∣ n → ((n.natAbs : Nat) : Int) % x = 0 ∧ (x.natAbs : Int) ≤ (n.natAbs : Int) := fun n hn h => ⟨Int.emod_eq_zero_of_dvd (abs_dvd h), le_abs h hn⟩
  by_cases hd : d = 0
  · rcases hx.2 hd with h | ⟨h1, h2⟩
    · exact .inl h
    · right
      rw [if_neg (by simp [hd])]
      by_cases hc : c = 0
      · obtain ⟨h3, h4⟩ := h2 hc
        rw [if_neg (by simp [hc])]
        by_cases hb : b = 0
        · exact absurd (h4 hb) ha
        · rw [if_pos hb]; exact key b hb h3
      · rw [if_pos hc]; exact key c hc h1
  · right; rw [if_pos hd]; exact key d hd hx.1
theorem xs_mem {L x y : Int} (h1 : -L ≤ x) (h2 : x ≤ L) (h3 : x = 0 ∨ L % x = 0) (h4 : Int.gcd x y = 1) : x ∈ xsK L y (2 * L + 1).toNat := by
  unfold xsK
  refine List.mem_filter.2 ⟨List.mem_map.2 ⟨(x + L).toNat, List.mem_range.2 (by omega), by omega⟩, ?_⟩
  simp only [Bool.and_eq_true, Bool.or_eq_true, beq_iff_eq]
  exact ⟨h3, by omega⟩
theorem rp_mem {F L x y : Int} {n : Nat} (hy : 1 ≤ y) (hn : y ≤ n) (hF : F % y = 0) (hx : x ∈ xsK L y (2 * L + 1).toNat) : (x, y) ∈ rpK F L n := by
  unfold rpK
  refine List.mem_cons_of_mem _ (List.mem_flatMap.2 ⟨(y - 1).toNat, List.mem_range.2 (by omega), ?_⟩)
  have e : (((y - 1).toNat : Nat) : Int) + 1 = y := by omega
  unfold rpY prY
  rw [e, if_pos (by simpa using hF)]
  exact List.mem_map.2 ⟨x, hx, rfl⟩
/-- A form with a place of the value 0 has a rational root. -/
theorem rrt_ex {a b c d x0 y0 : Int} (hne : ¬ (x0 = 0 ∧ y0 = 0)) (h0 : vx a b c d x0 y0 = 0) : rrt a b c d ≠ [] := by
  by_cases ha : a = 0
  · refine rrt_of (q := (1, 0)) (by unfold rpl rpK; exact List.mem_cons_self ..) ?_
    subst ha; unfold vx; grind
  have hy0 : y0 ≠ 0 := by
    intro e
    subst e
    have h1 : a * (x0 * x0 * x0) = 0 := by have := h0; unfold vx at this; grind
    rcases Int.mul_eq_zero.1 h1 with h2 | h2
    · exact ha h2
    · have h3 : x0 = 0 := by
        rcases Int.mul_eq_zero.1 h2 with h3 | h3
        · rcases Int.mul_eq_zero.1 h3 with h4 | h4 <;> exact h4
        · exact h3
      exact hne ⟨h3, rfl⟩
  obtain ⟨g, hg⟩ : ∃ g : Nat, g = Int.gcd x0 y0 := ⟨_, rfl⟩
  have hg0 : 0 < g := by rw [hg]; exact Int.gcd_pos_of_ne_zero_right _ hy0
  obtain ⟨x1, hx1⟩ : (g : Int) ∣ x0 := hg ▸ Int.gcd_dvd_left ..
  obtain ⟨y1, hy1⟩ : (g : Int) ∣ y0 := hg ▸ Int.gcd_dvd_right ..
  have hco : Int.gcd x1 y1 = 1 := by
    have h1 : Int.gcd ((g : Int) * x1) ((g : Int) * y1) = g * Int.gcd x1 y1 := by rw [Int.gcd_mul_left]; simp
    rw [← hx1, ← hy1, ← hg] at h1
    have h2 : g * 1 = g * Int.gcd x1 y1 := by omega
    exact (Nat.eq_of_mul_eq_mul_left hg0 h2).symm
  have hv : vx a b c d x1 y1 = 0 := by
    rw [hx1, hy1, vx_hom] at h0
    refine (Int.mul_eq_zero.1 h0).resolve_left fun e => ?_
    rcases Int.mul_eq_zero.1 e with h3 | h3
    · rcases Int.mul_eq_zero.1 h3 with h4 | h4 <;> omega
    · omega
  have hy1n : y1 ≠ 0 := fun e => hy0 (by rw [hy1, e]; simp)
  obtain ⟨x, y, hyp, hcop, hvx⟩ : ∃ x y : Int, 1 ≤ y ∧ Int.gcd x y = 1 ∧ vx a b c d x y = 0 := by
    by_cases hs : 0 < y1
    · exact ⟨x1, y1, by omega, hco, hv⟩
    · refine ⟨-x1, -y1, by omega, by rw [Int.neg_gcd, Int.gcd_neg]; exact hco, ?_⟩
      have := vx_hom a b c d (-1) x1 y1
      rw [hv] at this
      simpa using this
  obtain ⟨h1, h2, h3⟩ := root_dvd hcop hvx
  refine rrt_of (q := (x, y)) ?_ hvx
  unfold rpl
  have hfa := fN_a (b := b) (c := c) (d := d) ha
  have hyl := le_abs h1 ha
  have hx := lN_dv ⟨h2, fun e => h3 e (by omega)⟩ ha
  refine rp_mem hyp (by rw [hfa]; omega) ?_ (xs_mem ?_ ?_ ?_ hcop)
  · rw [hfa]; exact Int.emod_eq_zero_of_dvd (abs_dvd h1)
  · rcases hx with h | ⟨_, h⟩ <;> omega
  · rcases hx with h | ⟨_, h⟩ <;> omega
  · rcases hx with h | ⟨h, _⟩
    · exact .inl h
    · exact .inr h
/-- Where the discriminant is 0, there is a place with the value 0. -/
theorem dx_root {a b c d : Int} (h : dx a b c d = 0) : ∃ x y, ¬ (x = 0 ∧ y = 0) ∧ vx a b c d x y = 0 := by
  by_cases ha : a = 0
  · exact ⟨1, 0, by omega, by subst ha; unfold vx; grind⟩
  by_cases hp : b * b - 3 * a * c = 0
  · refine ⟨-b, 3 * a, by omega, ?_⟩
    have e1 : (b * c - 9 * a * d) * (b * c - 9 * a * d) = 4 * (b * b - 3 * a * c) * (c * c - 3 * b * d) + -3 * dx a b c d := by unfold dx; grind
    have e2 : b * c - 9 * a * d = 0 := by
      rw [h, hp] at e1
      have : (b * c - 9 * a * d) * (b * c - 9 * a * d) = 0 := by rw [e1]; simp
      rcases Int.mul_eq_zero.1 this with h1 | h1 <;> exact h1
    have e3 : vx a b c d (-b) (3 * a) = 2 * a * b * (b * b - 3 * a * c) - 3 * a * a * (b * c - 9 * a * d) := by unfold vx; grind
    rw [e3, hp, e2]; simp
  · refine ⟨-(b * c - 9 * a * d), 2 * (b * b - 3 * a * c), by omega, ?_⟩
    have e : vx a b c d (-(b * c - 9 * a * d)) (2 * (b * b - 3 * a * c)) = dx a b c d * -(2 * b * b * b - 9 * a * b * c + 27 * a * a * d) := by unfold vx dx; grind
    rw [e, h]; simp

theorem irb_dx {a b c d : Int} (h : irb a b c d = true) : dx a b c d ≠ 0 := by
  intro h0
  obtain ⟨x, y, hn, hv⟩ := dx_root h0
  have h1 := rrt_ex hn hv
  unfold irb at h
  simp only [Bool.and_eq_true, beq_iff_eq] at h
  exact h1 (List.length_eq_zero_iff.1 (by omega))
theorem dx_fts (a b c d : Int) : Fts (dx a b c d) := by
  have e : dx a b c d = (b * c + a * d) * (b * c + a * d) + 4 * (-(a * c * c * c) - b * b * b * d - 7 * a * a * d * d + 4 * a * b * c * d) := by unfold dx; grind
  have h : Fts (1 * 1 * 1) := by unfold Fts; decide
  have h2 := fts_sq (e := 1) (b * c + a * d) (by unfold Fts; decide)
  rw [Int.mul_one] at h2
  rw [e]
  unfold Fts at *
  omega


end Go.Proofs.YtmhlolimaeejfaaDoor
