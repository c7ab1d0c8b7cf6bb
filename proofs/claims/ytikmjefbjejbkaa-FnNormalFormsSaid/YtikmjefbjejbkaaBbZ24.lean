/- Several texts in one: XGfl, XAu. -/
import Derived.Test.YtikmjefbjejbkaaBbZ23

/- Chapter 2: the model's reduction beside the program's: the same reduced forms, the same ways, up to their order. Mathematics. -/
namespace Go.Proofs.Ytikmjefbjejbkaa
open Go.RowKit
namespace Rd
theorem fl_ch {α β : Int} (hα : Sg α) (hβ : Sg β) (T : Red.F4) : fl α β T = ch T (α, 0, 0, β) := by
  obtain ⟨a, b, c, d⟩ := T
  unfold fl ch Red.fA Red.fB Red.fv
  dsimp only
  rcases hα with rfl | rfl <;> rcases hβ with rfl | rfl <;> refine Prod.ext ?_ (Prod.ext ?_ (Prod.ext ?_ ?_)) <;> dsimp only <;> grind
/-- A matrix of signs ahead. -/
def sgn (α β : Int) (u : Red.F4) : Red.F4 := (α * u.1, α * u.2.1, β * u.2.2.1, β * u.2.2.2)
theorem sgn_mz (α β : Int) (u : Red.F4) : mz (α, 0, 0, β) u = sgn α β u := by
  unfold mz sgn
  refine Prod.ext ?_ (Prod.ext ?_ (Prod.ext ?_ ?_)) <;> dsimp only <;> omega
theorem ch_fl {α β : Int} (hα : Sg α) (hβ : Sg β) (T u : Red.F4) : ch (fl α β T) u = ch T (sgn α β u) := by
  rw [fl_ch hα hβ, ch_ch, sgn_mz]
theorem sgn_sm {α β : Int} (hα : Sg α) (hβ : Sg β) {u : Red.F4} (h : Sm u) : Sm (sgn α β u) := by
  unfold Sm sgn at *
  dsimp only
  rcases hα with rfl | rfl <;> rcases hβ with rfl | rfl <;> omega
theorem sgn_dt {α β : Int} (hα : Sg α) (hβ : Sg β) {u : Red.F4} (h : dt u * dt u = 1) : dt (sgn α β u) * dt (sgn α β u) = 1 := by
  have e : dt (sgn α β u) = (α * β) * dt u := by unfold dt sgn; dsimp only; grind
  have e2 : (α * β) * (α * β) = 1 := by rcases hα with rfl | rfl <;> rcases hβ with rfl | rfl <;> rfl
  have e3 : (α * β) * dt u * ((α * β) * dt u) = (α * β) * (α * β) * (dt u * dt u) := by grind
  rw [e, e3, e2, h]; rfl
theorem sgn_sgn {α β : Int} (hα : Sg α) (hβ : Sg β) (u : Red.F4) : sgn α β (sgn α β u) = u := by
  unfold sgn
  rcases hα with rfl | rfl <;> rcases hβ with rfl | rfl <;> refine Prod.ext ?_ (Prod.ext ?_ (Prod.ext ?_ ?_)) <;> dsimp only <;> omega
theorem ub_fl {α β : Int} (hα : Sg α) (hβ : Sg β) {T : Red.F4} (h : Red.UB T) : Red.UB (fl α β T) := by
  intro x y z w hx hy hz hw hd
  have hs : Sm (sgn α β (x, y, z, w)) := sgn_sm hα hβ ⟨hx, hy, hz, hw⟩
  have h1 := ch_bd h hs (sgn_dt hα hβ hd)
  rw [← ch_fl hα hβ] at h1
  exact h1
theorem dscF_ch (T u : Red.F4) (h : dt u * dt u = 1) : dscF (ch T u) = dscF T := Red.dsc_ch h
/-- The same forms. -/
theorem got_fl {α β : Int} (hα : Sg α) (hβ : Sg β) {s : Bool} {T : Red.F4} {xs : List Red.F4} (h : Got s (fl α β T) (uni 81) xs) : Got s T (uni 81) xs := by
  refine ⟨h.1, fun q => (h.2 q).trans ?_⟩
  constructor
  · rintro ⟨u, h1, h2, h3⟩
    obtain ⟨k1, k2⟩ := uni_mem (Nat.le_refl _) h1
    rw [ch_fl hα hβ] at h2 h3
    exact ⟨_, uni_has (sgn_sm hα hβ k1) (sgn_dt hα hβ k2), h2, h3⟩
  · rintro ⟨u, h1, h2, h3⟩
    obtain ⟨k1, k2⟩ := uni_mem (Nat.le_refl _) h1
    refine ⟨_, uni_has (sgn_sm hα hβ k1) (sgn_dt hα hβ k2), ?_⟩
    rw [ch_fl hα hβ, sgn_sgn hα hβ]
    exact ⟨h2, h3⟩
/-- The first of them is the normal form. -/
theorem got_nrm {s : Bool} {T : Red.F4} {xs : List Red.F4} (h : Got s T (uni 81) xs) (hr : Red.rdF s T = true) : xs[0]? = some (nrm s T) := by
  have h0 : T ∈ xs := (h.2 T).2 ⟨(1, 0, 0, 1), uni_has (by unfold Sm; decide) (by decide), by rw [ch_one]; exact hr, ch_one T⟩
  cases xs with
  | nil => cases h0
  | cons x r =>
    have hm : mn (x :: r) = x := mn_eq (by simp) (by simp) (fun y hy => by
      rcases List.mem_cons.1 hy with rfl | hy
      · exact Ls.irrefl _
      · exact Ls.asymm ((List.pairwise_cons.1 h.1).1 y hy))
    have hn : mn (x :: r) = nrm s T := by
      unfold nrm
      refine mn_set (by simp) fun q => ?_
      rw [h.2 q]
      simp only [List.mem_map, List.mem_filter]
      constructor
      · rintro ⟨u, h1, h2, h3⟩; exact ⟨u, ⟨h1, h2⟩, h3⟩
      · rintro ⟨u, ⟨h1, h2⟩, h3⟩; exact ⟨u, h1, h2, h3⟩
    rw [← hn, hm]; rfl
theorem mm_fl {α β : Int} (M u : Red.F4) : mm (wf α β M) u = mm M (sgn α β u) := by
  unfold mm wf sgn
  dsimp only
  have e : ∀ x y p r : Int, mp (wrap64 (α * x)) p (wrap64 (β * y)) r = mp x (α * p) y (β * r) := fun x y p r => by
    rw [wmp2, wmp]; congr 1; grind
  rw [e, e, e, e]
/-- The same ways, in some order. -/
theorem wys_fl {α β : Int} (hα : Sg α) (hβ : Sg β) (T M q : Red.F4) : (wys (fl α β T) (wf α β M) (uni 81) q).Perm (wys T M (uni 81) q) := by
  have h1 : wys (fl α β T) (wf α β M) (uni 81) q = (((uni 81).map (sgn α β)).filter fun u => decide (ch T u = q)).map (mm M) := by
    unfold wys
    rw [List.filter_map, List.map_map]
    have e1 : (mm M ∘ sgn α β) = mm (wf α β M) := by funext u; exact (mm_fl M u).symm
    have e2 : ((fun u => decide (ch T u = q)) ∘ sgn α β) = fun u => decide (ch (fl α β T) u = q) := by funext u; simp only [Function.comp]; rw [ch_fl hα hβ]
    rw [e1, e2]
  have h2 : ((uni 81).map (sgn α β)).Perm (uni 81) := by
    refine (List.perm_ext_iff_of_nodup ?_ (uni_nodup (Nat.le_refl _))).2 fun u => ?_
    · refine List.Pairwise.map (sgn α β) (fun x y (hne : x ≠ y) e => ?_) (uni_nodup (Nat.le_refl _))
      have := congrArg (sgn α β) e
      rw [sgn_sgn hα hβ, sgn_sgn hα hβ] at this
      exact hne this
    · rw [List.mem_map]
      constructor
      · rintro ⟨v, h3, rfl⟩
        obtain ⟨k1, k2⟩ := uni_mem (Nat.le_refl _) h3
        exact uni_has (sgn_sm hα hβ k1) (sgn_dt hα hβ k2)
      · intro h3
        obtain ⟨k1, k2⟩ := uni_mem (Nat.le_refl _) h3
        exact ⟨_, uni_has (sgn_sm hα hβ k1) (sgn_dt hα hβ k2), sgn_sgn hα hβ u⟩
  rw [h1]
  unfold wys
  exact (h2.filter _).map _
end Rd

end Go.Proofs.Ytikmjefbjejbkaa

/- Matrices between reduced forms: what leads from one to another has entries -1, 0, 1 (above 0 by the Hessian; below 0 the identity alone keeps a form, but for a reflection, and a form that a reflection keeps is a product of a linear and a definite form with whole numbers); what keeps a reduced form: 1, 2, 3 or 6 units. Mathematics alone. -/
namespace Go.Proofs.Ytikmjefbjejbkaa
namespace Rd
/-- The inverse of a unit matrix. -/
def ivz (u : Red.F4) : Red.F4 := (dt u * u.2.2.2, -(dt u * u.2.1), -(dt u * u.2.2.1), dt u * u.1)
theorem mz_ivz {u : Red.F4} (h : dt u * dt u = 1) : mz u (ivz u) = (1, 0, 0, 1) := by
  obtain ⟨x, y, z, t⟩ := u
  unfold dt at h
  unfold mz ivz dt
  dsimp only at *
  refine Prod.ext ?_ (Prod.ext ?_ (Prod.ext ?_ ?_)) <;> dsimp only <;> grind
theorem ivz_mz {u : Red.F4} (h : dt u * dt u = 1) : mz (ivz u) u = (1, 0, 0, 1) := by
  obtain ⟨x, y, z, t⟩ := u
  unfold dt at h
  unfold mz ivz dt
  dsimp only at *
  refine Prod.ext ?_ (Prod.ext ?_ (Prod.ext ?_ ?_)) <;> dsimp only <;> grind
theorem dt_ivz {u : Red.F4} (h : dt u * dt u = 1) : dt (ivz u) = dt u := by
  obtain ⟨x, y, z, t⟩ := u
  unfold ivz
  generalize hg : dt (x, y, z, t) = g at *
  unfold dt at hg ⊢
  dsimp only at *
  have e : g * t * (g * x) - -(g * y) * -(g * z) = g * g * (x * t - y * z) := by grind
  rw [e, h, hg, Int.one_mul]
theorem mz_assoc (u v w : Red.F4) : mz (mz u v) w = mz u (mz v w) := by
  unfold mz
  refine Prod.ext ?_ (Prod.ext ?_ (Prod.ext ?_ ?_)) <;> dsimp only <;> grind
theorem mz_one (u : Red.F4) : mz u (1, 0, 0, 1) = u := by
  unfold mz
  refine Prod.ext ?_ (Prod.ext ?_ (Prod.ext ?_ ?_)) <;> dsimp only <;> omega
theorem one_mz (u : Red.F4) : mz (1, 0, 0, 1) u = u := by
  unfold mz
  refine Prod.ext ?_ (Prod.ext ?_ (Prod.ext ?_ ?_)) <;> dsimp only <;> omega
theorem dt2_mz {u v : Red.F4} (hu : dt u * dt u = 1) (hv : dt v * dt v = 1) : dt (mz u v) * dt (mz u v) = 1 := by
  rw [dt_mz]
  have e : dt u * dt v * (dt u * dt v) = dt u * dt u * (dt v * dt v) := by grind
  rw [e, hu, hv]; rfl
theorem dt2_ivz {u : Red.F4} (h : dt u * dt u = 1) : dt (ivz u) * dt (ivz u) = 1 := by rw [dt_ivz h, h]
/-- A reduced definite form's values. -/
theorem low1 {A B C x z : Int} (hA : 1 ≤ A) (h1 : B ≤ A) (h2 : -A ≤ B) (h3 : A ≤ C) (hz : z ≠ 0) : C ≤ Red.qv A B C x z := by
  have e : ∃ X Z B', (0 ≤ X ∧ 0 ≤ Z ∧ 1 ≤ Z) ∧ (-A ≤ B' ∧ B' ≤ A) ∧ Red.qv A B C x z = A*X*X + B'*X*Z + C*Z*Z := by
    unfold Red.qv
    rcases Int.le_total 0 x with k1 | k1 <;> rcases Int.le_total 0 z with k2 | k2
    · exact ⟨x, z, B, by omega, by omega, rfl⟩
    · exact ⟨x, -z, -B, by omega, by omega, by grind⟩
    · exact ⟨-x, z, -B, by omega, by omega, by grind⟩
    · exact ⟨-x, -z, B, by omega, by omega, by grind⟩
  obtain ⟨X, Z, B', ⟨hX, hZ, hZ1⟩, ⟨hb1, hb2⟩, e⟩ := e
  rw [e]
  have m1 : 0 ≤ (B' + A) * (X * Z) := Int.mul_nonneg (by omega) (Int.mul_nonneg hX hZ)
  have m2 : 0 ≤ (C - A) * (Z * Z) := Int.mul_nonneg (by omega) (Red.sq0 Z)
  have m3 : 0 ≤ (C - A) * (Z * Z - 1) := Int.mul_nonneg (by omega) (by have := Int.mul_le_mul hZ1 hZ1 (by omega) hZ; omega)
  have m4 : 0 ≤ A * ((X - Z) * (X - Z) + X * Z - 1) := Int.mul_nonneg (by omega) (by
    have s := Red.sq0 (X - Z)
    rcases Int.lt_or_le 0 X with k | k
    · have := Int.mul_le_mul (show 1 ≤ X by omega) hZ1 (by omega) hX; omega
    · have : X = 0 := by omega
      subst this
      have := Int.mul_le_mul hZ1 hZ1 (by omega) hZ
      grind)
  grind
theorem low2 {A B C x z : Int} (hA : 1 ≤ A) (h1 : B ≤ A) (h2 : -A ≤ B) (h3 : A ≤ C) (hz : z ≠ 0) (hb : ¬ (-1 ≤ x ∧ x ≤ 1 ∧ -1 ≤ z ∧ z ≤ 1)) : C < Red.qv A B C x z := by
  have e : ∃ X Z B', (0 ≤ X ∧ 0 ≤ Z ∧ 1 ≤ Z ∧ (2 ≤ X ∨ 2 ≤ Z)) ∧ (-A ≤ B' ∧ B' ≤ A) ∧ Red.qv A B C x z = A*X*X + B'*X*Z + C*Z*Z := by
    unfold Red.qv
    rcases Int.le_total 0 x with k1 | k1 <;> rcases Int.le_total 0 z with k2 | k2
    · exact ⟨x, z, B, by omega, by omega, rfl⟩
    · exact ⟨x, -z, -B, by omega, by omega, by grind⟩
    · exact ⟨-x, z, -B, by omega, by omega, by grind⟩
    · exact ⟨-x, -z, B, by omega, by omega, by grind⟩
  obtain ⟨X, Z, B', ⟨hX, hZ, hZ1, hXZ⟩, ⟨hb1, hb2⟩, e⟩ := e
  rw [e]
  have m1 : 0 ≤ (B' + A) * (X * Z) := Int.mul_nonneg (by omega) (Int.mul_nonneg hX hZ)
  have m3 : 0 ≤ (C - A) * (Z * Z - 1) := Int.mul_nonneg (by omega) (by have := Int.mul_le_mul hZ1 hZ1 (by omega) hZ; omega)
  have m4 : 0 < A * ((X - Z) * (X - Z) + X * Z - 1) := Int.mul_pos (by omega) (by
    have s := Red.sq0 (X - Z)
    rcases Int.lt_or_le 0 X with k | k
    · rcases hXZ with g | g
      · have := Int.mul_le_mul g hZ1 (by omega) hX; omega
      · have := Int.mul_le_mul (show 1 ≤ X by omega) g (by omega) hX; omega
    · have : X = 0 := by omega
      subst this
      have : 2 ≤ Z := by omega
      have := Int.mul_le_mul this this (by omega) hZ
      grind)
  grind
theorem qv_neg (A B C x z : Int) : Red.qv A B C (-x) (-z) = Red.qv A B C x z := by unfold Red.qv; grind
/-- Two reduced definite forms, one changed to the other by a unit: it is a small one. -/
theorem def_sm {A B C x y z t : Int} (hA : 1 ≤ A) (h1 : B ≤ A) (h2 : -A ≤ B) (h3 : A ≤ C)
    (k0 : 1 ≤ Red.qv A B C x z) (k1 : Red.qB A B C x y z t ≤ Red.qv A B C x z) (k2 : -(Red.qv A B C x z) ≤ Red.qB A B C x y z t) (k3 : Red.qv A B C x z ≤ Red.qv A B C y t)
    (hu : (x*t - y*z) * (x*t - y*z) = 1) : Sm (x, y, z, t) := by
  have hd : x*t - y*z = 1 ∨ x*t - y*z = -1 := by
    generalize x*t - y*z = g at hu
    have : (g - 1) * (g + 1) = 0 := by grind
    rcases Int.mul_eq_zero.1 this with h | h <;> omega
  have c1 : Red.qv (Red.qv A B C x z) (Red.qB A B C x y z t) (Red.qv A B C y t) t (-z) = A := by
    rw [Red.qv_ch]
    have e1 : x * t + y * -z = x*t - y*z := by grind
    have e2 : z * t + t * -z = 0 := by grind
    rw [e1, e2]
    unfold Red.qv
    rcases hd with h | h <;> rw [h] <;> grind
  have c2 : Red.qv (Red.qv A B C x z) (Red.qB A B C x y z t) (Red.qv A B C y t) (-y) x = C := by
    rw [Red.qv_ch]
    have e1 : x * -y + y * x = 0 := by grind
    have e2 : z * -y + t * x = x*t - y*z := by grind
    rw [e1, e2]
    unfold Red.qv
    rcases hd with h | h <;> rw [h] <;> grind
  unfold Sm
  dsimp only
  by_cases hz : z = 0
  · subst hz
    rw [Int.mul_zero, Int.sub_zero] at hd
    have hx : x ≠ 0 := by rintro rfl; omega
    have ht : t ≠ 0 := by rintro rfl; omega
    have xt : (x = 1 ∨ x = -1) ∧ (t = 1 ∨ t = -1) := by
      have hux : x * t * (x * t) = 1 := by rcases hd with h | h <;> rw [h] <;> rfl
      have h1 : x.natAbs * t.natAbs = 1 := by
        rw [← Int.natAbs_mul]
        rcases hd with h | h <;> rw [h] <;> rfl
      have := Nat.eq_one_of_mul_eq_one_right h1
      have := Nat.eq_one_of_mul_eq_one_left h1
      omega
    have g1 := low1 (x := -y) (z := x) k0 k1 k2 k3 hx
    rw [c2] at g1
    by_cases hb : -1 ≤ y ∧ y ≤ 1 ∧ -1 ≤ t ∧ t ≤ 1
    · omega
    · have := low2 hA h1 h2 h3 ht hb
      omega
  · have g1 := low1 (x := t) (z := -z) k0 k1 k2 k3 (by omega)
    rw [c1] at g1
    have b1 : -1 ≤ x ∧ x ≤ 1 ∧ -1 ≤ z ∧ z ≤ 1 := by
      by_cases hb : -1 ≤ x ∧ x ≤ 1 ∧ -1 ≤ z ∧ z ≤ 1
      · exact hb
      · have := low2 hA h1 h2 h3 hz hb; omega
    by_cases ht : t = 0
    · subst ht
      rw [Int.mul_zero, Int.zero_sub] at hd
      have : y.natAbs * z.natAbs = 1 := by
        rw [← Int.natAbs_mul]
        rcases hd with h | h
        · have : y * z = -1 := by omega
          rw [this]; rfl
        · have : y * z = 1 := by omega
          rw [this]; rfl
      have := Nat.eq_one_of_mul_eq_one_right this
      omega
    · by_cases hb : -1 ≤ y ∧ y ≤ 1 ∧ -1 ≤ t ∧ t ≤ 1
      · omega
      · have := low2 hA h1 h2 h3 ht hb; omega
theorem F4.eq {p q : Red.F4} (h : p = q) : p.1 = q.1 ∧ p.2.1 = q.2.1 ∧ p.2.2.1 = q.2.2.1 ∧ p.2.2.2 = q.2.2.2 := by rw [h]; exact ⟨rfl, rfl, rfl, rfl⟩
/-- What is fixed by the matrix 0, -1, 1, τ. -/
theorem fix_comp {a b c d τ : Int} (h : ch (a, b, c, d) (0, -1, 1, τ) = (a, b, c, d)) (hτ : τ ≠ -1) : (a = 0 ∧ b = 0 ∧ c = 0 ∧ d = 0) ∨ (τ = 2 ∧ b = 3*a ∧ c = 3*a ∧ d = a) := by
  obtain ⟨h1, h2, h3, h4⟩ := F4.eq h
  unfold ch Red.fA Red.fB Red.fv at h1 h2 h3 h4
  dsimp only at h1 h2 h3 h4
  have e1 : d = a := by grind
  subst e1
  have e2 : b = 3*d*τ - c := by grind
  subst e2
  have e3 : (τ + 1) * (2*c - 3*d*τ) = 0 := by grind
  have e4 : (τ + 1) * (d*(τ*τ + 2*τ - 2) - c*τ) = 0 := by grind
  have e5 : 2*c - 3*d*τ = 0 := by
    rcases Int.mul_eq_zero.1 e3 with k | k
    · omega
    · exact k
  have e6 : d*(τ*τ + 2*τ - 2) - c*τ = 0 := by
    rcases Int.mul_eq_zero.1 e4 with k | k
    · omega
    · exact k
  have e7 : d * ((τ - 2) * (τ - 2)) = 0 := by grind
  rcases Int.mul_eq_zero.1 e7 with k | k
  · subst k; left; omega
  · have : τ = 2 := by rcases Int.mul_eq_zero.1 k with k | k <;> omega
    subst this
    right; omega
theorem dsc_w (a b c d z : Int) : Red.dsc a (b*z) (c*z*z) (d*z*z*z) = z*z*z*z*z*z * Red.dsc a b c d := by unfold Red.dsc; grind
theorem mul0 {x y : Int} (h : x * y = 0) (hx : x ≠ 0) : y = 0 := by
  rcases Int.mul_eq_zero.1 h with k | k
  · exact absurd k hx
  · exact k
/-- A form fixed by a matrix of determinant 1: that is the identity, or its trace is -1. -/
theorem fix_one {a b c d x y z t : Int} (h : ch (a, b, c, d) (x, y, z, t) = (a, b, c, d)) (hd : x*t - y*z = 1) (hD : Red.dsc a b c d ≠ 0) : (x, y, z, t) = ((1, 0, 0, 1) : Red.F4) ∨ x + t = -1 := by
  by_cases hτ : x + t = -1
  · exact .inr hτ
  left
  by_cases hz : z = 0
  · subst hz
    obtain ⟨h1, h2, h3, h4⟩ := F4.eq h
    unfold ch Red.fA Red.fB Red.fv at h1 h2 h3 h4
    dsimp only at h1 h2 h3 h4
    have hxt : x * t = 1 := by omega
    have h5 : x.natAbs * t.natAbs = 1 := by rw [← Int.natAbs_mul, hxt]; rfl
    have h6 := Nat.eq_one_of_mul_eq_one_right h5
    have h7 := Nat.eq_one_of_mul_eq_one_left h5
    have h8 : (x = 1 ∧ t = 1) ∨ (x = -1 ∧ t = -1) := by
      rcases Int.natAbs_eq x with k | k <;> rcases Int.natAbs_eq t with g | g <;> rw [h6] at k <;> rw [h7] at g <;> simp at k g <;> subst k <;> subst g <;> simp at hxt ⊢
    rcases h8 with ⟨rfl, rfl⟩ | ⟨rfl, rfl⟩
    · have g1 : a * y = 0 := by grind
      by_cases hy : y = 0
      · subst hy; rfl
      · exfalso
        rcases Int.mul_eq_zero.1 g1 with k | k
        · subst k
          have g2 : b * y = 0 := by grind
          rcases Int.mul_eq_zero.1 g2 with k | k
          · subst k
            refine hD ?_
            unfold Red.dsc; grind
          · exact hy k
        · exact hy k
    · exfalso
      have g1 : a = 0 := by grind
      subst g1
      have g2 : b = 0 := by grind
      subst g2
      refine hD ?_
      unfold Red.dsc; grind
  · exfalso
    have hg : ch (ch (a, b, c, d) (1, x, 0, z)) (0, -1, 1, x + t) = ch (a, b, c, d) (1, x, 0, z) := by
      rw [ch_ch]
      have e : mz (1, x, 0, z) (0, -1, 1, x + t) = mz (x, y, z, t) (1, x, 0, z) := by
        unfold mz
        refine Prod.ext ?_ (Prod.ext ?_ (Prod.ext ?_ ?_)) <;> dsimp only <;> grind
      rw [e, ← ch_ch, h]
    generalize hG : ch (a, b, c, d) (1, x, 0, z) = G at hg
    obtain ⟨A, B, C, D⟩ := G
    obtain ⟨k1, k2, k3, k4⟩ := F4.eq hG
    unfold ch Red.fA Red.fB Red.fv at k1 k2 k3 k4
    dsimp only at k1 k2 k3 k4
    have hz6 : z*z*z*z*z*z ≠ 0 := by
      repeat' (refine Int.mul_ne_zero ?_ hz)
      exact hz
    rcases fix_comp hg hτ with ⟨rfl, rfl, rfl, rfl⟩ | ⟨_, hB, hC, hE⟩
    · have g1 : a = 0 := by omega
      subst g1
      have g2 : b = 0 := by
        have : z * b = 0 := by grind
        exact mul0 this hz
      subst g2
      refine hD ?_
      unfold Red.dsc; grind
    · have e1 : a = A := by grind
      subst e1
      subst hB
      subst hC
      have hE2 := hE.symm
      subst hE2
      have e2 : b*z = 3*a*(1 - x) := by grind
      have e3 : c*z*z = 3*a*((1 - x)*(1 - x)) := by grind
      have e4 : d*z*z*z = a*((1 - x)*(1 - x)*(1 - x)) := by grind
      have e5 := dsc_w a b c d z
      rw [e2, e3, e4] at e5
      have e6 : Red.dsc a (3*a*(1 - x)) (3*a*((1 - x)*(1 - x))) (a*((1 - x)*(1 - x)*(1 - x))) = 0 := by unfold Red.dsc; grind
      rw [e6] at e5
      exact hD (mul0 e5.symm hz6)
/-- The Hessian's equations. -/
theorem fix_hes {P Q R x y z t : Int} (h1 : Red.qv P Q R x z = P) (h2 : Red.qB P Q R x y z t = Q) (hd : x*t - y*z = 1) : P*(t - x) = Q*z := by
  unfold Red.qv at h1
  unfold Red.qB at h2
  have e : 2*P*x*(x*t - y*z) + Q*z*(x*t - y*z) = 2*(P*t) - Q*z := by
    have := congrArg (fun n => 2*t*n) h1
    have := congrArg (fun n => z*n) h2
    grind
  rw [hd] at e
  grind
theorem fix_hes2 {P Q R x y z t : Int} (h1 : Red.qv P Q R x z = P) (h2 : Red.qB P Q R x y z t = Q) (hd : x*t - y*z = 1) : P*y = -(R*z) := by
  unfold Red.qv at h1
  unfold Red.qB at h2
  -- x times the second less 2 y times the first
  have e : Q*x*(x*t - y*z) + 2*R*z*(x*t - y*z) = Q*x - 2*(P*y) := by
    have := congrArg (fun n => x*n) h2
    have := congrArg (fun n => 2*y*n) h1
    grind
  rw [hd] at e
  grind
theorem fix_h {a b c d x y z t : Int} (h : ch (a, b, c, d) (x, y, z, t) = (a, b, c, d)) (hd : x*t - y*z = 1) : Red.hP a b c*(t - x) = Red.hQ a b c d*z ∧ Red.hP a b c*y = -(Red.hP d c b*z) := by
  obtain ⟨h1, h2, h3, h4⟩ := F4.eq h
  unfold ch at h1 h2 h3 h4
  dsimp only at h1 h2 h3 h4
  have k1 := Red.hes_ch a b c d x y z t
  have k2 := Red.hesQ_ch a b c d x y z t
  rw [hd] at k1 k2
  rw [h1, h2, h3] at k1
  rw [h1, h2, h3, h4] at k2
  exact ⟨fix_hes (R := Red.hP d c b) (by omega) (by omega) hd, fix_hes2 (Q := Red.hQ a b c d) (by omega) (by omega) hd⟩
/-- Three turns: the discriminant is above 0. -/
theorem turn3 {a b c d x y z t : Int} (h : ch (a, b, c, d) (x, y, z, t) = (a, b, c, d)) (hd : x*t - y*z = 1) (hτ : x + t = -1) : z*z * (3 * Red.dsc a b c d) = 3 * (Red.hP a b c * Red.hP a b c) := by
  obtain ⟨k1, k2⟩ := fix_h h hd
  have k3 := Red.hes_disc a b c d
  generalize Red.hP a b c = P at *
  generalize Red.hQ a b c d = Q at *
  generalize Red.hP d c b = R at *
  rw [← k3]
  have e1 : z*z*(4*P*R - Q*Q) = -(4*P*(P*y)*z) - (Q*z)*(Q*z) := by rw [k2]; grind
  rw [e1, ← k1]
  have e2 : t = -1 - x := by omega
  subst e2
  have e3 : y*z = -(x*x + x + 1) := by grind
  have e4 : 4*P*(P*y)*z = 4*P*P*(y*z) := by grind
  rw [e4, e3]
  grind
theorem z_ne {x y z t : Int} (hd : x*t - y*z = 1) (hτ : x + t = -1) : z ≠ 0 := by
  rintro rfl
  have hxt : x * t = 1 := by omega
  have h5 : x.natAbs * t.natAbs = 1 := by rw [← Int.natAbs_mul, hxt]; rfl
  have h6 := Nat.eq_one_of_mul_eq_one_right h5
  have h7 := Nat.eq_one_of_mul_eq_one_left h5
  rcases Int.natAbs_eq x with k | k <;> rcases Int.natAbs_eq t with g | g <;> rw [h6] at k <;> rw [h7] at g <;> simp at k g <;> subst k <;> subst g <;> simp at hxt hτ
/-- Below 0 the identity alone has the determinant 1. -/
theorem fix_neg {a b c d x y z t : Int} (h : ch (a, b, c, d) (x, y, z, t) = (a, b, c, d)) (hd : x*t - y*z = 1) (hD : Red.dsc a b c d < 0) : (x, y, z, t) = ((1, 0, 0, 1) : Red.F4) := by
  rcases fix_one h hd (by omega) with k | k
  · exact k
  · exfalso
    have k1 := turn3 h hd k
    have k2 := Red.sq0 (Red.hP a b c)
    have hz := z_ne hd k
    have k3 : 0 < z*z := by
      have := Red.sq0 z
      have : z*z ≠ 0 := Int.mul_ne_zero hz hz
      omega
    have : z*z*(3 * Red.dsc a b c d) < 0 := Int.mul_neg_of_pos_of_neg k3 (by omega)
    omega
/-- A reflection. -/
theorem fix_refl {a b c d x y z t : Int} (h : ch (a, b, c, d) (x, y, z, t) = (a, b, c, d)) (hd : x*t - y*z = -1) (hD : Red.dsc a b c d < 0) : x + t = 0 := by
  have h2 : ch (a, b, c, d) (mz (x, y, z, t) (x, y, z, t)) = (a, b, c, d) := by rw [← ch_ch, h, h]
  unfold mz at h2
  dsimp only at h2
  have h3 := fix_neg h2 (by
    have : (x*x + y*z)*(z*y + t*t) - (x*y + y*t)*(z*x + t*z) = (x*t - y*z)*(x*t - y*z) := by grind
    rw [this, hd]; rfl) hD
  obtain ⟨g1, g2, g3, g4⟩ := F4.eq h3
  dsimp only at g1 g2 g3 g4
  have e1 : x*(x + t) = 0 := by grind
  have e2 : t*(x + t) = 0 := by grind
  have e3 : (x + t)*(x + t) = 0 := by grind
  rcases Int.mul_eq_zero.1 e3 with k | k <;> exact k
/-- A root of a form that a reflection keeps. -/
theorem refl_root {a b c d x y z t : Int} (h : ch (a, b, c, d) (x, y, z, t) = (a, b, c, d)) (hd : x*t - y*z = -1) (hτ : x + t = 0) : ∃ r s : Int, (r ≠ 0 ∨ s ≠ 0) ∧ Red.fv a b c d r s = 0 := by
  have key : ∀ u v : Int, x*u + y*v = -u → z*u + t*v = -v → Red.fv a b c d u v = 0 := fun u v h1 h2 => by
    have e := Red.fA_ch a b c d x y z t u v
    obtain ⟨g1, g2, g3, g4⟩ := F4.eq h
    unfold ch at g1 g2 g3 g4
    dsimp only at g1 g2 g3 g4
    rw [g1, g2, g3, g4, h1, h2] at e
    unfold Red.fA at e
    have e2 : Red.fv a b c d (-u) (-v) = - Red.fv a b c d u v := by unfold Red.fv; grind
    omega
  have ht : t = -x := by omega
  subst ht
  have hyz : y*z = 1 - x*x := by grind
  by_cases hw : 1 - x = 0 ∧ z = 0
  · obtain ⟨h1, rfl⟩ := hw
    have : x = 1 := by omega
    subst this
    exact ⟨-y, 2, .inr (by omega), key _ _ (by grind) (by grind)⟩
  · exact ⟨1 - x, -z, by omega, key _ _ (by grind) (by grind)⟩
/-- A form that is a product, up to a number. -/
def Fac (T : Red.F4) : Prop := ∃ S p q A B C : Int, S ≠ 0 ∧ S * T.1 = p*A ∧ S * T.2.1 = p*B + q*A ∧ S * T.2.2.1 = p*C + q*B ∧ S * T.2.2.2 = q*C ∧ 1 ≤ A ∧ 1 ≤ 4*A*C - B*B ∧ (p ≠ 0 ∨ q ≠ 0)
theorem fac_of {a b c d S p q A B C : Int} (hS : S ≠ 0) (ha : S*a = p*A) (hb : S*b = p*B + q*A) (hc : S*c = p*C + q*B) (hd : S*d = q*C) (hD : Red.dsc a b c d < 0) : Fac (a, b, c, d) := by
  have h1 := Red.dsc_lq p q A B C
  rw [← ha, ← hb, ← hc, ← hd] at h1
  have h2 : Red.dsc (S*a) (S*b) (S*c) (S*d) = S*S*S*S * Red.dsc a b c d := by unfold Red.dsc; grind
  rw [h2] at h1
  have hS4 : 0 < S*S*S*S := by
    have : 0 < S*S := by
      have := Red.sq0 S
      have : S*S ≠ 0 := Int.mul_ne_zero hS hS
      omega
    have e : S*S*S*S = S*S*(S*S) := by grind
    rw [e]; exact Int.mul_pos this this
  have h3 : S*S*S*S * Red.dsc a b c d < 0 := Int.mul_neg_of_pos_of_neg hS4 hD
  have hJ : 1 ≤ 4*A*C - B*B := by
    rcases Int.lt_or_le 0 (4*A*C - B*B) with k | k
    · omega
    · have := Red.sq0 (A*q*q - B*p*q + C*p*p)
      have : (4*A*C - B*B) * ((A*q*q - B*p*q + C*p*p) * (A*q*q - B*p*q + C*p*p)) ≤ 0 := Int.mul_nonpos_of_nonpos_of_nonneg k this
      omega
  have hpq : p ≠ 0 ∨ q ≠ 0 := by
    by_cases hp : p = 0
    · right
      rintro rfl
      subst hp
      simp at h1
      omega
    · exact .inl hp
  have hA : A ≠ 0 := by
    rintro rfl
    have := Red.sq0 B
    simp at hJ
    omega
  rcases Int.lt_or_gt_of_ne hA with k | k
  · refine ⟨S, -p, -q, -A, -B, -C, hS, ?_, ?_, ?_, ?_, by omega, ?_, by omega⟩
    · dsimp only; rw [ha, Int.neg_mul_neg]
    · dsimp only; rw [hb, Int.neg_mul_neg, Int.neg_mul_neg]
    · dsimp only; rw [hc, Int.neg_mul_neg, Int.neg_mul_neg]
    · dsimp only; rw [hd, Int.neg_mul_neg]
    · have : 4 * -A * -C - -B * -B = 4*A*C - B*B := by grind
      omega
  · exact ⟨S, p, q, A, B, C, hS, ha, hb, hc, hd, by omega, hJ, hpq⟩
theorem root_fac {a b c d r s : Int} (h0 : r ≠ 0 ∨ s ≠ 0) (h : Red.fv a b c d r s = 0) (hD : Red.dsc a b c d < 0) : Fac (a, b, c, d) := by
  by_cases hs : s = 0
  · subst hs
    have hr : r ≠ 0 := by omega
    have ha : a = 0 := by
      unfold Red.fv at h
      have : r*(r*(r*a)) = 0 := by grind
      exact mul0 (mul0 (mul0 this hr) hr) hr
    subst ha
    exact fac_of (S := 1) (p := 0) (q := 1) (A := b) (B := c) (C := d) (by omega) (by omega) (by omega) (by omega) (by omega) hD
  · refine fac_of (S := s*s*s) (p := s) (q := -r) (A := a*s*s) (B := b*s*s + a*r*s) (C := c*s*s + b*r*s + a*r*r) (Int.mul_ne_zero (Int.mul_ne_zero hs hs) hs) ?_ ?_ ?_ ?_ hD
    · grind
    · grind
    · grind
    · unfold Red.fv at h; grind
theorem Fac.ch {T u : Red.F4} (h : Fac T) (hu : dt u * dt u = 1) : Fac (ch T u) := by
  obtain ⟨a, b, c, d⟩ := T
  obtain ⟨x, y, z, t⟩ := u
  obtain ⟨S, p, q, A, B, C, hS, ha, hb, hc, hd, hA, hJ, hpq⟩ := h
  dsimp only at ha hb hc hd
  unfold dt at hu
  dsimp only at hu
  have hd' : S*d = q*C + 0 := by omega
  have f1 := Red.fA_near ha hb hc hd' x z
  have f2 := Red.fB_near ha hb hc hd' x y z t
  have f3 := Red.fB_near ha hb hc hd' y x t z
  have f4 := Red.fA_near ha hb hc hd' y t
  rw [Int.zero_mul, Int.add_zero] at f1 f2 f3 f4
  have jc := Red.J_ch A B C x y z t
  rw [hu, Int.mul_one] at jc
  have q0 := Red.qv_nn hA hJ x z
  refine ⟨S, p*x + q*z, p*y + q*t, Red.qv A B C x z, Red.qB A B C x y z t, Red.qv A B C y t, hS, f1, f2, ?_, f4, ?_, by omega, ?_⟩
  · unfold Rd.ch; dsimp only; rw [f3, Red.qB_sw]; omega
  · rcases Int.lt_or_eq_of_le q0 with k | k
    · omega
    · exfalso
      rw [← k] at jc
      have := Red.sq0 (Red.qB A B C x y z t)
      simp at jc
      omega
  · have e1 : (p*x + q*z)*t - (p*y + q*t)*z = p*(x*t - y*z) := by grind
    have e2 : (p*y + q*t)*x - (p*x + q*z)*y = q*(x*t - y*z) := by grind
    have hg : x*t - y*z ≠ 0 := by intro e; rw [e] at hu; simp at hu
    by_cases k : p*x + q*z = 0
    · right
      intro k2
      rw [k, k2, Int.zero_mul, Int.zero_mul, Int.sub_zero] at e1 e2
      rcases Int.mul_eq_zero.1 e1.symm with e1 | e1
      · rcases Int.mul_eq_zero.1 e2.symm with e2 | e2
        · omega
        · exact hg e2
      · exact hg e1
    · exact .inl k
theorem rdF_iff {s : Bool} {T : Red.F4} : Red.rdF s T = true ↔ 0 ≤ Red.lf s T.1 T.2.1 T.2.2.1 T.2.2.2 ∧ 0 ≤ Red.rt s T.1 T.2.1 T.2.2.1 T.2.2.2 ∧ 0 ≤ Red.hg s T.1 T.2.1 T.2.2.1 T.2.2.2 := by
  unfold Red.rdF Red.isR
  simp only [Bool.and_eq_true, decide_eq_true_eq, and_assoc]
theorem qv_pos {A B C : Int} (hA : 1 ≤ A) (hJ : 1 ≤ 4*A*C - B*B) {x z : Int} (h : x ≠ 0 ∨ z ≠ 0) : 0 < Red.qv A B C x z := by
  have h0 := Red.qv_nn hA hJ x z
  rcases Int.lt_or_eq_of_le h0 with k | k
  · exact k
  · exfalso
    have h1 := Red.qv_id A B C x z
    rw [← k, Int.mul_zero] at h1
    have h2 := Red.sq0 (2*A*x + B*z)
    have h3 := Red.sq0 z
    have h4 : 0 ≤ (4*A*C - B*B) * (z*z) := Int.mul_nonneg (by omega) h3
    have h5 : (4*A*C - B*B) * (z*z) = 0 := by omega
    have hz : z = 0 := by
      have := mul0 h5 (by omega)
      rcases Int.mul_eq_zero.1 this with k | k <;> exact k
    subst hz
    have h6 : (2*A*x) * (2*A*x) = 0 := by simp at h1 ⊢; omega
    have h7 : 2*A*x = 0 := by rcases Int.mul_eq_zero.1 h6 with k | k <;> exact k
    have := mul0 h7 (by omega)
    omega
theorem lf_S (S a b c d : Int) : Red.lf false (S*a) (S*b) (S*c) (S*d) = S*S*Red.lf false a b c d := by simp only [Red.lf]; grind
theorem hg_S (S a b c d : Int) : Red.hg false (S*a) (S*b) (S*c) (S*d) = S*S*Red.hg false a b c d := by simp only [Red.hg]; grind
theorem nn_fac {x y : Int} (h : 0 ≤ x * y) (hy : 0 < y) : 0 ≤ x := by
  rcases Int.lt_or_le x 0 with k | k
  · have := Int.mul_neg_of_neg_of_pos k hy; omega
  · exact k
theorem mar1 {a b c d S p q A B C : Int} (ha : S*a = p*A) (hb : S*b = p*B + q*A) (hc : S*c = p*C + q*B) (hd : S*d = q*C) (hA : 1 ≤ A) (hJ : 1 ≤ 4*A*C - B*B) (hpq : p ≠ 0 ∨ q ≠ 0) (h : 0 ≤ Red.lf false a b c d) : B ≤ A := by
  have h1 := Red.lf_prod p q A B C
  rw [← ha, ← hb, ← hc, ← hd, lf_S] at h1
  have h2 : 0 ≤ S*S*Red.lf false a b c d := Int.mul_nonneg (Red.sq0 S) h
  have h3 := nn_fac (by omega : 0 ≤ (A - B) * Red.qv A B C (p - q) (-p)) (qv_pos hA hJ (by omega))
  omega
theorem mar {a b c d S p q A B C : Int} (ha : S*a = p*A) (hb : S*b = p*B + q*A) (hc : S*c = p*C + q*B) (hd : S*d = q*C) (hA : 1 ≤ A) (hJ : 1 ≤ 4*A*C - B*B) (hpq : p ≠ 0 ∨ q ≠ 0) (h : Red.rdF false (a, b, c, d) = true) : B ≤ A ∧ -A ≤ B ∧ A ≤ C := by
  obtain ⟨k1, k2, k3⟩ := rdF_iff.1 h
  dsimp only at k1 k2 k3
  refine ⟨mar1 ha hb hc hd hA hJ hpq k1, ?_, ?_⟩
  · rw [Red.rt_lf] at k2
    have := mar1 (a := a) (b := -b) (c := c) (d := -d) (S := S) (p := p) (q := -q) (A := A) (B := -B) (C := C) ha (by rw [Int.mul_neg, hb]; grind) (by rw [hc]; grind) (by rw [Int.mul_neg, hd]; grind) hA (by rw [Int.neg_mul_neg]; exact hJ) (by omega) k2
    omega
  · have h1 := Red.hg_prod p q A B C
    rw [← ha, ← hb, ← hc, ← hd, hg_S] at h1
    have h2 : 0 ≤ S*S*Red.hg false a b c d := Int.mul_nonneg (Red.sq0 S) k3
    have h3 := nn_fac (by omega : 0 ≤ (C - A) * Red.qv A B C p (-q)) (qv_pos hA hJ (by omega))
    omega
/-- The sign fits the discriminant. -/
def Sgn (s : Bool) (T : Red.F4) : Prop := (s = true → 0 < dscF T) ∧ (s = false → dscF T < 0)
theorem Sgn.ch {s : Bool} {T u : Red.F4} (h : Sgn s T) (hu : dt u * dt u = 1) : Sgn s (ch T u) := by unfold Sgn; rw [dscF_ch T u hu]; exact h
theorem sm_pos {T v : Red.F4} (hD : 0 < dscF T) (hT : Red.rdF true T = true) (hN : Red.rdF true (ch T v) = true) (hv : dt v * dt v = 1) : Sm v := by
  obtain ⟨a, b, c, d⟩ := T
  obtain ⟨x, y, z, t⟩ := v
  obtain ⟨k1, k2, k3⟩ := rdF_iff.1 hT
  obtain ⟨g1, g2, g3⟩ := rdF_iff.1 hN
  have hD' : 0 < Red.dsc a b c d := hD
  obtain ⟨p1, p2⟩ := Red.pos_pr hD'
  have hv' : (x*t - y*z) * (x*t - y*z) = 1 := hv
  have hv2 : (y*z - x*t) * (y*z - x*t) = 1 := by rw [← hv']; grind
  have e1 := Red.hes_ch a b c d x y z t
  have e2 := Red.hesQ_ch a b c d x y z t
  have e3 := Red.hes_ch a b c d y x t z
  rw [hv', Int.mul_one] at e1 e2
  rw [hv2, Int.mul_one] at e3
  have e4 := Red.hes_disc (Red.fA a b c d x z) (Red.fB a b c d x y z t) (Red.fB a b c d y x t z) (Red.fA a b c d y t)
  rw [Red.dsc_ch hv'] at e4
  have hD2 : 0 < Red.dsc (Red.fA a b c d x z) (Red.fB a b c d x y z t) (Red.fB a b c d y x t z) (Red.fA a b c d y t) := by rw [Red.dsc_ch hv']; exact hD'
  obtain ⟨p3, p4⟩ := Red.pos_pr hD2
  have hl : ∀ a b c d : Int, Red.lf true a b c d = Red.hP a b c - Red.hQ a b c d := fun a b c d => rfl
  have hr : ∀ a b c d : Int, Red.rt true a b c d = Red.hP a b c + Red.hQ a b c d := fun a b c d => rfl
  have hh : ∀ a b c d : Int, Red.hg true a b c d = Red.hP d c b - Red.hP a b c := fun a b c d => by simp only [Red.hg, Red.hP, if_true]; grind
  unfold Rd.ch at g1 g2 g3
  dsimp only at k1 k2 k3 g1 g2 g3
  rw [hl] at k1 g1
  rw [hr] at k2 g2
  rw [hh] at k3 g3
  rw [e1, e2] at g1 g2
  rw [e1, e3] at g3
  rw [e1] at p3
  exact def_sm (A := Red.hP a b c) (B := Red.hQ a b c d) (C := Red.hP d c b) (by omega) (by omega) (by omega) (by omega) (by omega) (by omega) (by omega) (by omega) hv'
theorem sm_fac {T v : Red.F4} (hF : Fac T) (hT : Red.rdF false T = true) (hN : Red.rdF false (ch T v) = true) (hv : dt v * dt v = 1) : Sm v := by
  obtain ⟨a, b, c, d⟩ := T
  obtain ⟨x, y, z, t⟩ := v
  obtain ⟨S, p, q, A, B, C, hS, ha, hb, hc, hd, hA, hJ, hpq⟩ := hF
  dsimp only at ha hb hc hd
  have hv' : (x*t - y*z) * (x*t - y*z) = 1 := hv
  obtain ⟨m1, m2, m3⟩ := mar ha hb hc hd hA hJ hpq hT
  have hd' : S*d = q*C + 0 := by omega
  have f1 := Red.fA_near ha hb hc hd' x z
  have f2 := Red.fB_near ha hb hc hd' x y z t
  have f3 := Red.fB_near ha hb hc hd' y x t z
  have f4 := Red.fA_near ha hb hc hd' y t
  rw [Int.zero_mul, Int.add_zero] at f1 f2 f3 f4
  have jc := Red.J_ch A B C x y z t
  rw [hv', Int.mul_one] at jc
  have hxz : x ≠ 0 ∨ z ≠ 0 := by
    by_cases hx : x = 0
    · right; rintro rfl; subst hx; simp at hv'
    · exact .inl hx
  have hp := qv_pos hA hJ hxz
  have hpq' : p*x + q*z ≠ 0 ∨ p*y + q*t ≠ 0 := by
    have e1 : (p*x + q*z)*t - (p*y + q*t)*z = p*(x*t - y*z) := by grind
    have e2 : (p*y + q*t)*x - (p*x + q*z)*y = q*(x*t - y*z) := by grind
    have hg : x*t - y*z ≠ 0 := by intro e; rw [e] at hv'; simp at hv'
    by_cases k : p*x + q*z = 0
    · right
      intro k2
      rw [k, k2, Int.zero_mul, Int.zero_mul, Int.sub_zero] at e1 e2
      rcases Int.mul_eq_zero.1 e1.symm with e1 | e1
      · rcases Int.mul_eq_zero.1 e2.symm with e2 | e2
        · omega
        · exact hg e2
      · exact hg e1
    · exact .inl k
  rw [Red.qB_sw, Int.add_comm] at f3
  obtain ⟨n1, n2, n3⟩ := mar f1 f2 f3 f4 (by omega) (by omega) hpq' hN
  exact def_sm hA m1 m2 m3 (by omega) n1 n2 n3 hv'
/-- What leads from one reduced form to another is small: a small one first, and then one that keeps the second. -/
theorem clo {s : Bool} {T u a : Red.F4} (hs : Sgn s T) (hT : Red.rdF s T = true) (hN : Red.rdF s (ch T u) = true) (hu : dt u * dt u = 1) (hsm : Sm u) (ha : dt a * dt a = 1) (hfix : ch (ch T u) a = ch T u) : Sm (mz u a) := by
  cases s with
  | true => exact sm_pos (hs.1 rfl) hT (by rw [← ch_ch, hfix]; exact hN) (dt2_mz hu ha)
  | false =>
    have hD : dscF (ch T u) < 0 := by rw [dscF_ch T u hu]; exact hs.2 rfl
    have hF : Fac (ch T u) ∨ a = (1, 0, 0, 1) := by
      generalize ch T u = N at hfix hD
      obtain ⟨n0, n1, n2, n3⟩ := N
      obtain ⟨x, y, z, t⟩ := a
      have ha' : (x*t - y*z) * (x*t - y*z) = 1 := ha
      have hd : x*t - y*z = 1 ∨ x*t - y*z = -1 := by
        generalize x*t - y*z = g at ha'
        have : (g - 1) * (g + 1) = 0 := by grind
        rcases Int.mul_eq_zero.1 this with h | h <;> omega
      rcases hd with hd | hd
      · exact .inr (fix_neg hfix hd hD)
      · left
        obtain ⟨r, s, h0, h1⟩ := refl_root hfix hd (fix_refl hfix hd hD)
        exact root_fac h0 h1 hD
    rcases hF with hF | hF
    · have hFT : Fac T := by
        have := hF.ch (dt2_ivz hu)
        rw [ch_ch, mz_ivz hu, ch_one] at this
        exact this
      exact sm_fac hFT hT (by rw [← ch_ch, hfix]; exact hN) (dt2_mz hu ha)
    · rw [hF, mz_one]; exact hsm
/-- Two lists without doubles, one mapped onto the other. -/
theorem perm_bij {L M : List Red.F4} {f g : Red.F4 → Red.F4} (hL : L.Nodup) (hM : M.Nodup) (hf : ∀ x ∈ L, f x ∈ M) (hg : ∀ y ∈ M, g y ∈ L) (hgf : ∀ x ∈ L, g (f x) = x) (hfg : ∀ y ∈ M, f (g y) = y) : (L.map f).Perm M := by
  refine (List.perm_ext_iff_of_nodup ?_ hM).2 fun y => ?_
  · have key : ∀ K : List Red.F4, K.Nodup → (∀ x ∈ K, x ∈ L) → (K.map f).Nodup := by
      intro K
      induction K with
      | nil => intro _ _; exact List.nodup_nil
      | cons x r ih =>
        intro hn hk
        rw [List.map_cons, List.nodup_cons]
        obtain ⟨h1, h2⟩ := List.nodup_cons.1 hn
        refine ⟨fun hx => ?_, ih h2 fun y hy => hk y (List.mem_cons_of_mem _ hy)⟩
        obtain ⟨y, hy, e⟩ := List.mem_map.1 hx
        have e2 := congrArg g e
        rw [hgf x (hk x List.mem_cons_self), hgf y (hk y (List.mem_cons_of_mem _ hy))] at e2
        rw [e2] at hy
        exact h1 hy
    exact key L hL fun x hx => hx
  · rw [List.mem_map]
    constructor
    · rintro ⟨x, hx, rfl⟩; exact hf x hx
    · intro hy; exact ⟨g y, hg y hy, hfg y hy⟩
/-- The small units from T to N. -/
def wus (T N : Red.F4) : List Red.F4 := (uni 81).filter fun u => decide (ch T u = N)
theorem wus_nodup (T N : Red.F4) : (wus T N).Nodup := (uni_nodup (Nat.le_refl _)).filter _
theorem wus_iff {T N u : Red.F4} : u ∈ wus T N ↔ Sm u ∧ dt u * dt u = 1 ∧ ch T u = N := by
  unfold wus
  rw [List.mem_filter, decide_eq_true_eq]
  constructor
  · rintro ⟨h1, h2⟩; obtain ⟨h3, h4⟩ := uni_mem (Nat.le_refl _) h1; exact ⟨h3, h4, h2⟩
  · rintro ⟨h1, h2, h3⟩; exact ⟨uni_has h1 h2, h3⟩
theorem one_sm : Sm (1, 0, 0, 1) := by unfold Sm; decide
theorem one_dt : dt (1, 0, 0, 1) * dt (1, 0, 0, 1) = 1 := by decide
/-- What keeps a reduced form is small. -/
theorem fix_sm {s : Bool} {N a : Red.F4} (hs : Sgn s N) (hN : Red.rdF s N = true) (ha : dt a * dt a = 1) (h : ch N a = N) : Sm a := by
  have := clo (u := (1, 0, 0, 1)) hs hN (by rw [ch_one]; exact hN) one_dt one_sm ha (by rw [ch_one]; exact h)
  rwa [one_mz] at this
theorem wus_shift {s : Bool} {T N a : Red.F4} (hs : Sgn s T) (hT : Red.rdF s T = true) (hN : Red.rdF s N = true) (ha : dt a * dt a = 1) (h : ch N a = N) : ((wus T N).map fun u => mz u a).Perm (wus T N) := by
  have h' : ch N (ivz a) = N := by
    have := congrArg (fun n => ch n (ivz a)) h
    rw [ch_ch, mz_ivz ha, ch_one] at this
    exact this.symm
  refine perm_bij (g := fun u => mz u (ivz a)) (wus_nodup _ _) (wus_nodup _ _) (fun u hu => ?_) (fun u hu => ?_) (fun u _ => ?_) (fun u _ => ?_)
  · obtain ⟨k1, k2, k3⟩ := wus_iff.1 hu
    exact wus_iff.2 ⟨clo hs hT (by rw [k3]; exact hN) k2 k1 ha (by rw [k3]; exact h), dt2_mz k2 ha, by rw [← ch_ch, k3, h]⟩
  · obtain ⟨k1, k2, k3⟩ := wus_iff.1 hu
    exact wus_iff.2 ⟨clo hs hT (by rw [k3]; exact hN) k2 k1 (dt2_ivz ha) (by rw [k3]; exact h'), dt2_mz k2 (dt2_ivz ha), by rw [← ch_ch, k3, h']⟩
  · rw [mz_assoc, mz_ivz ha, mz_one]
  · rw [mz_assoc, ivz_mz ha, mz_one]
theorem wus_aut {s : Bool} {T N u0 : Red.F4} (hs : Sgn s T) (hN : Red.rdF s N = true) (hT : Red.rdF s T = true) (h0 : u0 ∈ wus T N) : (wus T N).length = (wus N N).length := by
  obtain ⟨k1, k2, k3⟩ := wus_iff.1 h0
  have hsN : Sgn s N := by rw [← k3]; exact hs.ch k2
  have h := perm_bij (f := fun u => mz (ivz u0) u) (g := fun u => mz u0 u) (wus_nodup T N) (wus_nodup N N) (fun u hu => ?_) (fun u hu => ?_) (fun u _ => ?_) (fun u _ => ?_)
  · have := h.length_eq; rw [List.length_map] at this; exact this
  · obtain ⟨g1, g2, g3⟩ := wus_iff.1 hu
    have e : ch N (mz (ivz u0) u) = N := by rw [← k3, ch_ch, ← mz_assoc, mz_ivz k2, one_mz, g3, k3]
    exact wus_iff.2 ⟨fix_sm hsN hN (dt2_mz (dt2_ivz k2) g2) e, dt2_mz (dt2_ivz k2) g2, e⟩
  · obtain ⟨g1, g2, g3⟩ := wus_iff.1 hu
    exact wus_iff.2 ⟨clo hs hT (by rw [k3]; exact hN) k2 k1 g2 (by rw [k3]; exact g3), dt2_mz k2 g2, by rw [← ch_ch, k3, g3]⟩
  · rw [← mz_assoc, mz_ivz k2, one_mz]
  · rw [← mz_assoc, ivz_mz k2, one_mz]
theorem dt_cases {u : Red.F4} (h : dt u * dt u = 1) : dt u = 1 ∨ dt u = -1 := by
  generalize dt u = g at h
  have : (g - 1) * (g + 1) = 0 := by grind
  rcases Int.mul_eq_zero.1 this with h | h <;> omega
theorem filter_split (L : List Red.F4) (p q : Red.F4 → Bool) (h : ∀ u ∈ L, p u = !q u) : L.length = (L.filter p).length + (L.filter q).length := by
  induction L with
  | nil => rfl
  | cons x r ih =>
    have h1 := h x List.mem_cons_self
    have h2 := ih fun u hu => h u (List.mem_cons_of_mem _ hu)
    rw [List.filter_cons, List.filter_cons, h1]
    cases q x <;> simp <;> omega
/-- The turns that keep a reduced form: one, or three. -/
theorem turns {s : Bool} {N : Red.F4} (hs : Sgn s N) (hN : Red.rdF s N = true) : ((wus N N).filter fun u => dt u == 1).length = 1 ∨ ((wus N N).filter fun u => dt u == 1).length = 3 := by
  have hD : dscF N ≠ 0 := by
    cases s with
    | true => have := hs.1 rfl; omega
    | false => have := hs.2 rfl; omega
  have hm : ∀ u, u ∈ (wus N N).filter (fun u => dt u == 1) ↔ dt u = 1 ∧ ch N u = N := fun u => by
    rw [List.mem_filter, wus_iff, beq_iff_eq]
    constructor
    · rintro ⟨⟨_, _, h1⟩, h2⟩; exact ⟨h2, h1⟩
    · rintro ⟨h1, h2⟩
      have h3 : dt u * dt u = 1 := by rw [h1]; rfl
      exact ⟨⟨fix_sm hs hN h3 h2, h3, h2⟩, h1⟩
  have hn : ((wus N N).filter fun u => dt u == 1).Nodup := (wus_nodup N N).filter _
  generalize (wus N N).filter (fun u => dt u == 1) = L at hm hn
  have h1 : (1, 0, 0, 1) ∈ L := (hm _).2 ⟨rfl, ch_one N⟩
  obtain ⟨a, b, c, d⟩ := N
  by_cases ht : ∃ r ∈ L, r.1 + r.2.2.2 = -1
  · right
    obtain ⟨⟨x, y, z, t⟩, hr, hτ⟩ := ht
    obtain ⟨g1, g2⟩ := (hm _).1 hr
    have hd : x*t - y*z = 1 := g1
    dsimp only at hτ
    have hz := z_ne hd hτ
    have hP2 := turn3 g2 hd hτ
    obtain ⟨q1, q2⟩ := fix_h g2 hd
    have hzz : 0 < z*z := by
      have := Red.sq0 z
      have : z*z ≠ 0 := Int.mul_ne_zero hz hz
      omega
    have hP : Red.hP a b c ≠ 0 := by
      intro e
      rw [e] at hP2
      have : z*z*(3*Red.dsc a b c d) = 0 := by omega
      have := mul0 this (by omega)
      exact hD (by show Red.dsc a b c d = 0; omega)
    have hr2 : (t, -y, -z, x) ∈ L := by
      refine (hm _).2 ⟨?_, ?_⟩
      · unfold dt; dsimp only; grind
      · have e : mz (x, y, z, t) (x, y, z, t) = (t, -y, -z, x) := by
          have : t = -1 - x := by omega
          subst this
          unfold mz
          refine Prod.ext ?_ (Prod.ext ?_ (Prod.ext ?_ ?_)) <;> dsimp only <;> grind
        rw [← e, ← ch_ch, g2, g2]
    have all : ∀ u ∈ L, u = (1, 0, 0, 1) ∨ u = (x, y, z, t) ∨ u = (t, -y, -z, x) := by
      rintro ⟨x', y', z', t'⟩ hu
      obtain ⟨f1, f2⟩ := (hm _).1 hu
      have hd' : x'*t' - y'*z' = 1 := f1
      rcases fix_one f2 hd' hD with k | k
      · exact .inl k
      · right
        have e1 := turn3 f2 hd' k
        obtain ⟨r1, r2⟩ := fix_h f2 hd'
        have e2 : (3*Red.dsc a b c d) * (z*z - z'*z') = 0 := by rw [Int.mul_sub, Int.mul_comm _ (z*z), Int.mul_comm _ (z'*z')]; omega
        have e3 : z*z - z'*z' = 0 := mul0 e2 (by have h0 : Red.dsc a b c d ≠ 0 := hD
                                                 omega)
        have e4 : (z - z') * (z + z') = 0 := by grind
        rcases Int.mul_eq_zero.1 e4 with k2 | k2
        · left
          have ez : z' = z := by omega
          subst ez
          have f3 : Red.hP a b c * ((t' - x') - (t - x)) = 0 := by rw [Int.mul_sub, r1, q1]; omega
          have f4 := mul0 f3 hP
          have f5 : Red.hP a b c * (y' - y) = 0 := by rw [Int.mul_sub, r2, q2]; omega
          have f6 := mul0 f5 hP
          refine Prod.ext ?_ (Prod.ext ?_ (Prod.ext ?_ ?_)) <;> dsimp only <;> omega
        · right
          have ez : z' = -z := by omega
          subst ez
          have f3 : Red.hP a b c * ((t' - x') + (t - x)) = 0 := by rw [Int.mul_add, r1, q1, Int.mul_neg]; omega
          have f4 := mul0 f3 hP
          have f5 : Red.hP a b c * (y' + y) = 0 := by rw [Int.mul_add, r2, q2, Int.mul_neg]; omega
          have f6 := mul0 f5 hP
          refine Prod.ext ?_ (Prod.ext ?_ (Prod.ext ?_ ?_)) <;> dsimp only <;> omega
    have hp : L.Perm [(1, 0, 0, 1), (x, y, z, t), (t, -y, -z, x)] := by
      refine (List.perm_ext_iff_of_nodup hn ?_).2 fun u => ?_
      · have n1 : ((1, 0, 0, 1) : Red.F4) ≠ (x, y, z, t) := by
          intro e; obtain ⟨_, _, e3, _⟩ := F4.eq e; exact hz e3.symm
        have n2 : ((1, 0, 0, 1) : Red.F4) ≠ (t, -y, -z, x) := by
          intro e; obtain ⟨_, _, e3, _⟩ := F4.eq e; dsimp only at e3; omega
        have n3 : ((x, y, z, t) : Red.F4) ≠ (t, -y, -z, x) := by
          intro e; obtain ⟨_, _, e3, _⟩ := F4.eq e; dsimp only at e3; omega
        simp [n1, n2, n3]
      · constructor
        · intro hu
          rcases all u hu with k | k | k <;> rw [k] <;> simp
        · intro hu
          simp only [List.mem_cons, List.not_mem_nil, or_false] at hu
          rcases hu with k | k | k <;> rw [k] <;> assumption
    rw [hp.length_eq]; rfl
  · left
    have all : ∀ u ∈ L, u = (1, 0, 0, 1) := by
      rintro ⟨x', y', z', t'⟩ hu
      obtain ⟨f1, f2⟩ := (hm _).1 hu
      rcases fix_one f2 f1 hD with k | k
      · exact k
      · exact (ht ⟨_, hu, k⟩).elim
    have hp : L.Perm [(1, 0, 0, 1)] := by
      refine (List.perm_ext_iff_of_nodup hn (by simp)).2 fun u => ?_
      rw [List.mem_singleton]
      constructor
      · exact all u
      · rintro rfl; exact h1
    rw [hp.length_eq]; rfl
/-- The units that keep a reduced form: 1, 2, 3 or 6. -/
theorem aut_count {s : Bool} {N : Red.F4} (hs : Sgn s N) (hN : Red.rdF s N = true) : (wus N N).length = 1 ∨ (wus N N).length = 2 ∨ (wus N N).length = 3 ∨ (wus N N).length = 6 := by
  have hsp := filter_split (wus N N) (fun u => dt u == 1) (fun u => dt u == -1) (fun u hu => by
    obtain ⟨_, h2, _⟩ := wus_iff.1 hu
    rcases dt_cases h2 with k | k <;> rw [k] <;> rfl)
  have ht := turns hs hN
  by_cases he : (wus N N).filter (fun u => dt u == -1) = []
  · rw [he] at hsp
    simp only [List.length_nil] at hsp
    omega
  · obtain ⟨r, hr⟩ := List.exists_mem_of_ne_nil _ he
    rw [List.mem_filter, wus_iff, beq_iff_eq] at hr
    obtain ⟨⟨r1, r2, r3⟩, r4⟩ := hr
    have r5 : ch N (ivz r) = N := by
      have := congrArg (fun n => ch n (ivz r)) r3
      simp only [ch_ch, mz_ivz r2, ch_one] at this
      exact this.symm
    have hp := perm_bij (f := fun u => mz r u) (g := fun u => mz (ivz r) u) (L := (wus N N).filter fun u => dt u == 1) (M := (wus N N).filter fun u => dt u == -1) ((wus_nodup N N).filter _) ((wus_nodup N N).filter _)
      (fun u hu => by
        rw [List.mem_filter, wus_iff, beq_iff_eq] at hu ⊢
        obtain ⟨⟨u1, u2, u3⟩, u4⟩ := hu
        have e : ch N (mz r u) = N := by rw [← ch_ch, r3, u3]
        exact ⟨⟨fix_sm hs hN (dt2_mz r2 u2) e, dt2_mz r2 u2, e⟩, by rw [dt_mz, r4, u4]; rfl⟩)
      (fun u hu => by
        rw [List.mem_filter, wus_iff, beq_iff_eq] at hu ⊢
        obtain ⟨⟨u1, u2, u3⟩, u4⟩ := hu
        have e : ch N (mz (ivz r) u) = N := by rw [← ch_ch, r5, u3]
        exact ⟨⟨fix_sm hs hN (dt2_mz (dt2_ivz r2) u2) e, dt2_mz (dt2_ivz r2) u2, e⟩, by rw [dt_mz, dt_ivz r2, r4, u4]; rfl⟩)
      (fun u _ => by rw [← mz_assoc, ivz_mz r2, one_mz])
      (fun u _ => by rw [← mz_assoc, mz_ivz r2, one_mz])
    have := hp.length_eq
    rw [List.length_map] at this
    omega
end Rd

end Go.Proofs.Ytikmjefbjejbkaa
