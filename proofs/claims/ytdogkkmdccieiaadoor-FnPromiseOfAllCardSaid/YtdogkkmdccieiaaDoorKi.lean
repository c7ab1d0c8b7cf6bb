/- Chapter 5: kinds do not change under unit matrices: points go to points, with their multiplicities. Mathematics; no Go function in sight. -/
import Derived.Test.YtdogkkmdccieiaaDoorRs
import Derived.Test.YtdogkkmdccieiaaDoorMath2
namespace Go.Proofs.YtdogkkmdccieiaaDoor
open Go.RowKit

/-- A place with a multiplicity of at least k + 1 (k = 0, 1, 2): the value, the slopes, the halves of the second slopes are multiples. -/
def ge1 (p a b c d x y : Int) : Prop := p ∣ vx a b c d x y
def ge2 (p a b c d x y : Int) : Prop := ge1 p a b c d x y ∧ p ∣ 3 * a * x * x + 2 * b * x * y + c * y * y ∧ p ∣ b * x * x + 2 * c * x * y + 3 * d * y * y
def ge3 (p a b c d x y : Int) : Prop := ge2 p a b c d x y ∧ p ∣ 3 * a * x + b * y ∧ p ∣ 2 * b * x + 2 * c * y ∧ p ∣ c * x + 3 * d * y
/-- A place of changed forms goes to the changed place. -/
theorem ge1_ch {p a b c d P Q R S x y : Int} : ge1 p (cA a b c d P R) (cB a b c d P Q R S) (cC a b c d P Q R S) (cA a b c d Q S) x y ↔ ge1 p a b c d (P * x + Q * y) (R * x + S * y) := by
  unfold ge1
  rw [show vx (cA a b c d P R) (cB a b c d P Q R S) (cC a b c d P Q R S) (cA a b c d Q S) x y = vx a b c d (P * x + Q * y) (R * x + S * y) by unfold cA cB cC vx; grind]
theorem ge2_ch {p a b c d P Q R S x y : Int} (h : ge2 p a b c d (P * x + Q * y) (R * x + S * y)) : ge2 p (cA a b c d P R) (cB a b c d P Q R S) (cC a b c d P Q R S) (cA a b c d Q S) x y := by
  obtain ⟨h0, h1, h2⟩ := h
  refine ⟨ge1_ch.2 h0, ?_, ?_⟩
  · rw [show 3 * cA a b c d P R * x * x + 2 * cB a b c d P Q R S * x * y + cC a b c d P Q R S * y * y = P * (3 * a * (P * x + Q * y) * (P * x + Q * y) + 2 * b * (P * x + Q * y) * (R * x + S * y) + c * (R * x + S * y) * (R * x + S * y)) + R * (b * (P * x + Q * y) * (P * x + Q * y) + 2 * c * (P * x + Q * y) * (R * x + S * y) + 3 * d * (R * x + S * y) * (R * x + S * y)) by unfold cA cB cC vx; grind]
    exact Int.dvd_add (Int.dvd_mul_of_dvd_right h1) (Int.dvd_mul_of_dvd_right h2)
  · rw [show cB a b c d P Q R S * x * x + 2 * cC a b c d P Q R S * x * y + 3 * cA a b c d Q S * y * y = Q * (3 * a * (P * x + Q * y) * (P * x + Q * y) + 2 * b * (P * x + Q * y) * (R * x + S * y) + c * (R * x + S * y) * (R * x + S * y)) + S * (b * (P * x + Q * y) * (P * x + Q * y) + 2 * c * (P * x + Q * y) * (R * x + S * y) + 3 * d * (R * x + S * y) * (R * x + S * y)) by unfold cA cB cC vx; grind]
    exact Int.dvd_add (Int.dvd_mul_of_dvd_right h1) (Int.dvd_mul_of_dvd_right h2)
theorem ge3_ch {p a b c d P Q R S x y : Int} (h : ge3 p a b c d (P * x + Q * y) (R * x + S * y)) : ge3 p (cA a b c d P R) (cB a b c d P Q R S) (cC a b c d P Q R S) (cA a b c d Q S) x y := by
  obtain ⟨h0, h1, h2, h3⟩ := h
  refine ⟨ge2_ch h0, ?_, ?_, ?_⟩
  · rw [show 3 * cA a b c d P R * x + cB a b c d P Q R S * y = P * P * (3 * a * (P * x + Q * y) + b * (R * x + S * y)) + P * R * (2 * b * (P * x + Q * y) + 2 * c * (R * x + S * y)) + R * R * (c * (P * x + Q * y) + 3 * d * (R * x + S * y)) by simp only [cA, cB, vx]; grind]
    exact Int.dvd_add (Int.dvd_add (Int.dvd_mul_of_dvd_right h1) (Int.dvd_mul_of_dvd_right h2)) (Int.dvd_mul_of_dvd_right h3)
  · rw [show 2 * cB a b c d P Q R S * x + 2 * cC a b c d P Q R S * y = 2 * P * Q * (3 * a * (P * x + Q * y) + b * (R * x + S * y)) + (P * S + Q * R) * (2 * b * (P * x + Q * y) + 2 * c * (R * x + S * y)) + 2 * R * S * (c * (P * x + Q * y) + 3 * d * (R * x + S * y)) by simp only [cB, cC]; grind]
    exact Int.dvd_add (Int.dvd_add (Int.dvd_mul_of_dvd_right h1) (Int.dvd_mul_of_dvd_right h2)) (Int.dvd_mul_of_dvd_right h3)
  · rw [show cC a b c d P Q R S * x + 3 * cA a b c d Q S * y = Q * Q * (3 * a * (P * x + Q * y) + b * (R * x + S * y)) + Q * S * (2 * b * (P * x + Q * y) + 2 * c * (R * x + S * y)) + S * S * (c * (P * x + Q * y) + 3 * d * (R * x + S * y)) by simp only [cA, cC, vx]; grind]
    exact Int.dvd_add (Int.dvd_add (Int.dvd_mul_of_dvd_right h1) (Int.dvd_mul_of_dvd_right h2)) (Int.dvd_mul_of_dvd_right h3)
/-- Multiplicities at the points, by these. -/
theorem mm3_g1 {p u v t : Int} : 1 ≤ mm3 p u v t ↔ p ∣ t := by unfold mm3; by_cases h1 : p ∣ t <;> by_cases h2 : p ∣ v <;> by_cases h3 : p ∣ u <;> simp [h1, h2, h3]
theorem mm3_g2 {p u v t : Int} : 2 ≤ mm3 p u v t ↔ p ∣ t ∧ p ∣ v := by unfold mm3; by_cases h1 : p ∣ t <;> by_cases h2 : p ∣ v <;> by_cases h3 : p ∣ u <;> simp [h1, h2, h3]
theorem mm3_g3 {p u v t : Int} : 3 ≤ mm3 p u v t ↔ p ∣ t ∧ p ∣ v ∧ p ∣ u := by unfold mm3; by_cases h1 : p ∣ t <;> by_cases h2 : p ∣ v <;> by_cases h3 : p ∣ u <;> simp [h1, h2, h3]
theorem mmu_f (p a b c d x : Int) : mmu p a b c d x 1 = mm3 p (g1 a b x) (g2 a b c x) (g3 a b c d x) := by simp [mmu]
theorem mmu_i (p a b c d : Int) : mmu p a b c d 1 0 = mm3 p c b a := by simp [mmu]
theorem mu1_f {p a b c d x : Int} : 1 ≤ mmu p a b c d x 1 ↔ ge1 p a b c d x 1 := by
  rw [mmu_f, mm3_g1, ge1, show vx a b c d x 1 = g3 a b c d x by unfold vx g3; grind]
theorem mu1_i {p a b c d : Int} : 1 ≤ mmu p a b c d 1 0 ↔ ge1 p a b c d 1 0 := by
  rw [mmu_i, mm3_g1, ge1, show vx a b c d 1 0 = a by unfold vx; grind]
theorem mu2_f {p a b c d x : Int} : 2 ≤ mmu p a b c d x 1 ↔ ge2 p a b c d x 1 := by
  have e : b * x * x + 2 * c * x * 1 + 3 * d * 1 * 1 = 3 * g3 a b c d x - x * g2 a b c x := by unfold g3 g2; grind
  rw [mmu_f, mm3_g2, ge2, e, ge1, show vx a b c d x 1 = g3 a b c d x by unfold vx g3; grind, show 3 * a * x * x + 2 * b * x * 1 + c * 1 * 1 = g2 a b c x by unfold g2; grind]
  exact ⟨fun ⟨h1, h2⟩ => ⟨h1, h2, Int.dvd_sub (Int.dvd_mul_of_dvd_right h1) (Int.dvd_mul_of_dvd_right h2)⟩, fun ⟨h1, h2, _⟩ => ⟨h1, h2⟩⟩
theorem mu2_i {p a b c d : Int} : 2 ≤ mmu p a b c d 1 0 ↔ ge2 p a b c d 1 0 := by
  rw [mmu_i, mm3_g2, ge2, ge1, show vx a b c d 1 0 = a by unfold vx; grind, show 3 * a * 1 * 1 + 2 * b * 1 * 0 + c * 0 * 0 = 3 * a by grind, show b * 1 * 1 + 2 * c * 1 * 0 + 3 * d * 0 * 0 = b by grind]
  exact ⟨fun ⟨h1, h2⟩ => ⟨h1, Int.dvd_mul_of_dvd_right h1, h2⟩, fun ⟨h1, _, h2⟩ => ⟨h1, h2⟩⟩
theorem mu3_f {p a b c d x : Int} : 3 ≤ mmu p a b c d x 1 ↔ ge3 p a b c d x 1 := by
  have e2 : 2 * b * x + 2 * c * 1 = 2 * g2 a b c x - 2 * x * g1 a b x := by unfold g2 g1; grind
  have e3 : c * x + 3 * d * 1 = 3 * g3 a b c d x - 2 * x * g2 a b c x + x * x * g1 a b x := by unfold g3 g2 g1; grind
  rw [ge3, ← mu2_f, e2, e3, show 3 * a * x + b * 1 = g1 a b x by unfold g1; grind, mmu_f, mm3_g3, mm3_g2]
  exact ⟨fun ⟨h1, h2, h3⟩ => ⟨⟨h1, h2⟩, h3, Int.dvd_sub (Int.dvd_mul_of_dvd_right h2) (Int.dvd_mul_of_dvd_right h3), Int.dvd_add (Int.dvd_sub (Int.dvd_mul_of_dvd_right h1) (Int.dvd_mul_of_dvd_right h2)) (Int.dvd_mul_of_dvd_right h3)⟩, fun ⟨⟨h1, h2⟩, h3, _⟩ => ⟨h1, h2, h3⟩⟩
theorem mu3_i {p a b c d : Int} : 3 ≤ mmu p a b c d 1 0 ↔ ge3 p a b c d 1 0 := by
  rw [ge3, ← mu2_i, show 3 * a * 1 + b * 0 = 3 * a by grind, show 2 * b * 1 + 2 * c * 0 = 2 * b by grind, show c * 1 + 3 * d * 0 = c by grind, mmu_i, mm3_g3, mm3_g2]
  exact ⟨fun ⟨h1, h2, h3⟩ => ⟨⟨h1, h2⟩, Int.dvd_mul_of_dvd_right h1, Int.dvd_mul_of_dvd_right h2, h3⟩, fun ⟨⟨h1, h2⟩, _, _, h3⟩ => ⟨h1, h2, h3⟩⟩
/-- The inverse modulo a prime. -/
def invN (p y : Nat) : Nat := (List.range (p - 2)).foldl (fun m _ => m * y % p) (1 % p)
theorem inv_all : ∀ p < 98, prmN p = true → ∀ y < p, y ≠ 0 → y * invN p y % p = 1 := by decide +kernel
theorem inv_ex {p y : Int} (hp : prm p = true) (h : ¬ p ∣ y) : ∃ z : Int, p ∣ y * z - 1 := by
  obtain ⟨h2, h97⟩ := prm_rng hp
  obtain ⟨n, rfl⟩ : ∃ n : Nat, p = n := ⟨p.toNat, by omega⟩
  have hn : prmN n = true := by simpa [prm] using hp
  have hy0 : 0 ≤ y % n := Int.emod_nonneg _ (by omega)
  have hyn : y % n < n := Int.emod_lt_of_pos _ (by omega)
  obtain ⟨m, hm⟩ : ∃ m : Nat, y % n = m := ⟨(y % n).toNat, by omega⟩
  have hm0 : m ≠ 0 := fun e => h (Int.dvd_of_emod_eq_zero (by rw [hm, e]; rfl))
  have := inv_all n (by omega) hn m (by omega) hm0
  refine ⟨(invN n m : Int), ?_⟩
  have e : y * invN n m - 1 = (y - m) * invN n m + ((m * invN n m : Nat) - 1 : Int) := by push_cast; grind
  rw [e]
  have d1 : (n : Int) ∣ y - m := by
    have := Int.emod_add_mul_ediv y n
    exact ⟨y / n, by omega⟩
  have d2 : (n : Int) ∣ ((m * invN n m : Nat) - 1 : Int) := by
    have h3 := Nat.div_add_mod (m * invN n m) n
    rw [this] at h3
    refine ⟨((m * invN n m / n : Nat) : Int), ?_⟩
    have : ((m * invN n m : Nat) : Int) = ((n * (m * invN n m / n) + 1 : Nat) : Int) := by rw [h3]
    push_cast at this ⊢
    omega
  exact Int.dvd_add (Int.dvd_mul_of_dvd_left d1) d2
/-- Every place that is not 0 modulo p is a multiple of one of the points. -/
theorem pt_of {p x y : Int} (hp : prm p = true) (h : ¬ (p ∣ x ∧ p ∣ y)) : ∃ q ∈ ptm p, ∃ l, ¬ p ∣ l ∧ p ∣ x - l * q.1 ∧ p ∣ y - l * q.2 := by
  obtain ⟨h2, h97⟩ := prm_rng hp
  by_cases hy : p ∣ y
  · refine ⟨(1, 0), by simp [ptm], x, fun hx => h ⟨hx, hy⟩, by simp, by simpa using hy⟩
  · obtain ⟨z, hz⟩ := inv_ex hp hy
    have h0 : 0 ≤ (x * z) % p := Int.emod_nonneg _ (by omega)
    have hl : (x * z) % p < p := Int.emod_lt_of_pos _ (by omega)
    refine ⟨((x * z) % p, 1), ?_, y, hy, ?_, by simp⟩
    · refine List.mem_append_left _ (List.mem_map.2 ⟨((x * z) % p).toNat, List.mem_range.2 (by omega), ?_⟩)
      rw [Int.toNat_of_nonneg h0]
    · have e := Int.emod_add_mul_ediv (x * z) p
      have e2 : x - y * ((x * z) % p) = -(x * (y * z - 1)) + p * (y * (x * z / p)) := by
        have : (x * z) % p = x * z - p * (x * z / p) := by omega
        rw [this]; grind
      show p ∣ x - y * ((x * z) % p)
      rw [e2]
      exact Int.dvd_add (Int.dvd_neg.2 (Int.dvd_mul_of_dvd_right hz)) (Int.dvd_mul_right _ _)
/-- Congruence. -/
def cg (p x y : Int) : Prop := p ∣ x - y
theorem cg_r (p x : Int) : cg p x x := by unfold cg; simp
theorem cg_a {p x x' y y' : Int} (h : cg p x x') (h' : cg p y y') : cg p (x + y) (x' + y') := by
  unfold cg at *; rw [show x + y - (x' + y') = (x - x') + (y - y') by omega]; exact Int.dvd_add h h'
theorem cg_m {p x x' y y' : Int} (h : cg p x x') (h' : cg p y y') : cg p (x * y) (x' * y') := by
  unfold cg at *; rw [show x * y - x' * y' = x * (y - y') + (x - x') * y' by grind]; exact Int.dvd_add (Int.dvd_mul_of_dvd_right h') (Int.dvd_mul_of_dvd_left h)
theorem cg_d {p x y : Int} (h : cg p x y) : p ∣ x ↔ p ∣ y := by
  unfold cg at h
  constructor
  · intro hx; rw [show y = x - (x - y) by omega]; exact Int.dvd_sub hx h
  · intro hy; rw [show x = y + (x - y) by omega]; exact Int.dvd_add hy h
theorem dv_l {p l x : Int} (hp : prm p = true) (hl : ¬ p ∣ l) : p ∣ l * x ↔ p ∣ x := ⟨fun h => (prm_dvd_mul hp h).resolve_left hl, Int.dvd_mul_of_dvd_right⟩
theorem ge1_pt {p a b c d l x y u v : Int} (hp : prm p = true) (hl : ¬ p ∣ l) (hx : cg p x (l * u)) (hy : cg p y (l * v)) : ge1 p a b c d x y ↔ ge1 p a b c d u v := by
  have h : cg p (vx a b c d x y) (vx a b c d (l * u) (l * v)) := by
    unfold vx
    exact cg_a (cg_a (cg_a (cg_m (cg_m (cg_m (cg_r _ _) hx) hx) hx) (cg_m (cg_m (cg_m (cg_r _ _) hx) hx) hy)) (cg_m (cg_m (cg_m (cg_r _ _) hx) hy) hy)) (cg_m (cg_m (cg_m (cg_r _ _) hy) hy) hy)
  rw [ge1, cg_d h, show vx a b c d (l * u) (l * v) = l * (l * (l * vx a b c d u v)) by unfold vx; grind, dv_l hp hl, dv_l hp hl, dv_l hp hl, ge1]
theorem q_pt {p A B C l x y u v : Int} (hp : prm p = true) (hl : ¬ p ∣ l) (hx : cg p x (l * u)) (hy : cg p y (l * v)) : p ∣ A * x * x + B * x * y + C * y * y ↔ p ∣ A * u * u + B * u * v + C * v * v := by
  have h : cg p (A * x * x + B * x * y + C * y * y) (A * (l * u) * (l * u) + B * (l * u) * (l * v) + C * (l * v) * (l * v)) :=
    cg_a (cg_a (cg_m (cg_m (cg_r _ _) hx) hx) (cg_m (cg_m (cg_r _ _) hx) hy)) (cg_m (cg_m (cg_r _ _) hy) hy)
  rw [cg_d h, show A * (l * u) * (l * u) + B * (l * u) * (l * v) + C * (l * v) * (l * v) = l * (l * (A * u * u + B * u * v + C * v * v)) by grind, dv_l hp hl, dv_l hp hl]
theorem l_pt {p A B l x y u v : Int} (hp : prm p = true) (hl : ¬ p ∣ l) (hx : cg p x (l * u)) (hy : cg p y (l * v)) : p ∣ A * x + B * y ↔ p ∣ A * u + B * v := by
  have h : cg p (A * x + B * y) (A * (l * u) + B * (l * v)) := cg_a (cg_m (cg_r _ _) hx) (cg_m (cg_r _ _) hy)
  rw [cg_d h, show A * (l * u) + B * (l * v) = l * (A * u + B * v) by grind, dv_l hp hl]
theorem ge2_pt {p a b c d l x y u v : Int} (hp : prm p = true) (hl : ¬ p ∣ l) (hx : cg p x (l * u)) (hy : cg p y (l * v)) : ge2 p a b c d x y ↔ ge2 p a b c d u v := by
  rw [ge2, ge2, ge1_pt hp hl hx hy, q_pt hp hl hx hy, q_pt hp hl hx hy]
theorem ge3_pt {p a b c d l x y u v : Int} (hp : prm p = true) (hl : ¬ p ∣ l) (hx : cg p x (l * u)) (hy : cg p y (l * v)) : ge3 p a b c d x y ↔ ge3 p a b c d u v := by
  rw [ge3, ge3, ge2_pt hp hl hx hy, l_pt hp hl hx hy, l_pt hp hl hx hy, l_pt hp hl hx hy]
/-- The points, one by one. -/
theorem pt_is {p : Int} {q : Int × Int} (h : q ∈ ptm p) : (q.2 = 1 ∧ 0 ≤ q.1 ∧ q.1 < p) ∨ q = (1, 0) := by
  unfold ptm at h
  rcases List.mem_append.1 h with h | h
  · obtain ⟨k, hk, rfl⟩ := List.mem_map.1 h
    have := List.mem_range.1 hk
    exact .inl ⟨rfl, by simp, by simp only; omega⟩
  · exact .inr (by simpa using h)
theorem mu1_pt {p a b c d : Int} {q : Int × Int} (h : q ∈ ptm p) : 1 ≤ mmu p a b c d q.1 q.2 ↔ ge1 p a b c d q.1 q.2 := by
  rcases pt_is h with ⟨e, _⟩ | e
  · rw [e]; exact mu1_f
  · rw [e]; exact mu1_i
theorem mu2_pt {p a b c d : Int} {q : Int × Int} (h : q ∈ ptm p) : 2 ≤ mmu p a b c d q.1 q.2 ↔ ge2 p a b c d q.1 q.2 := by
  rcases pt_is h with ⟨e, _⟩ | e
  · rw [e]; exact mu2_f
  · rw [e]; exact mu2_i
theorem mu3_pt {p a b c d : Int} {q : Int × Int} (h : q ∈ ptm p) : 3 ≤ mmu p a b c d q.1 q.2 ↔ ge3 p a b c d q.1 q.2 := by
  rcases pt_is h with ⟨e, _⟩ | e
  · rw [e]; exact mu3_f
  · rw [e]; exact mu3_i
theorem pt_ne {p : Int} (hp : prm p = true) {q : Int × Int} (h : q ∈ ptm p) : ¬ (p ∣ q.1 ∧ p ∣ q.2) := by
  obtain ⟨h2, _⟩ := prm_rng hp
  rintro ⟨d1, d2⟩
  rcases pt_is h with ⟨e, _⟩ | e
  · rw [e] at d2; have := Int.le_of_dvd (by omega) d2; omega
  · rw [e] at d1; have := Int.le_of_dvd (by omega) d1; omega
theorem pt_eq {p : Int} (hp : prm p = true) {q q' : Int × Int} (h : q ∈ ptm p) (h' : q' ∈ ptm p) (hd : p ∣ q.1 * q'.2 - q'.1 * q.2) : q = q' := by
  obtain ⟨h2, _⟩ := prm_rng hp
  rcases pt_is h with ⟨e, h0, h1⟩ | e <;> rcases pt_is h' with ⟨e', h0', h1'⟩ | e'
  · rw [e, e'] at hd
    have : q.1 - q'.1 = 0 := by
      rcases Int.lt_trichotomy (q.1 - q'.1) 0 with g | g | g
      · have := Int.le_of_dvd (a := p) (b := -(q.1 - q'.1)) (by omega) (Int.dvd_neg.2 (by simpa using hd)); omega
      · exact g
      · have := Int.le_of_dvd (a := p) (b := q.1 - q'.1) (by omega) (by simpa using hd); omega
    exact Prod.ext (by omega) (e.trans e'.symm)
  · rw [e, e'] at hd; have := Int.le_of_dvd (a := p) (b := 1) (by omega) (Int.dvd_neg.1 (by simpa using hd)); omega
  · rw [e, e'] at hd; have := Int.le_of_dvd (a := p) (b := 1) (by omega) (by simpa using hd); omega
  · rw [e, e']
/-- A list whose members have different images in another one is not longer. -/
theorem len_le {α β : Type} [DecidableEq β] (Rl : α → β → Prop) : ∀ (L : List α) (M : List β), L.Nodup → (∀ x ∈ L, ∃ y ∈ M, Rl x y) → (∀ x ∈ L, ∀ x' ∈ L, ∀ y, Rl x y → Rl x' y → x = x') → L.length ≤ M.length := by
  intro L
  induction L with
  | nil => intro M _ _ _; simp
  | cons x L ih =>
    intro M hn hm hi
    obtain ⟨y, hy, hr⟩ := hm x List.mem_cons_self
    rw [List.nodup_cons] at hn
    have := ih (M.erase y) hn.2 (fun x' hx' => by
      obtain ⟨y', hy', hr'⟩ := hm x' (List.mem_cons_of_mem _ hx')
      refine ⟨y', ?_, hr'⟩
      refine (List.mem_erase_of_ne fun e => ?_).2 hy'
      subst e
      exact hn.1 (hi x List.mem_cons_self x' (List.mem_cons_of_mem _ hx') _ hr hr' ▸ hx')) (fun x1 h1 x2 h2 => hi x1 (List.mem_cons_of_mem _ h1) x2 (List.mem_cons_of_mem _ h2))
    rw [List.length_erase_of_mem hy] at this
    have := List.length_pos_of_mem hy
    simp only [List.length_cons]
    omega
theorem ptm_nodup (p : Int) : (ptm p).Nodup := by
  unfold ptm ptl
  rw [List.nodup_append]
  refine ⟨?_, by simp, ?_⟩
  · unfold List.Nodup
    rw [List.pairwise_map]
    exact List.nodup_range.imp fun h e => h (by have := (Prod.mk.inj e).1; omega)
  · intro x hx y hy e
    obtain ⟨k, _, rfl⟩ := List.mem_map.1 hx
    simp at hy; subst hy; simp at e
/-- The points at which a form has the value 0. -/
def zpt (a b c d p : Int) : List (Int × Int) := (ptm p).filter fun q => decide (1 ≤ mmu p a b c d q.1 q.2)
theorem zpt_le {p a b c d P Q R S g : Int} (hp : prm p = true) (hg : g = P * S - Q * R) (h1 : g = 1 ∨ g = -1) :
    (zpt (cA a b c d P R) (cB a b c d P Q R S) (cC a b c d P Q R S) (cA a b c d Q S) p).length ≤ (zpt a b c d p).length := by
  have hgp : ¬ p ∣ g := fun h => by
    obtain ⟨h2, _⟩ := prm_rng hp
    rcases h1 with e | e <;> rw [e] at h
    · have := Int.le_of_dvd (by omega) h; omega
    · have := Int.le_of_dvd (by omega) (Int.dvd_neg.1 h); omega
  refine len_le (fun q q' => ∃ l, ¬ p ∣ l ∧ cg p (P * q.1 + Q * q.2) (l * q'.1) ∧ cg p (R * q.1 + S * q.2) (l * q'.2)) _ _ ((ptm_nodup p).filter _) (fun q hq => ?_) (fun q hq q' hq' y hy hy' => ?_)
  · obtain ⟨hq, hm⟩ := List.mem_filter.1 hq
    rw [decide_eq_true_eq, mu1_pt hq, ge1_ch] at hm
    obtain ⟨z, hz, l, hl, hx, hy⟩ := pt_of hp (x := P * q.1 + Q * q.2) (y := R * q.1 + S * q.2) (fun ⟨d1, d2⟩ => by
      refine pt_ne hp hq ⟨?_, ?_⟩
      · refine (dv_l hp hgp).1 ?_
        rw [show g * q.1 = S * (P * q.1 + Q * q.2) - Q * (R * q.1 + S * q.2) by rw [hg]; grind]
        exact Int.dvd_sub (Int.dvd_mul_of_dvd_right d1) (Int.dvd_mul_of_dvd_right d2)
      · refine (dv_l hp hgp).1 ?_
        rw [show g * q.2 = P * (R * q.1 + S * q.2) - R * (P * q.1 + Q * q.2) by rw [hg]; grind]
        exact Int.dvd_sub (Int.dvd_mul_of_dvd_right d2) (Int.dvd_mul_of_dvd_right d1))
    refine ⟨z, List.mem_filter.2 ⟨hz, ?_⟩, l, hl, hx, hy⟩
    rw [decide_eq_true_eq, mu1_pt hz]
    exact (ge1_pt hp hl hx hy).1 hm
  · obtain ⟨hq, _⟩ := List.mem_filter.1 hq
    obtain ⟨hq', _⟩ := List.mem_filter.1 hq'
    obtain ⟨l, _, a1, a2⟩ := hy
    obtain ⟨l', _, b1, b2⟩ := hy'
    refine pt_eq hp hq hq' ((dv_l hp hgp).1 ?_)
    have e := cg_a (cg_m a1 b2) (cg_m (cg_r p (-1)) (cg_m b1 a2))
    rw [show l * y.1 * (l' * y.2) + -1 * (l' * y.1 * (l * y.2)) = 0 by grind] at e
    rw [show g * (q.1 * q'.2 - q'.1 * q.2) = (P * q.1 + Q * q.2) * (R * q'.1 + S * q'.2) + -1 * ((P * q'.1 + Q * q'.2) * (R * q.1 + S * q.2)) by rw [hg]; grind]
    exact (cg_d e).2 (Int.dvd_zero p)
/-- Multiplicities met. -/
theorem mult_ch {p a b c d P Q R S g : Int} (k : Nat) (hk : k = 2 ∨ k = 3) (hp : prm p = true) (hg : g = P * S - Q * R) (h1 : g = 1 ∨ g = -1) (h : ∃ q ∈ ptm p, k ≤ mmu p a b c d q.1 q.2) :
    ∃ q ∈ ptm p, k ≤ mmu p (cA a b c d P R) (cB a b c d P Q R S) (cC a b c d P Q R S) (cA a b c d Q S) q.1 q.2 := by
  obtain ⟨q, hq, hm⟩ := h
  have hgg : g * g = 1 := by rcases h1 with rfl | rfl <;> rfl
  have ex : P * (g * (S * q.1 - Q * q.2)) + Q * (g * (P * q.2 - R * q.1)) = q.1 := by
    rw [show P * (g * (S * q.1 - Q * q.2)) + Q * (g * (P * q.2 - R * q.1)) = g * (P * S - Q * R) * q.1 by grind, ← hg, hgg, Int.one_mul]
  have ey : R * (g * (S * q.1 - Q * q.2)) + S * (g * (P * q.2 - R * q.1)) = q.2 := by
    rw [show R * (g * (S * q.1 - Q * q.2)) + S * (g * (P * q.2 - R * q.1)) = g * (P * S - Q * R) * q.2 by grind, ← hg, hgg, Int.one_mul]
  obtain ⟨z, hz, l, hl, hx, hy⟩ := pt_of hp (x := g * (S * q.1 - Q * q.2)) (y := g * (P * q.2 - R * q.1)) (fun ⟨d1, d2⟩ => pt_ne hp hq ⟨by
    rw [← ex]; exact Int.dvd_add (Int.dvd_mul_of_dvd_right d1) (Int.dvd_mul_of_dvd_right d2), by
    rw [← ey]; exact Int.dvd_add (Int.dvd_mul_of_dvd_right d1) (Int.dvd_mul_of_dvd_right d2)⟩)
  refine ⟨z, hz, ?_⟩
  rcases hk with rfl | rfl
  · rw [mu2_pt hq] at hm
    rw [mu2_pt hz]
    exact (ge2_pt hp hl hx hy).1 (ge2_ch (by rw [ex, ey]; exact hm))
  · rw [mu3_pt hq] at hm
    rw [mu3_pt hz]
    exact (ge3_pt hp hl hx hy).1 (ge3_ch (by rw [ex, ey]; exact hm))
/-- The program's multiplicities are these. -/
theorem mlt_pt {p a b c d : Int} (hF : isF a b c d = true) (hp : prm p = true) (hN : mul0 (cnt a b c d) p = false) {q : Int × Int} (hq : q ∈ ptm p) : mlt p q.1 q.2 4 [a, b, c, d] = mmu p a b c d q.1 q.2 := by
  obtain ⟨ha, hb, hc, hd⟩ := isF_t hF
  obtain ⟨h2, h97⟩ := prm_rng hp
  rcases pt_is hq with ⟨e, h0, h1⟩ | e
  · rw [e]; exact (mlt_1 ha hb hc hd (by omega) hN).1
  · rw [e]; exact (mlt_0 ha hb hc hd hN).1
theorem rts_len {p : Int} {L : List Int} {m : Int × Int → Nat} : ∀ P : List (Int × Int), (∀ q ∈ P, mlt p q.1 q.2 4 L = m q) → (rts p L P).length = (P.filter fun q => decide (1 ≤ m q)).length := by
  intro P
  induction P with
  | nil => intro _; rfl
  | cons q P ih =>
    intro h
    have h0 := h q List.mem_cons_self
    have hi := ih fun x hx => h x (List.mem_cons_of_mem _ hx)
    unfold rts at hi ⊢
    rw [List.flatMap_cons, List.length_append, hi, List.filter_cons]
    unfold rt1
    rw [h0]
    by_cases e : m q = 0
    · simp [e]
    · simp [e, show 1 ≤ m q by omega]; omega
theorem rtp_zpt {p a b c d : Int} (hF : isF a b c d = true) (hp : prm p = true) (hN : mul0 (cnt a b c d) p = false) : (rtp a b c d p).length = (zpt a b c d p).length :=
  rts_len (m := fun q => mmu p a b c d q.1 q.2) (ptm p) fun _ hq => mlt_pt hF hp hN hq
theorem mxt_k {p a b c d : Int} (k : Nat) (hk : 1 ≤ k) (hF : isF a b c d = true) (hp : prm p = true) (hN : mul0 (cnt a b c d) p = false) : (k : Int) ≤ mxt (rtp a b c d p) ↔ ∃ q ∈ ptm p, k ≤ mmu p a b c d q.1 q.2 := by
  constructor
  · intro h
    refine Classical.byContradiction fun hn => ?_
    have := mx_of (rtp a b c d p) 0 (k - 1 : Int) (by omega) fun r hr => by
      unfold rtp rts at hr
      obtain ⟨q, hq, hr⟩ := List.mem_flatMap.1 hr
      have hm : ¬ k ≤ mmu p a b c d q.1 q.2 := fun h' => hn ⟨q, hq, h'⟩
      unfold rt1 at hr
      split at hr
      · simp at hr
      · simp at hr; subst hr; simp only; rw [mlt_pt hF hp hN hq]; omega
    unfold mxt at h
    omega
  · rintro ⟨q, hq, h⟩
    have hr : (q.1, q.2, ((mmu p a b c d q.1 q.2 : Nat) : Int)) ∈ rtp a b c d p := by
      unfold rtp rts
      refine List.mem_flatMap.2 ⟨q, hq, ?_⟩
      unfold rt1
      rw [mlt_pt hF hp hN hq, if_neg (by omega)]
      simp
    have := (mx_ge (rtp a b c d p) 0).2 _ hr
    simp only at this
    unfold mxt
    omega
theorem mul0_ch {p a b c d P Q R S : Int} (h : mul0 (cnt a b c d) p = true) : mul0 (cnt (cA a b c d P R) (cB a b c d P Q R S) (cC a b c d P Q R S) (cA a b c d Q S)) p = true := by
  rw [mul0_d, decide_eq_true_eq, cnt_dvd] at h ⊢
  obtain ⟨h0, h1, h2, h3⟩ := h
  have m : ∀ {x y : Int}, p ∣ x → p ∣ x * y := fun h => Int.dvd_mul_of_dvd_left h
  refine ⟨?_, ?_, ?_, ?_⟩
  · rw [show cA a b c d P R = a * (P * P * P) + b * (P * P * R) + c * (P * R * R) + d * (R * R * R) by unfold cA vx; grind]
    exact Int.dvd_add (Int.dvd_add (Int.dvd_add (m h0) (m h1)) (m h2)) (m h3)
  · rw [show cB a b c d P Q R S = a * (3 * P * P * Q) + b * (2 * P * Q * R + P * P * S) + c * (Q * R * R + 2 * P * R * S) + d * (3 * R * R * S) by unfold cB; grind]
    exact Int.dvd_add (Int.dvd_add (Int.dvd_add (m h0) (m h1)) (m h2)) (m h3)
  · rw [show cC a b c d P Q R S = a * (3 * P * Q * Q) + b * (2 * P * Q * S + Q * Q * R) + c * (P * S * S + 2 * Q * R * S) + d * (3 * R * S * S) by unfold cC; grind]
    exact Int.dvd_add (Int.dvd_add (Int.dvd_add (m h0) (m h1)) (m h2)) (m h3)
  · rw [show cA a b c d Q S = a * (Q * Q * Q) + b * (Q * Q * S) + c * (Q * S * S) + d * (S * S * S) by unfold cA vx; grind]
    exact Int.dvd_add (Int.dvd_add (Int.dvd_add (m h0) (m h1)) (m h2)) (m h3)
theorem inv_det {P Q R S g : Int} (hg : g = P * S - Q * R) (h1 : g = 1 ∨ g = -1) : g = (g * S) * (g * P) - (-(g * Q)) * (-(g * R)) := by
  rw [show (g * S) * (g * P) - (-(g * Q)) * (-(g * R)) = g * g * (P * S - Q * R) by grind, ← hg, sq_one h1, Int.one_mul]
/-- A form changed by a unit matrix has the same kind. -/
theorem kdn_ch {p a b c d P Q R S g : Int} (hF : isF a b c d = true) (hF' : isF (cA a b c d P R) (cB a b c d P Q R S) (cC a b c d P Q R S) (cA a b c d Q S) = true) (hp : prm p = true) (hg : g = P * S - Q * R) (h1 : g = 1 ∨ g = -1) :
    kdn (cA a b c d P R) (cB a b c d P Q R S) (cC a b c d P Q R S) (cA a b c d Q S) p = kdn a b c d p := by
  obtain ⟨b0, b1, b2, b3⟩ := back_1 (a := a) (b := b) (c := c) (d := d) hg h1
  have m0 := mul0_ch (p := p) (a := a) (b := b) (c := c) (d := d) (P := P) (Q := Q) (R := R) (S := S)
  have l0 := zpt_le (a := a) (b := b) (c := c) (d := d) hp hg h1
  have k0 := fun k hk => mult_ch (a := a) (b := b) (c := c) (d := d) k hk hp hg h1
  generalize cA a b c d P R = A at *
  generalize cB a b c d P Q R S = B at *
  generalize cC a b c d P Q R S = C at *
  generalize cA a b c d Q S = D at *
  have m1 := mul0_ch (p := p) (a := A) (b := B) (c := C) (d := D) (P := g * S) (Q := -(g * Q)) (R := -(g * R)) (S := g * P)
  have l1 := zpt_le (a := A) (b := B) (c := C) (d := D) hp (inv_det hg h1) h1
  have k1 := fun k hk => mult_ch (a := A) (b := B) (c := C) (d := D) k hk hp (inv_det hg h1) h1
  rw [b0, b1, b2, b3] at m1 l1 k1
  unfold kdn
  cases hN : mul0 (cnt a b c d) p with
  | true => simp [m0 hN]
  | false =>
    have hN' : mul0 (cnt A B C D) p = false := by
      cases h : mul0 (cnt A B C D) p with
      | false => rfl
      | true => rw [m1 h] at hN; exact absurd hN (by simp)
    simp only [hN']
    rw [kd_eq (rtp_pw hF (prm_prq hp) hN) (rtp_3 hF (prm_prq hp) hN), kd_eq (rtp_pw hF' (prm_prq hp) hN') (rtp_3 hF' (prm_prq hp) hN')]
    have e3 : (3 : Int) ≤ mxt (rtp A B C D p) ↔ (3 : Int) ≤ mxt (rtp a b c d p) := ((mxt_k 3 (by omega) hF' hp hN').trans ⟨k1 3 (.inr rfl), k0 3 (.inr rfl)⟩).trans (mxt_k 3 (by omega) hF hp hN).symm
    have e2 : (2 : Int) ≤ mxt (rtp A B C D p) ↔ (2 : Int) ≤ mxt (rtp a b c d p) := ((mxt_k 2 (by omega) hF' hp hN').trans ⟨k1 2 (.inl rfl), k0 2 (.inl rfl)⟩).trans (mxt_k 2 (by omega) hF hp hN).symm
    have t : mxt (rtp A B C D p) ≤ 3 := mx_of _ _ _ (by omega) fun r hr => (rtp_3 hF' (prm_prq hp) hN' r hr).2
    have t' : mxt (rtp a b c d p) ≤ 3 := mx_of _ _ _ (by omega) fun r hr => (rtp_3 hF (prm_prq hp) hN r hr).2
    have el : (rtp A B C D p).length = (rtp a b c d p).length := by rw [rtp_zpt hF hp hN, rtp_zpt hF' hp hN']; omega
    simp only [kdm, el, show (mxt (rtp A B C D p) = 3) = (mxt (rtp a b c d p) = 3) by apply propext; omega]
    by_cases h3 : mxt (rtp a b c d p) = 3
    · simp [h3]
    · simp only [h3, if_false, show (mxt (rtp A B C D p) = 2) = (mxt (rtp a b c d p) = 2) by apply propext; omega]


end Go.Proofs.YtdogkkmdccieiaaDoor
