/- What FnPromiseOfAll asks of forms changed by unit matrices: mathematics. -/
import Derived.Test.YtdogkkmdccieiaaDoorKi
import Derived.Test.YtdogkkmdccieiaaDoorRu
import Derived.Test.YtdogkkmdccieiaaDoorQ3
import Derived.Test.YtdogkkmdccieiaaDoorH
import Derived.Test.YtdogkkmdccieiaaDoorC1v
import Derived.Test.YtdogkkmdccieiaaDoorZ4
namespace Go.Proofs.YtdogkkmdccieiaaDoor
open Go.RowKit

theorem dq_dvd_gcd {g a b c d : Int} (h0 : g ∣ a) (h1 : g ∣ b) (h2 : g ∣ c) (h3 : g ∣ d) : g ∣ cnt a b c d := cnt_dvd.2 ⟨h0, h1, h2, h3⟩
theorem cnt_dv (a b c d : Int) : cnt a b c d ∣ a ∧ cnt a b c d ∣ b ∧ cnt a b c d ∣ c ∧ cnt a b c d ∣ d := cnt_dvd.1 (Int.dvd_refl _)
theorem cnt_ch1 {a b c d P Q R S : Int} : cnt a b c d ∣ cnt (cA a b c d P R) (cB a b c d P Q R S) (cC a b c d P Q R S) (cA a b c d Q S) := by
  have h := mul0_ch (p := cnt a b c d) (a := a) (b := b) (c := c) (d := d) (P := P) (Q := Q) (R := R) (S := S) (by rw [mul0_d]; simp)
  rw [mul0_d, decide_eq_true_eq] at h
  exact h
/-- Contents do not change under unit matrices. -/
theorem cnt_ch {a b c d P Q R S g : Int} (hg : g = P * S - Q * R) (h1 : g = 1 ∨ g = -1) : cnt (cA a b c d P R) (cB a b c d P Q R S) (cC a b c d P Q R S) (cA a b c d Q S) = cnt a b c d := by
  obtain ⟨b0, b1, b2, b3⟩ := back_1 (a := a) (b := b) (c := c) (d := d) hg h1
  have m0 := cnt_ch1 (a := a) (b := b) (c := c) (d := d) (P := P) (Q := Q) (R := R) (S := S)
  generalize cA a b c d P R = A at *
  generalize cB a b c d P Q R S = B at *
  generalize cC a b c d P Q R S = C at *
  generalize cA a b c d Q S = D at *
  have m1 := cnt_ch1 (a := A) (b := B) (c := C) (d := D) (P := g * S) (Q := -(g * Q)) (R := -(g * R)) (S := g * P)
  rw [b0, b1, b2, b3] at m1
  exact Int.dvd_antisymm (gcd_nn _ _) (gcd_nn _ _) m1 m0
/-- Nor do discriminants. -/
theorem dsc_ch1 {a b c d P Q R S g : Int} (hg : g = P * S - Q * R) (h1 : g = 1 ∨ g = -1) : dsc (cA a b c d P R) (cB a b c d P Q R S) (cC a b c d P Q R S) (cA a b c d Q S) = dsc a b c d := by
  rw [dsc_wr, dsc_wr, disc_ch a b c d P Q R S g hg]
  have hs := sq_one h1
  rw [show dx a b c d * g * g * g * g * g * g = dx a b c d * ((g * g) * (g * g) * (g * g)) by grind, hs]
  simp
theorem hw1 (a b c : Int) : h1 a b c = wrap64 (hP a b c) := by simp only [h1, hs1, hP]
theorem hw2 (a b c d : Int) : h2 a b c d = wrap64 (hQ a b c d) := by simp only [h2, hs2, hQ]
theorem hw3 (b c d : Int) : h3 b c d = wrap64 (hR b c d) := by simp only [h3, hs3, hR]
/-- The Hessian of a form changed by a unit matrix is the changed Hessian. -/
theorem hes_ch {a b c d P Q R S g : Int} (hg : g = P * S - Q * R) (h1' : g = 1 ∨ g = -1) :
    qv (h1 a b c) (h2 a b c d) (h3 b c d) P R = h1 (cA a b c d P R) (cB a b c d P Q R S) (cC a b c d P Q R S) ∧
    qm (h1 a b c) (h2 a b c d) (h3 b c d) P Q R S = h2 (cA a b c d P R) (cB a b c d P Q R S) (cC a b c d P Q R S) (cA a b c d Q S) ∧
    qv (h1 a b c) (h2 a b c d) (h3 b c d) Q S = h3 (cB a b c d P Q R S) (cC a b c d P Q R S) (cA a b c d Q S) := by
  have hs := sq_one h1'
  rw [hw1, hw2, hw3, hw1, hw2, hw3, hess_P, hess_Q, hess_R, ← hg, hs]
  simp only [Int.one_mul]
  refine ⟨?_, ?_, ?_⟩
  · simp only [qv, pl, mu, wr_al, wr_ar, wr_ml]
  · simp only [qm, pl, mu, wr_al, wr_ar, wr_ml, wr_mr]
  · simp only [qv, pl, mu, wr_al, wr_ar, wr_ml]

theorem chc_is {a b c d P Q R S : Int} (h : chc a b c d P Q R S = 0) : isF a b c d = true ∧ isF P Q R S = true ∧ isF (cA a b c d P R) (cB a b c d P Q R S) (cC a b c d P Q R S) (cA a b c d Q S) = true := chc_0 h
/-- All that is asked of the forms, by the answers of the calls. -/
theorem pr_eq {a b c d P Q R S g p n0 n1 n2 n3 : Int} (h : chc a b c d P Q R S = 0) (hg : g = P * S - Q * R) (hu : g = 1 ∨ g = -1) (e0 : n0 = cA a b c d P R) (e1 : n1 = cB a b c d P Q R S) (e2 : n2 = cC a b c d P Q R S) (e3 : n3 = cA a b c d Q S) :
    dsc0 n0 n1 n2 n3 = dsc0 a b c d ∧ ifF n0 n1 n2 n3 (cnt n0 n1 n2 n3) = ifF a b c d (cnt a b c d) ∧ cif a b c d = 0 ∧ cif n0 n1 n2 n3 = 0 ∧
    cqc (ifF a b c d (h1 a b c)) (ifF a b c d (h2 a b c d)) (ifF a b c d (h3 b c d)) P Q R S = 0 ∧
    qv (ifF a b c d (h1 a b c)) (ifF a b c d (h2 a b c d)) (ifF a b c d (h3 b c d)) P R = ifF n0 n1 n2 n3 (h1 n0 n1 n2) ∧
    qm (ifF a b c d (h1 a b c)) (ifF a b c d (h2 a b c d)) (ifF a b c d (h3 b c d)) P Q R S = ifF n0 n1 n2 n3 (h2 n0 n1 n2 n3) ∧
    qv (ifF a b c d (h1 a b c)) (ifF a b c d (h2 a b c d)) (ifF a b c d (h3 b c d)) Q S = ifF n0 n1 n2 n3 (h3 n1 n2 n3) ∧
    kmv n0 n1 n2 n3 p = kmv a b c d p ∧ fpc n0 n1 n2 n3 p = fpc a b c d p := by
  obtain ⟨hf, hm, hn⟩ := chc_is h
  obtain ⟨q1, q2, q3⟩ := hes_ch (a := a) (b := b) (c := c) (d := d) hg hu
  have qd := dsc_ch1 (a := a) (b := b) (c := c) (d := d) hg hu
  have qc := cnt_ch (a := a) (b := b) (c := c) (d := d) hg hu
  have qk := fun hp : prm p = true => kdn_ch hf hn hp hg hu
  rw [← e0, ← e1, ← e2, ← e3] at hn qd qc q2 qk
  rw [← e0, ← e1, ← e2] at q1
  rw [← e1, ← e2, ← e3] at q3
  obtain ⟨b1, b2, b3⟩ := h_bd hf
  obtain ⟨c1, c2, c3⟩ := h_bd hn
  have hfp : fpc n0 n1 n2 n3 p = fpc a b c d p := by simp [fpc, hf, hn]
  refine ⟨by simp [dsc0, hf, hn, qd], by simp [ifF, hf, hn, qc], by simp [cif, hf], by simp [cif, hn], ?_, ?_, ?_, ?_, ?_, hfp⟩
  · have k1 := isQ_mk (a := h1 a b c) (b := h2 a b c d) (c := h3 b c d) (by omega) (by omega) (by omega)
    have k2 := isQ_mk (a := h1 n0 n1 n2) (b := h2 n0 n1 n2 n3) (c := h3 n1 n2 n3) (by omega) (by omega) (by omega)
    simp [ifF, hf, cqc, q1, q2, q3, k1, k2, hm]
  · simp [ifF, hf, hn, q1]
  · simp [ifF, hf, hn, q2]
  · simp [ifF, hf, hn, q3]
  · unfold kmv
    rw [hfp]
    by_cases hz : fpc a b c d p = 0
    · simp only [hz, if_true]; exact qk (fpc_0.1 hz).2
    · simp [hz]
/-- Values of changed forms. -/
theorem pv_eq {a b c d P Q R S x y n0 n1 n2 n3 : Int} (h : chc a b c d P Q R S = 0) (e0 : n0 = cA a b c d P R) (e1 : n1 = cB a b c d P Q R S) (e2 : n2 = cC a b c d P Q R S) (e3 : n3 = cA a b c d Q S) (hx : -100000 ≤ x ∧ x ≤ 100000) (hy : -100000 ≤ y ∧ y ≤ 100000)
    (h1 : plc n0 n1 n2 n3 x y = 0) (h2 : plc a b c d (pl (mu P x) (mu Q y)) (pl (mu R x) (mu S y)) = 0) : va0 n0 n1 n2 n3 x y = va0 a b c d (pl (mu P x) (mu Q y)) (pl (mu R x) (mu S y)) := by
  obtain ⟨hf, hm, hn⟩ := chc_is h
  obtain ⟨hP, hQ, hR, hS⟩ := isF_t hm
  have m : ∀ {u v : Int}, (-1000 ≤ u ∧ u ≤ 1000) → (-100000 ≤ v ∧ v ≤ 100000) → -100000000 ≤ u * v ∧ u * v ≤ 100000000 := fun hu hv => by
    have := mulb hu hv; simp only [Int.reduceMul] at this; exact this
  have b1 := m hP hx; have b2 := m hQ hy; have b3 := m hR hx; have b4 := m hS hy
  have E1 : pl (mu P x) (mu Q y) = P * x + Q * y := by
    simp only [pl, mu, wr_al, wr_ar]; exact wr_in (by omega)
  have E2 : pl (mu R x) (mu S y) = R * x + S * y := by
    simp only [pl, mu, wr_al, wr_ar]; exact wr_in (by omega)
  rw [E1, E2] at h2 ⊢
  unfold va0
  rw [if_pos h1, if_pos h2, vl_wr, vl_wr, e0, e1, e2, e3, val_ch]


end Go.Proofs.YtdogkkmdccieiaaDoor
