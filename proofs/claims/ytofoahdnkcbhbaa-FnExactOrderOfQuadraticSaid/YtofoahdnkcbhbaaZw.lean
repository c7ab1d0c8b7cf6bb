/- Chapter 10: classes are a group: unit, cancelling, orders. Mathematics alone. -/
import Derived.Test.YtofoahdnkcbhbaaZv
namespace Go.Proofs.Ytofoahdnkcbhbaa
open Go.RowKit

theorem El.comm {D : Int} {q r : Qd} (hq : El D q) (hr : El D r) : cp q r = cp r q := ((hq.comp hr).2.symm.cp hr.pr).symm
/-- The unit of D. -/
def un (D : Int) : Qd := (1, D % 2, thd 1 (D % 2) D)
theorem el_one {D : Int} {t : Qd} (h : El D t) (h1 : t.1 = 1) : t = un D := by
  obtain ⟨p, q, r⟩ := t
  have h1 : p = 1 := h1
  subst h1
  have hd : q * q - 4 * 1 * r = D := h.ds
  have a : -1 < q := h.rd.2.1
  have b : q ≤ 1 := h.rd.2.2.1
  have hq : q = D % 2 := by
    rcases (show q = 0 ∨ q = 1 by omega) with e | e <;> subst e <;> omega
  have hr : thd 1 q D = r := by
    unfold thd
    have : q * q - D = 4 * 1 * r := by omega
    rw [this]
    exact Int.mul_tdiv_cancel_left _ (by omega)
  unfold un
  rw [← hq, hr]
theorem un_el {D : Int} (hD : D < 0) (h4 : D % 4 < 2) : El D (un D) := by
  have h2 : D % 2 = 0 ∨ D % 2 = 1 := by omega
  have hx : D % 2 * (D % 2) = D % 2 := by rcases h2 with e | e <;> rw [e] <;> rfl
  have ht : thd 1 (D % 2) D = (D % 2 - D) / 4 := by
    unfold thd
    rw [hx]
    exact Int.tdiv_eq_ediv_of_nonneg (by omega)
  refine ⟨⟨Int.le_refl 1, ?_, ?_, ?_⟩, Pri.of (x := 1) (y := 0) (z := 0) (by show 1 * 1 + 0 * _ + 0 * _ = (1 : Int); omega), ?_, hD⟩
  · show -1 < D % 2; omega
  · show D % 2 ≤ 1; omega
  · show rdb 1 (D % 2) (thd 1 (D % 2) D) = true
    rw [ht]
    simp [rdb]; omega
  · show D % 2 * (D % 2) - 4 * 1 * thd 1 (D % 2) D = D
    rw [ht, hx]; omega
theorem un_cp {D : Int} {c : Qd} (hc : El D c) : cp (un D) c = c := by
  obtain ⟨a, b, e⟩ := c
  have hd : b * b - 4 * a * e = D := hc.ds
  have hpos : Pos D (1, b, a * e) := ⟨Int.le_refl 1, by show b * b - 4 * 1 * (a * e) = D; rw [← hd]; grind, hc.ng⟩
  have hr := rdd_red hpos
  have hpri : Pri (1, b, a * e) := Pri.of (x := 1) (y := 0) (z := 0) (by show 1 * 1 + 0 * b + 0 * (a * e) = 1; omega)
  have hel : El D (red (1, b, a * e)) := ⟨hr, hpri.eqv (Eqv.red _), (Eqv.red _).dsq.trans hpos.2.1, hc.ng⟩
  have h1 : (red (1, b, a * e)).1 = 1 := Int.le_antisymm (first_le hr (Eqv.red _).symm (Int.le_refl 1)) hr.1
  have hu := el_one hel h1
  have hcm := dirichlet 1 a b e
  rw [Int.one_mul, Int.one_mul] at hcm
  have : Cpd (red (1, b, a * e)) (a, b, e) (a, b, e) := ⟨hc.rd, _, hcm.left (Eqv.red _), Eqv.refl _⟩
  rw [hu] at this
  exact this.cp (hu ▸ hel.pr)
theorem un_el' {D : Int} {c : Qd} (hc : El D c) : El D (un D) := by
  refine un_el hc.ng ?_
  have h : c.2.1 * c.2.1 - 4 * c.1 * c.2.2 = D := hc.ds
  have h1 : c.2.1 * c.2.1 % 4 < 2 := by
    rw [Int.mul_emod]
    have h3 : c.2.1 % 4 = 0 ∨ c.2.1 % 4 = 1 ∨ c.2.1 % 4 = 2 ∨ c.2.1 % 4 = 3 := by omega
    rcases h3 with h | h | h | h <;> rw [h] <;> decide
  have h2 : 4 * c.1 * c.2.2 = 4 * (c.1 * c.2.2) := Int.mul_assoc _ _ _
  omega
theorem El.cancel {D : Int} {x y c : Qd} (hx : El D x) (hy : El D y) (hc : El D c) (h : cp x c = cp y c) : x = y := by
  obtain ⟨e1, _, f, h2, h3⟩ := hx.comp hc
  obtain ⟨_, _, f', h2', h3'⟩ := hy.comp hc
  rw [← h] at h3'
  have k1 := (h2.back).left h3
  have k2 := (h2'.back).left h3'
  exact hx.rd.uniq hy.rd (k1.uniq e1.pr k2)
/-- Powers: k + 1 factors. -/
noncomputable def pw (c : Qd) : Nat → Qd
  | 0 => c
  | k + 1 => cp (pw c k) c
theorem El.pw {D : Int} {c : Qd} (hc : El D c) : ∀ k, El D (pw c k) := by
  intro k
  induction k with
  | zero => exact hc
  | succ k ih => exact (ih.comp hc).1
theorem pigeon : ∀ (N : Nat) (f : Nat → Nat), (∀ k, k ≤ N → f k < N) → ∃ i j, i < j ∧ j ≤ N ∧ f i = f j := by
  intro N
  induction N with
  | zero => intro f h; exact absurd (h 0 (Nat.le_refl 0)) (by omega)
  | succ N ih =>
    intro f h
    by_cases he : ∃ i, i ≤ N ∧ f i = f (N + 1)
    · obtain ⟨i, h1, h2⟩ := he
      exact ⟨i, N + 1, by omega, Nat.le_refl _, h2⟩
    · have hl := h (N + 1) (Nat.le_refl _)
      obtain ⟨i, j, h1, h2, h3⟩ := ih (fun k => if f (N + 1) < f k then f k - 1 else f k) (fun k hk => by
        have h1 := h k (by omega)
        have h2 : f k ≠ f (N + 1) := fun e => he ⟨k, hk, e⟩
        show (if f (N + 1) < f k then f k - 1 else f k) < N
        split <;> omega)
      have hi : f i ≠ f (N + 1) := fun e => he ⟨i, by omega, e⟩
      have hj : f j ≠ f (N + 1) := fun e => he ⟨j, by omega, e⟩
      refine ⟨i, j, h1, by omega, ?_⟩
      have h3 : (if f (N + 1) < f i then f i - 1 else f i) = (if f (N + 1) < f j then f j - 1 else f j) := h3
      split at h3 <;> split at h3 <;> omega
theorem el_le {D : Int} {t : Qd} (h : El D t) : t.1 ≤ -D := by
  obtain ⟨p, q, r⟩ := t
  have h1 : 1 ≤ p := h.rd.1
  have h2 : -p < q := h.rd.2.1
  have h3 : q ≤ p := h.rd.2.2.1
  have h4 : p ≤ r := h.rd.le.1
  have hd : q * q - 4 * p * r = D := h.ds
  have h5 := sq_le (m := q) (p := p) (by omega) h3
  have h6 : p * p ≤ p * r := Int.mul_le_mul_of_nonneg_left h4 (by omega)
  have h7 : p * 1 ≤ p * p := Int.mul_le_mul_of_nonneg_left h1 (by omega)
  have h8 : 4 * p * r = 4 * (p * r) := Int.mul_assoc _ _ _
  show p ≤ -D
  omega
theorem el_same {D : Int} {t u : Qd} (h : El D t) (h' : El D u) (h1 : t.1 = u.1) (h2 : t.2.1 = u.2.1) : t = u := by
  obtain ⟨p, q, r⟩ := t
  obtain ⟨p', q', r'⟩ := u
  have h1 : p = p' := h1
  have h2 : q = q' := h2
  subst h1 h2
  have hp : 1 ≤ p := h.rd.1
  have d1 : q * q - 4 * p * r = D := h.ds
  have d2 : q * q - 4 * p * r' = D := h'.ds
  have : 4 * p * r = 4 * p * r' := by omega
  rw [Int.eq_of_mul_eq_mul_left (show 4 * p ≠ 0 by omega) this]
/-- Some power is the unit. -/
theorem El.order {D : Int} {c : Qd} (hc : El D c) : ∃ k : Nat, (k : Int) < (-D + 1) * (2 * -D + 1) ∧ Go.Proofs.Ytofoahdnkcbhbaa.pw c k = un D := by
  obtain ⟨M, hM⟩ : ∃ M : Nat, (M : Int) = -D := ⟨(-D).toNat, by have := hc.ng; omega⟩
  obtain ⟨i, j, hij, hjN, he⟩ := pigeon ((M + 1) * (2 * M + 1)) (fun k => (Go.Proofs.Ytofoahdnkcbhbaa.pw c k).1.toNat * (2 * M + 1) + ((Go.Proofs.Ytofoahdnkcbhbaa.pw c k).2.1 + M).toNat) (fun k _ => by
    have h := hc.pw k
    have h1 := el_le h
    have h2 : 1 ≤ (Go.Proofs.Ytofoahdnkcbhbaa.pw c k).1 := h.rd.1
    have h3 := h.rd.2.1
    have h4 := h.rd.2.2.1
    have h5 : (Go.Proofs.Ytofoahdnkcbhbaa.pw c k).1.toNat * (2 * M + 1) ≤ M * (2 * M + 1) := Nat.mul_le_mul_right _ (by omega)
    have h6 : (M + 1) * (2 * M + 1) = M * (2 * M + 1) + (2 * M + 1) := by rw [Nat.add_mul, Nat.one_mul]
    show _ + _ < _
    omega)
  have hpw : Go.Proofs.Ytofoahdnkcbhbaa.pw c i = Go.Proofs.Ytofoahdnkcbhbaa.pw c j := by
    have h := hc.pw i
    have h' := hc.pw j
    have a1 := el_le h; have a2 : 1 ≤ (Go.Proofs.Ytofoahdnkcbhbaa.pw c i).1 := h.rd.1; have a3 := h.rd.2.1; have a4 := h.rd.2.2.1
    have b1 := el_le h'; have b2 : 1 ≤ (Go.Proofs.Ytofoahdnkcbhbaa.pw c j).1 := h'.rd.1; have b3 := h'.rd.2.1; have b4 := h'.rd.2.2.1
    have he : (Go.Proofs.Ytofoahdnkcbhbaa.pw c i).1.toNat * (2 * M + 1) + ((Go.Proofs.Ytofoahdnkcbhbaa.pw c i).2.1 + M).toNat = (Go.Proofs.Ytofoahdnkcbhbaa.pw c j).1.toNat * (2 * M + 1) + ((Go.Proofs.Ytofoahdnkcbhbaa.pw c j).2.1 + M).toNat := he
    have e1 : (Go.Proofs.Ytofoahdnkcbhbaa.pw c i).1.toNat = (Go.Proofs.Ytofoahdnkcbhbaa.pw c j).1.toNat := by
      have u1 : ((Go.Proofs.Ytofoahdnkcbhbaa.pw c i).2.1 + M).toNat < 2 * M + 1 := by omega
      have u2 : ((Go.Proofs.Ytofoahdnkcbhbaa.pw c j).2.1 + M).toNat < 2 * M + 1 := by omega
      generalize (Go.Proofs.Ytofoahdnkcbhbaa.pw c i).1.toNat = x at *
      generalize (Go.Proofs.Ytofoahdnkcbhbaa.pw c j).1.toNat = y at *
      rcases Nat.lt_trichotomy x y with h | h | h
      · have : (x + 1) * (2 * M + 1) ≤ y * (2 * M + 1) := Nat.mul_le_mul_right _ h
        rw [Nat.add_mul, Nat.one_mul] at this
        omega
      · exact h
      · have : (y + 1) * (2 * M + 1) ≤ x * (2 * M + 1) := Nat.mul_le_mul_right _ h
        rw [Nat.add_mul, Nat.one_mul] at this
        omega
    rw [e1] at he
    exact el_same h h' (by omega) (by omega)
  -- cancel i times
  have hback : ∀ i j, i < j → Go.Proofs.Ytofoahdnkcbhbaa.pw c i = Go.Proofs.Ytofoahdnkcbhbaa.pw c j → Go.Proofs.Ytofoahdnkcbhbaa.pw c 0 = Go.Proofs.Ytofoahdnkcbhbaa.pw c (j - i) := by
    intro i
    induction i with
    | zero => intro j _ h; exact h
    | succ i ih =>
      intro j hj h
      obtain ⟨l, rfl⟩ : ∃ l, j = l + 1 := ⟨j - 1, by omega⟩
      have := El.cancel (hc.pw i) (hc.pw l) hc h
      rw [show l + 1 - (i + 1) = l - i by omega]
      exact ih l (by omega) this
  have h0 := hback i j hij hpw
  obtain ⟨l, hl⟩ : ∃ l, j - i = l + 1 := ⟨j - i - 1, by omega⟩
  rw [hl] at h0
  refine ⟨l, ?_, ?_⟩
  · have : ((M + 1) * (2 * M + 1) : Nat) = ((-D + 1) * (2 * -D + 1) : Int) := by rw [← hM]; push_cast; rfl
    rw [← this]
    have : l < (M + 1) * (2 * M + 1) := by omega
    exact_mod_cast this
  · refine (El.cancel (un_el' hc) (hc.pw l) hc ?_).symm
    rw [un_cp hc]
    exact h0

end Go.Proofs.Ytofoahdnkcbhbaa
