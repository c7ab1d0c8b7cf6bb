/- Mathematics of chapter 9's ideal numbers: nodes of a number, products over them. No Go function in sight. -/
import Derived.Test.YtihcmgjfkiaelaaDoorYn
namespace Go.Proofs.YtihcmgjfkiaelaaDoor
open Go.RowKit

theorem pow_dvd_self {p t : Nat} (h : 1 ≤ t) : p ∣ p ^ t := by
  obtain ⟨k, rfl⟩ : ∃ k, t = k + 1 := ⟨t - 1, by omega⟩
  rw [Nat.pow_succ]; exact Nat.dvd_mul_left _ _
theorem Nod.ex (n : Nat) (h : 1 ≤ n) : ∃ N, Nod n N := by
  induction n using Nat.strongRecOn with
  | ind n ih =>
    by_cases h1 : n = 1
    · exact ⟨[], h1 ▸ .one⟩
    · obtain ⟨p, h2, hle, hz, hn⟩ := has_least n (by omega)
      have key : ∀ k m, n = p ^ k * m → m ≤ n → 0 < m → ∃ t m', n = p ^ t * m' ∧ m' % p ≠ 0 ∧ k ≤ t ∧ m' ≤ n := by
        intro k m
        induction m using Nat.strongRecOn generalizing k with
        | ind m ih2 =>
          intro he hm hm0
          by_cases hd : m % p = 0
          · obtain ⟨m', rfl⟩ := Nat.dvd_of_mod_eq_zero hd
            have hm1 : 0 < m' := Nat.pos_of_ne_zero fun e => by subst e; simp at hm0
            have hlt : m' < p * m' := by have : 2 * m' ≤ p * m' := Nat.mul_le_mul_right _ h2; omega
            obtain ⟨t, m2, a, b, c, d⟩ := ih2 m' hlt (k + 1) (by rw [he, Nat.pow_succ, Nat.mul_assoc]) (by omega) hm1
            exact ⟨t, m2, a, b, by omega, d⟩
          · exact ⟨k, m, he, hd, Nat.le_refl _, hm⟩
      obtain ⟨m0, hm0⟩ := Nat.dvd_of_mod_eq_zero hz
      have hm00 : 0 < m0 := Nat.pos_of_ne_zero fun e => by subst e; simp at hm0; omega
      obtain ⟨t, m, he, hmz, ht, hmn⟩ := key 1 m0 (by rw [Nat.pow_one]; exact hm0) (by rw [hm0]; exact Nat.le_mul_of_pos_left _ (by omega)) hm00
      have hmp : 0 < m := Nat.pos_of_ne_zero fun e => by subst e; simp at hmz
      have hlt : m < n := by
        have h3 : p ≤ p ^ t := Nat.le_of_dvd (Nat.pow_pos (by omega)) (pow_dvd_self ht)
        have h4 : 2 * m ≤ p ^ t * m := Nat.mul_le_mul_right _ (by omega)
        omega
      obtain ⟨N, hN⟩ := ih m hlt hmp
      exact ⟨(p, t) :: N, .cons he h2 hn ht hmz hN⟩
theorem pow_uniq {p m m' : Nat} (hp : 2 ≤ p) : ∀ t t', p ^ t * m = p ^ t' * m' → m % p ≠ 0 → m' % p ≠ 0 → t = t' ∧ m = m'
  | 0, 0, h, _, _ => ⟨rfl, by simpa using h⟩
  | 0, t' + 1, h, h1, _ => by
    exfalso; apply h1
    have : m = p * (p ^ t' * m') := by rw [Nat.pow_succ] at h; simp at h; rw [h]; grind
    rw [this]; exact Nat.mul_mod_right _ _
  | t + 1, 0, h, _, h2 => by
    exfalso; apply h2
    have : m' = p * (p ^ t * m) := by rw [Nat.pow_succ] at h; simp at h; rw [← h]; grind
    rw [this]; exact Nat.mul_mod_right _ _
  | t + 1, t' + 1, h, h1, h2 => by
    have e : p * (p ^ t * m) = p * (p ^ t' * m') := by rw [Nat.pow_succ, Nat.pow_succ] at h; grind
    obtain ⟨a, b⟩ := pow_uniq hp t t' (Nat.eq_of_mul_eq_mul_left (by omega) e) h1 h2
    exact ⟨by omega, b⟩
theorem Nod.uniq {n : Nat} {N : List (Nat × Nat)} (h : Nod n N) : ∀ {N'}, Nod n N' → N = N' := by
  induction h with
  | one =>
    intro N' h'
    cases h' with
    | one => rfl
    | cons e h2 hn ht _ hm =>
      have := Nat.le_of_dvd (by omega) (Nat.dvd_trans (pow_dvd_self ht) (e ▸ Nat.dvd_mul_right _ _))
      omega
  | @cons p t m n N e h2 hn ht hz hm ih =>
    intro N' h'
    cases h' with
    | one =>
      have := Nat.le_of_dvd (by omega) (Nat.dvd_trans (pow_dvd_self ht) (e ▸ Nat.dvd_mul_right _ _))
      omega
    | @cons p' t' m' _ N'' e' h2' hn' ht' hz' hm' =>
      have d1 : n % p = 0 := Nat.mod_eq_zero_of_dvd (e ▸ Nat.dvd_trans (pow_dvd_self ht) (Nat.dvd_mul_right _ _))
      have d2 : n % p' = 0 := Nat.mod_eq_zero_of_dvd (Nat.dvd_trans (pow_dvd_self ht') (e' ▸ Nat.dvd_mul_right _ _))
      have hp : p = p' := by
        rcases Nat.lt_trichotomy p p' with h | h | h
        · exact absurd d1 (hn' p h2 h)
        · exact h
        · exact absurd d2 (hn p' h2' h)
      subst hp
      obtain ⟨rfl, rfl⟩ := pow_uniq h2 t t' (e ▸ e') hz hz'
      rw [ih hm']
theorem Nod.prm {n : Nat} {N : List (Nat × Nat)} (h : Nod n N) : ∀ x ∈ N, Prm x.1 ∧ x.1 ∣ n := by
  induction h with
  | one => intro x hx; cases hx
  | @cons p t m n N e h2 hn ht hz hm ih =>
    have d1 : p ∣ n := e ▸ Nat.dvd_trans (pow_dvd_self ht) (Nat.dvd_mul_right _ _)
    intro x hx
    rcases List.mem_cons.1 hx with rfl | hx
    · exact ⟨least_prm h2 (Nat.mod_eq_zero_of_dvd d1) hn, d1⟩
    · exact ⟨(ih x hx).1, Nat.dvd_trans (ih x hx).2 (e ▸ Nat.dvd_mul_left _ _)⟩
/-- The nodes ascend. -/
theorem Nod.asc {n : Nat} {N : List (Nat × Nat)} (h : Nod n N) : N.Pairwise fun x y => x.1 < y.1 := by
  induction h with
  | one => exact List.Pairwise.nil
  | @cons p t m n N e h2 hn ht hz hm ih =>
    refine List.Pairwise.cons (fun x hx => ?_) ih
    obtain ⟨hp, hd⟩ := hm.prm x hx
    have hdn : x.1 ∣ n := Nat.dvd_trans hd (e ▸ Nat.dvd_mul_left _ _)
    rcases Nat.lt_trichotomy p x.1 with h | h | h
    · exact h
    · exact absurd (Nat.mod_eq_zero_of_dvd (h ▸ hd)) hz
    · exact absurd (Nat.mod_eq_zero_of_dvd hdn) (hn x.1 hp.1 h)
theorem prm_pow {q p t : Nat} (hq : Prm q) (h : q ∣ p ^ t) : q ∣ p := by
  induction t with
  | zero => rw [Nat.pow_zero] at h; have := Nat.le_of_dvd (by omega) h; have := hq.1; omega
  | succ t ih =>
    rw [Nat.pow_succ] at h
    rcases euclid hq h with h | h
    · exact ih h
    · exact h
theorem prm_eq {q p : Nat} (hq : Prm q) (hp : Prm p) (h : q ∣ p) : q = p := by
  have hle := Nat.le_of_dvd (by have := hp.1; omega) h
  rcases Nat.lt_or_ge q p with h1 | h1
  · exact absurd (Nat.mod_eq_zero_of_dvd h) (hp.2 q hq.1 h1)
  · omega
/-- A prime and how often it divides is a node. -/
theorem Nod.mem {n q k u : Nat} {N : List (Nat × Nat)} (h : Nod n N) (hq : Prm q) (he : n = q ^ k * u) (hu : u % q ≠ 0) (hk : 1 ≤ k) : (q, k) ∈ N := by
  induction h generalizing u with
  | one =>
    have := Nat.le_of_dvd (by omega) (Nat.dvd_trans (pow_dvd_self hk) (he ▸ Nat.dvd_mul_right _ _))
    have := hq.1; omega
  | @cons p t m n N e h2 hn ht hz hm ih =>
    have d1 : p ∣ n := e ▸ Nat.dvd_trans (pow_dvd_self ht) (Nat.dvd_mul_right _ _)
    have hp : Prm p := least_prm h2 (Nat.mod_eq_zero_of_dvd d1) hn
    by_cases hpq : q = p
    · subst hpq
      obtain ⟨rfl, _⟩ := pow_uniq h2 k t (he ▸ e) hu hz
      exact List.mem_cons_self ..
    · refine List.mem_cons_of_mem _ ?_
      -- q^k divides m
      have key : ∀ j, j ≤ k → ∃ v, m = q ^ j * v := by
        intro j
        induction j with
        | zero => intro _; exact ⟨m, by simp⟩
        | succ j ihj =>
          intro hj
          obtain ⟨v, hv⟩ := ihj (by omega)
          have h3 : q ^ (k - j) * u = p ^ t * v := by
            have h4 : q ^ j * (q ^ (k - j) * u) = q ^ j * (p ^ t * v) := by
              have h5 : q ^ k = q ^ j * q ^ (k - j) := by rw [← Nat.pow_add]; congr 1; omega
              rw [← Nat.mul_assoc, ← h5, ← he, e, hv]; grind
            exact Nat.eq_of_mul_eq_mul_left (Nat.pow_pos (by have := hq.1; omega)) h4
          have h6 : q ∣ p ^ t * v := by rw [← h3]; exact Nat.dvd_trans (pow_dvd_self (by omega)) (Nat.dvd_mul_right _ _)
          rcases euclid hq h6 with h7 | h7
          · exact absurd (prm_eq hq hp (prm_pow hq h7)) hpq
          · obtain ⟨z, hz2⟩ := h7
            exact ⟨z, by rw [hv, hz2, Nat.pow_succ]; grind⟩
      obtain ⟨v, hv⟩ := key k (Nat.le_refl _)
      refine ih hv ?_
      intro hvz
      apply hu
      have h8 : u = p ^ t * v := by
        have h4 : q ^ k * u = q ^ k * (p ^ t * v) := by rw [← he, e, hv]; grind
        exact Nat.eq_of_mul_eq_mul_left (Nat.pow_pos (by have := hq.1; omega)) h4
      rw [h8]
      exact Nat.mod_eq_zero_of_dvd (Nat.dvd_trans (Nat.dvd_of_mod_eq_zero hvz) (Nat.dvd_mul_left _ _))
/-- The product over nodes, one after the other. -/
def chl (v : Nat → Nat → Int) (acc : Int) (N : List (Nat × Nat)) : Int := N.foldl (fun a x => mu a (v x.1 x.2)) acc
/-- .. over those of primes below q. -/
def chf (v : Nat → Nat → Int) (q : Nat) (N : List (Nat × Nat)) : Int := chl v 1 (N.filter fun x => decide (x.1 < q))
theorem flt_step {q k : Nat} {N : List (Nat × Nat)} (h : N.Pairwise fun x y => x.1 < y.1) (hm : (q, k) ∈ N) : N.filter (fun x => decide (x.1 < q + 1)) = N.filter (fun x => decide (x.1 < q)) ++ [(q, k)] := by
  induction N with
  | nil => cases hm
  | cons x N ih =>
    rw [List.pairwise_cons] at h
    rcases List.mem_cons.1 hm with rfl | hm'
    · have e1 : N.filter (fun x => decide (x.1 < q + 1)) = [] := List.filter_eq_nil_iff.2 fun y hy => by have := h.1 y hy; simp at this ⊢; omega
      have e2 : N.filter (fun x => decide (x.1 < q)) = [] := List.filter_eq_nil_iff.2 fun y hy => by have := h.1 y hy; simp at this ⊢; omega
      rw [List.filter_cons_of_pos (by simp), List.filter_cons_of_neg (by simp), e1, e2]; rfl
    · have hx : x.1 < q := h.1 _ hm'
      rw [List.filter_cons_of_pos (by simp; omega), List.filter_cons_of_pos (by simpa using hx), ih h.2 hm']; rfl
theorem flt_same {q : Nat} {N : List (Nat × Nat)} (h : ∀ x ∈ N, x.1 ≠ q) : N.filter (fun x => decide (x.1 < q + 1)) = N.filter (fun x => decide (x.1 < q)) :=
  List.filter_congr fun x hx => by have := h x hx; rw [decide_eq_decide]; omega
theorem chq_step {v : Nat → Nat → Int} {q k : Nat} {N : List (Nat × Nat)} (h : N.Pairwise fun x y => x.1 < y.1) (hm : (q, k) ∈ N) : chf v (q + 1) N = mu (chf v q N) (v q k) := by
  unfold chf; rw [flt_step h hm]; simp [chl]
theorem chq_same {v : Nat → Nat → Int} {q : Nat} {N : List (Nat × Nat)} (h : ∀ x ∈ N, x.1 ≠ q) : chf v (q + 1) N = chf v q N := by
  unfold chf; rw [flt_same h]
theorem chq_2 {v : Nat → Nat → Int} {N : List (Nat × Nat)} (h : ∀ x ∈ N, 2 ≤ x.1) : chf v 2 N = 1 := by
  unfold chf
  rw [List.filter_eq_nil_iff.2 fun x hx => by have := h x hx; simp; omega]; rfl
theorem chq_all {v : Nat → Nat → Int} {q : Nat} {N : List (Nat × Nat)} (h : ∀ x ∈ N, x.1 < q) : chf v q N = chl v 1 N := by
  unfold chf
  rw [List.filter_eq_self.2 fun x hx => by simpa using h x hx]

theorem prm_prq9 {p : Nat} (h : Prm p) (hb : p ≤ 500) : prq (p : Int) = true := by
  have h9 : p ≤ 499 := by
    rcases Nat.lt_or_ge 499 p with h0 | h0
    · have : p = 500 := by omega
      subst this
      exact absurd (by decide) (h.2 2 (by omega) (by omega))
    · exact h0
  exact prq_mk (by have := h.1; omega) (by omega) fun k a b e => h.2 k a (by omega) (by exact_mod_cast e)
/-- The numbers of a local factor. -/
def lcl (k : Int) (t : Nat) : Int := if k = 1 then (((t : Int) + 1) * (t + 2)) / 2 else if k = 2 then (t : Int) / 2 + 1 else if k = 3 then (if t % 3 = 0 then 1 else 0) else if k = 4 then (t : Int) + 1 else 1
theorem lcl_1 (t : Nat) : lcl 1 t = (((t : Int) + 1) * (t + 2)) / 2 := by simp [lcl]
theorem lcl_2 (t : Nat) : lcl 2 t = (t : Int) / 2 + 1 := by simp [lcl]
theorem lcl_30 {t : Nat} (h : t % 3 = 0) : lcl 3 t = 1 := by simp [lcl, h]
theorem lcl_31 {t : Nat} (h : ¬ t % 3 = 0) : lcl 3 t = 0 := by simp [lcl, h]
theorem lcl_4 (t : Nat) : lcl 4 t = (t : Int) + 1 := by simp [lcl]
theorem lclk_1 {k : Int} (h : k = 1) (t : Nat) : lcl k t = (((t : Int) + 1) * (t + 2)) / 2 := by subst h; exact lcl_1 t
theorem lclk_2 {k : Int} (h : k = 2) (t : Nat) : lcl k t = (t : Int) / 2 + 1 := by subst h; exact lcl_2 t
theorem lclk_30 {k : Int} (h : k = 3) (t : Nat) (ht : t % 3 = 0) : lcl k t = 1 := by subst h; exact lcl_30 ht
theorem lclk_31 {k : Int} (h : k = 3) (t : Nat) (ht : ¬ t % 3 = 0) : lcl k t = 0 := by subst h; exact lcl_31 ht
theorem lclk_4 {k : Int} (h : k = 4) (t : Nat) : lcl k t = (t : Int) + 1 := by subst h; exact lcl_4 t
theorem lcl_x {k : Int} {t : Nat} (h1 : ¬ k = 1) (h2 : ¬ k = 2) (h3 : ¬ k = 3) (h4 : ¬ k = 4) : lcl k t = 1 := by simp [lcl, h1, h2, h3, h4]


end Go.Proofs.YtihcmgjfkiaelaaDoor
