/- Several texts in one: XYa, XPc. -/
import Derived.Test.YtdogkkmdccieiaaDoorZ1
import Derived.Test.YtdogkkmdccieiaaDoorZ13
import Derived.Test.YtdogkkmdccieiaaDoorZ5

/- Mathematics of chapter 9: squares, least divisors, primes of any size, resolvents, characters. No Go function in sight. -/
namespace Go.Proofs.YtdogkkmdccieiaaDoor
open Go.RowKit
/-- A square? -/
def sqb (n : Int) : Bool := (List.range (n.toNat + 1)).any fun r => ((r * r : Nat) : Int) == n

theorem sqb_neg {n : Int} (h : n < 0) : sqb n = false := by
  simp only [sqb, List.any_eq_false, beq_iff_eq]
  intro r _ e
  have : (0 : Int) ≤ ((r * r : Nat) : Int) := Int.natCast_nonneg _
  omega

theorem sqb_root {n : Int} {r : Nat} (h1 : ((r * r : Nat) : Int) ≤ n) (h2 : n < (((r + 1) * (r + 1) : Nat) : Int)) : sqb n = (((r * r : Nat) : Int) == n) := by
  rw [Bool.eq_iff_iff]
  simp only [sqb, List.any_eq_true, beq_iff_eq, List.mem_range]
  constructor
  · rintro ⟨x, _, e⟩
    have hx : x * x < (r + 1) * (r + 1) := by omega
    have hx' : r * r ≤ x * x := by omega
    have a : x < r + 1 := Nat.mul_self_lt_mul_self_iff.1 hx
    have b : r ≤ x := Nat.mul_self_le_mul_self_iff.1 hx'
    have : x = r := by omega
    rw [← this]; exact e
  · intro e
    refine ⟨r, ?_, e⟩
    have : r ≤ r * r := Nat.le_mul_self r
    omega

/-- One round of the search by bits. -/
theorem srt_step {n r m : Nat} (h2 : n < (r + 2 ^ (m + 1)) * (r + 2 ^ (m + 1))) (hb : r + 2 ^ (m + 1) ≤ 2147483648) :
    (((r + 2 ^ m) * (r + 2 ^ m) ≤ n) → n < ((r + 2 ^ m) + 2 ^ m) * ((r + 2 ^ m) + 2 ^ m) ∧ (r + 2 ^ m) + 2 ^ m ≤ 2147483648) ∧ ((n < (r + 2 ^ m) * (r + 2 ^ m)) → r + 2 ^ m ≤ 2147483648) := by
  have e : 2 ^ (m + 1) = 2 ^ m + 2 ^ m := by rw [Nat.pow_succ]; omega
  rw [e] at h2 hb
  have e2 : r + (2 ^ m + 2 ^ m) = r + 2 ^ m + 2 ^ m := by omega
  rw [e2] at h2 hb
  have hp : 0 < 2 ^ m := Nat.two_pow_pos m
  generalize 2 ^ m = u at *
  exact ⟨fun _ => ⟨h2, hb⟩, fun _ => by omega⟩

/-- no divisor below d -/
def NoDiv (n d : Nat) : Prop := ∀ j : Nat, 2 ≤ j → j < d → n % j ≠ 0
theorem nodiv_whole {n k : Nat} (h2 : 2 ≤ n) (h : NoDiv n k) (hk : n < k * k) : NoDiv n n := by
  intro j h1 h3 hz
  by_cases hj : j < k
  · exact h j h1 hj hz
  · obtain ⟨m, hm⟩ := Nat.dvd_of_mod_eq_zero hz
    have hm2 : 2 ≤ m := by
      rcases Nat.lt_or_ge m 2 with h0 | h0
      · have : m = 0 ∨ m = 1 := by omega
        rcases this with rfl | rfl
        · omega
        · omega
      · exact h0
    have hmk : m < k := by
      rcases Nat.lt_or_ge m k with h0 | h0
      · exact h0
      · have : k * k ≤ j * m := Nat.mul_le_mul (by omega) h0
        omega
    exact h m hm2 hmk (by rw [hm]; exact Nat.mul_mod_left _ _)
/-- d has the rest 0 or 1 by 4. -/
def Fts (d : Int) : Prop := d % 4 = 0 ∨ d % 4 = 1
theorem fts_sq {e : Int} (x : Int) (h : Fts e) : Fts (x * x * e) := by
  unfold Fts at *
  have h4 : (x * x * e) % 4 = ((x % 4) * (x % 4) * (e % 4)) % 4 := by simp [Int.mul_emod]
  have hx : x % 4 = 0 ∨ x % 4 = 1 ∨ x % 4 = 2 ∨ x % 4 = 3 := by omega
  rw [h4]
  rcases hx with h0 | h0 | h0 | h0 <;> rcases h with h1 | h1 <;> rw [h0, h1] <;> decide
theorem fts_odd {e x : Int} (hx : x % 2 = 1) (h : Fts (x * x * e)) : Fts e := by
  unfold Fts at *
  have h4 : (x * x * e) % 4 = ((x % 4) * (x % 4) * (e % 4)) % 4 := by simp [Int.mul_emod]
  have hx : x % 4 = 1 ∨ x % 4 = 3 := by omega
  rw [h4] at h
  have he : e % 4 = 0 ∨ e % 4 = 1 ∨ e % 4 = 2 ∨ e % 4 = 3 := by omega
  rcases hx with h0 | h0 <;> rcases he with h1 | h1 | h1 | h1 <;> rw [h0, h1] at h <;> simp_all
/-- Nothing can be moved by q. -/
def Um (d : Int) (q : Nat) : Prop := ∀ e : Int, d = (q : Int) * q * e → ¬ Fts e
theorem um_keep {d d' : Int} {q x : Nat} (h : Um d q) (e : d = (x : Int) * x * d') : Um d' q := by
  intro u hu hf
  refine h (x * x * u) ?_ (fts_sq _ hf)
  rw [e, hu]; grind
theorem res_one {D d d' : Int} {F F' : Nat} (hD : D ≠ 0) (h : D = d * F * F) (h' : D = d' * F' * F') (f : Fts d) (f' : Fts d') (u : ∀ q, 2 ≤ q → Um d q) (u' : ∀ q, 2 ≤ q → Um d' q) : d = d' ∧ F = F' := by
  have hF : 0 < F := Nat.pos_of_ne_zero fun e => hD (by rw [h, e]; simp)
  have hF' : 0 < F' := Nat.pos_of_ne_zero fun e => hD (by rw [h', e]; simp)
  obtain ⟨g, hg⟩ : ∃ g, g = Nat.gcd F F' := ⟨_, rfl⟩
  have hg0 : 0 < g := hg ▸ Nat.gcd_pos_of_pos_left _ hF
  obtain ⟨a, ha⟩ : g ∣ F := hg ▸ Nat.gcd_dvd_left _ _
  obtain ⟨b, hb⟩ : g ∣ F' := hg ▸ Nat.gcd_dvd_right _ _
  have hco : Nat.gcd a b = 1 := by
    have := Nat.gcd_mul_left g a b
    rw [← ha, ← hb, ← hg] at this
    have : g * Nat.gcd a b = g * 1 := by omega
    exact Nat.eq_of_mul_eq_mul_left hg0 this
  have hgz : (g : Int) ≠ 0 := by omega
  have hc : d * ((a : Int) * a) = d' * ((b : Int) * b) := by
    have e1 : (g : Int) * g * (d * ((a : Int) * a)) = (g : Int) * g * (d' * ((b : Int) * b)) := by
      rw [h'] at h
      rw [ha, hb] at h
      push_cast at h
      grind
    exact Int.eq_of_mul_eq_mul_left (Int.mul_ne_zero hgz hgz) e1
  have hcop : Nat.Coprime (b * b) (a * a) := by
    have c1 : Nat.Coprime b a := by rw [Nat.coprime_comm]; exact hco
    exact (c1.mul_left c1).mul_right (c1.mul_left c1)
  have hdv : (b * b) ∣ d.natAbs := by
    refine hcop.dvd_of_dvd_mul_right (m := d.natAbs) ?_
    have := congrArg Int.natAbs hc
    simp only [Int.natAbs_mul, Int.natAbs_natCast] at this
    rw [this]
    exact Nat.dvd_mul_left _ _
  obtain ⟨e, he⟩ : ((b * b : Nat) : Int) ∣ d := Int.ofNat_dvd_left.2 hdv
  have hbz : (b : Int) ≠ 0 := fun hz => by
    have : b = 0 := by omega
    rw [this] at hb; omega
  have hd' : d' = (a : Int) * a * e := by
    have e1 : (b : Int) * b * d' = (b : Int) * b * ((a : Int) * a * e) := by
      rw [he] at hc; push_cast at hc; grind
    exact Int.eq_of_mul_eq_mul_left (Int.mul_ne_zero hbz hbz) e1
  have hfe : Fts e := by
    by_cases ho : (a : Int) % 2 = 1
    · exact fts_odd ho (hd' ▸ f')
    · have hb2 : (b : Int) % 2 = 1 := by
        by_cases h2 : b % 2 = 1
        · omega
        · have : 2 ∣ Nat.gcd a b := Nat.dvd_gcd (Nat.dvd_of_mod_eq_zero (by omega)) (Nat.dvd_of_mod_eq_zero (by omega))
          rw [hco] at this
          omega
      refine fts_odd hb2 ?_
      have : d = (b : Int) * b * e := by rw [he]; push_cast; rfl
      exact this ▸ f
  have hb1 : b = 1 := by
    rcases Nat.lt_or_ge b 2 with h0 | h0
    · omega
    · exact absurd hfe (u b h0 e (by rw [he]; push_cast; rfl))
  have ha1 : a = 1 := by
    rcases Nat.lt_or_ge a 2 with h0 | h0
    · have : a ≠ 0 := fun hz => by rw [hz] at ha; omega
      omega
    · exact absurd hfe (u' a h0 e hd')
  subst hb1 ha1
  refine ⟨?_, by omega⟩
  simpa using hc

/-- Primes, of any size. -/
def Prm (p : Nat) : Prop := 2 ≤ p ∧ NoDiv p p
theorem least_prm {n d : Nat} (h2 : 2 ≤ d) (hz : n % d = 0) (h : NoDiv n d) : Prm d := by
  refine ⟨h2, fun j h1 h3 hj => h j h1 h3 ?_⟩
  exact Nat.mod_eq_zero_of_dvd (Nat.dvd_trans (Nat.dvd_of_mod_eq_zero hj) (Nat.dvd_of_mod_eq_zero hz))
theorem has_least (n : Nat) (h : 2 ≤ n) : ∃ d, 2 ≤ d ∧ d ≤ n ∧ n % d = 0 ∧ NoDiv n d := by
  have : ∀ k, 2 ≤ k → k ≤ n → NoDiv n k → ∃ d, 2 ≤ d ∧ d ≤ n ∧ n % d = 0 ∧ NoDiv n d := by
    intro k
    induction hm : n - k generalizing k with
    | zero =>
      intro h1 h3 h4
      have : k = n := by omega
      subst this
      exact ⟨k, h1, Nat.le_refl _, Nat.mod_self _, h4⟩
    | succ m ih =>
      intro h1 h3 h4
      by_cases hz : n % k = 0
      · exact ⟨k, h1, h3, hz, h4⟩
      · refine ih (k + 1) (by omega) (by omega) (by omega) fun j a b => ?_
        by_cases e : j = k
        · subst e; exact hz
        · exact h4 j a (by omega)
  exact this 2 (Nat.le_refl _) h fun j a b => by omega
theorem um_all {d : Int} (h : ∀ p, Prm p → Um d p) (q : Nat) (h2 : 2 ≤ q) : Um d q := by
  obtain ⟨p, hp2, _, hz, hn⟩ := has_least q h2
  obtain ⟨m, hm⟩ := Nat.dvd_of_mod_eq_zero hz
  intro e he hf
  refine h p (least_prm hp2 hz hn) ((m : Int) * m * e) ?_ (fts_sq _ hf)
  rw [he, hm]; push_cast; grind
/-- Euclid. -/
theorem euclid {q a b : Nat} (hq : Prm q) (h : q ∣ a * b) : q ∣ a ∨ q ∣ b := by
  have hg : Nat.gcd q a ∣ q := Nat.gcd_dvd_left _ _
  by_cases e : Nat.gcd q a = 1
  · exact .inr (Nat.Coprime.dvd_of_dvd_mul_left e h)
  · left
    have hle : Nat.gcd q a ≤ q := Nat.le_of_dvd (by have := hq.1; omega) hg
    have hpos : 0 < Nat.gcd q a := Nat.gcd_pos_of_pos_left _ (by have := hq.1; omega)
    by_cases e2 : Nat.gcd q a = q
    · rw [← e2]; exact Nat.gcd_dvd_right _ _
    · exact absurd (Nat.mod_eq_zero_of_dvd hg) (hq.2 _ (by omega) (by omega))
theorem euclid_sq {q p x : Nat} (hq : Prm q) (hp0 : 0 < p) (hp : p < q) (h : q * q ∣ p * x) : q * q ∣ x := by
  have hnp : ¬ q ∣ p := fun hd => by have := Nat.le_of_dvd hp0 hd; omega
  have h1 : q ∣ x := (euclid hq (Nat.dvd_trans (Nat.dvd_mul_right q q) h)).resolve_left hnp
  obtain ⟨y, rfl⟩ := h1
  obtain ⟨z, hz⟩ := h
  have : p * y = q * z := by
    have : q * (p * y) = q * (q * z) := by rw [← Nat.mul_assoc, ← Nat.mul_assoc] at *; rw [← hz]; rw [Nat.mul_comm q p]
    exact Nat.eq_of_mul_eq_mul_left (by have := hq.1; omega) this
  have h2 : q ∣ y := (euclid hq ⟨z, this⟩).resolve_left hnp
  exact Nat.mul_dvd_mul_left q h2

/-- What is left of n when all primes below p have been divided out. -/
structure Lf (n left p : Nat) : Prop where
  pos : 0 < left
  le : left ≤ n
  nd : NoDiv left p
  tw : ∀ q, Prm q → p ≤ q → q * q ∣ n → q * q ∣ left
theorem Lf.start {n : Nat} (h : 0 < n) : Lf n n 2 := ⟨h, Nat.le_refl _, fun j a b => by omega, fun _ _ _ h => h⟩
/-- one division -/
structure Ld (n left0 left p t : Nat) : Prop where
  pos : 0 < left
  le : left ≤ n
  nd : NoDiv left p
  tw : ∀ q, Prm q → p < q → q * q ∣ n → q * q ∣ left
  eq : left0 = p ^ t * left
theorem Lf.ld {n left p : Nat} (h : Lf n left p) : Ld n left left p 0 := ⟨h.pos, h.le, h.nd, fun q a b c => h.tw q a (by omega) c, by simp⟩
theorem Ld.step {n left0 left p t : Nat} (h : Ld n left0 left p t) (hp : 2 ≤ p) (hz : left % p = 0) : Ld n left0 (left / p) p (t + 1) := by
  obtain ⟨m, hm⟩ := Nat.dvd_of_mod_eq_zero hz
  have hd : left / p = m := by rw [hm]; exact Nat.mul_div_cancel_left _ (by omega)
  have hp0 := h.pos
  rw [hd]
  have hm0 : 0 < m := Nat.pos_of_ne_zero fun e => by rw [e] at hm; omega
  have hle : m ≤ left := by rw [hm]; exact Nat.le_mul_of_pos_left _ (by omega)
  refine ⟨hm0, Nat.le_trans hle h.le, fun j a b hj => h.nd j a b ?_, fun q a b c => ?_, ?_⟩
  · exact Nat.mod_eq_zero_of_dvd (Nat.dvd_trans (Nat.dvd_of_mod_eq_zero hj) (hm ▸ Nat.dvd_mul_left _ _))
  · have := h.tw q a b c
    rw [hm] at this
    exact euclid_sq a (by omega) b this
  · rw [h.eq, hm, Nat.pow_succ, Nat.mul_assoc]
theorem Ld.next {n left0 left p t : Nat} (h : Ld n left0 left p t) (hz : left % p ≠ 0) : Lf n left (p + 1) := by
  refine ⟨h.pos, h.le, fun j a b hj => ?_, fun q a b c => h.tw q a (by omega) c⟩
  by_cases e : j = p
  · subst e; exact hz hj
  · exact h.nd j a (by omega) hj
theorem Ld.once {n left0 left p t : Nat} (h : Ld n left0 left p t) (hp : 2 ≤ p) (hz : left % p ≠ 0) (ht : t ≤ 1) : ¬ p * p ∣ left0 := by
  intro hd
  rw [h.eq] at hd
  have h01 : t = 0 ∨ t = 1 := by omega
  rcases h01 with rfl | rfl
  · rw [Nat.pow_zero, Nat.one_mul] at hd
    exact hz (Nat.mod_eq_zero_of_dvd (Nat.dvd_trans (Nat.dvd_mul_right p p) hd))
  · rw [Nat.pow_one] at hd
    exact hz (Nat.mod_eq_zero_of_dvd (Nat.dvd_of_mul_dvd_mul_left (by omega) hd))
/-- At the end at most a square of a prime is left. -/
theorem Lf.last {n left p q : Nat} (h : Lf n left p) (_hp : 2 ≤ p) (hend : left < p * p * p) (hq : Prm q) (hpq : p ≤ q) (hd : q * q ∣ n) : q * q = left := by
  obtain ⟨m, hm⟩ := h.tw q hq hpq hd
  have hm1 : m = 1 := by
    have hp0 := h.pos
    have hm0 : 0 < m := Nat.pos_of_ne_zero fun e => by rw [e] at hm; omega
    rcases Nat.lt_or_ge m 2 with h0 | h0
    · omega
    · have hmp : p ≤ m := by
        rcases Nat.lt_or_ge m p with h1 | h1
        · refine absurd ?_ (h.nd m h0 h1)
          rw [hm]; exact Nat.mul_mod_left _ _
        · exact h1
      have : p * p * p ≤ q * q * m := Nat.mul_le_mul (Nat.mul_le_mul hpq hpq) hmp
      omega
  rw [hm, hm1, Nat.mul_one]
/-- The model's end of the search. -/
theorem um_model {d : Int} (ho : ∀ j : Nat, 3 ≤ j → j % 2 = 1 → ¬ ((j : Int) * j ∣ d)) (h4 : ∀ e, d = 4 * e → ¬ Fts e) (q : Nat) (h2 : 2 ≤ q) : Um d q := by
  intro e he hf
  by_cases hq : q % 2 = 1
  · exact ho q (by omega) hq ⟨e, he⟩
  · obtain ⟨m, rfl⟩ : ∃ m, q = 2 * m := ⟨q / 2, by omega⟩
    refine h4 ((m : Int) * m * e) ?_ (fts_sq _ hf)
    rw [he]; push_cast; grind
/-- The prime factors of n, ascending, each as often as it is there. -/
inductive Pf : Nat → List Nat → Prop
  | one : Pf 1 []
  | cons {p m : Nat} {L : List Nat} : 2 ≤ p → NoDiv (p * m) p → 0 < m → Pf m L → Pf (p * m) (p :: L)
theorem Pf.ex (n : Nat) (h : 1 ≤ n) : ∃ L, Pf n L := by
  induction n using Nat.strongRecOn with
  | ind n ih =>
    by_cases h1 : n = 1
    · exact ⟨[], h1 ▸ .one⟩
    · obtain ⟨d, h2, hle, hz, hn⟩ := has_least n (by omega)
      obtain ⟨m, rfl⟩ := Nat.dvd_of_mod_eq_zero hz
      have hm0 : 0 < m := Nat.pos_of_ne_zero fun e => by subst e; omega
      have hlt : m < d * m := by
        have : 2 * m ≤ d * m := Nat.mul_le_mul_right _ h2
        omega
      obtain ⟨L, hL⟩ := ih m hlt hm0
      exact ⟨d :: L, .cons h2 hn hm0 hL⟩
theorem Pf.pos {n : Nat} {L : List Nat} (h : Pf n L) : 0 < n := by
  cases h with
  | one => omega
  | cons h2 _ hm _ => exact Nat.mul_pos (by omega) hm
theorem Pf.eq_one {L : List Nat} (h : Pf 1 L) : L = [] := by
  generalize hn : 1 = n at h
  cases h with
  | one => rfl
  | @cons p m L h2 _ hm _ => exact absurd hn (by have : 2 * 1 ≤ p * m := Nat.mul_le_mul h2 hm; omega)
/-- The least divisor stands first. -/
theorem Pf.head {n q : Nat} {L : List Nat} (h : Pf n L) (h2 : 2 ≤ q) (hz : n % q = 0) (hn : NoDiv n q) : ∃ L', L = q :: L' ∧ Pf (n / q) L' ∧ 0 < n / q ∧ n / q < n := by
  cases h with
  | one => rw [Nat.mod_eq_of_lt (by omega)] at hz; omega
  | cons hp2 hp hm hL =>
    rename_i p m L'
    have e : p = q := by
      rcases Nat.lt_trichotomy p q with h | h | h
      · exact absurd (Nat.mul_mod_right p m) (hn p hp2 h)
      · exact h
      · exact absurd hz (hp q h2 h)
    subst e
    have hd : p * m / p = m := Nat.mul_div_cancel_left _ (by omega)
    rw [hd]
    refine ⟨L', rfl, hL, hm, ?_⟩
    have : 2 * m ≤ p * m := Nat.mul_le_mul_right _ h2
    omega
theorem nodiv_div {n q m : Nat} (hz : n % q = 0) (h : NoDiv n m) : NoDiv (n / q) m := by
  intro j a b hj
  refine h j a b (Nat.mod_eq_zero_of_dvd ?_)
  obtain ⟨k, hk⟩ := Nat.dvd_of_mod_eq_zero hz
  by_cases hq : q = 0
  · subst hq; simp at hk; subst hk; exact Nat.dvd_zero _
  · have : n / q = k := by rw [hk]; exact Nat.mul_div_cancel_left _ (by omega)
    rw [this] at hj
    exact Nat.dvd_trans (Nat.dvd_of_mod_eq_zero hj) (hk ▸ Nat.dvd_mul_left _ _)
theorem nodiv_succ {n q : Nat} (h : NoDiv n q) (hz : n % q ≠ 0) : NoDiv n (q + 1) := by
  intro j a b hj
  by_cases e : j = q
  · subst e; exact hz hj
  · exact h j a (by omega) hj
/-- The product of a character over primes. -/
def chp (c : Nat → Int) : List Nat → Int
  | [] => 1
  | p :: L => c p * chp c L
/-- Nodes of a number: primes and their times. -/
def unf : List (Nat × Nat) → List Nat
  | [] => []
  | (p, t) :: L => List.replicate t p ++ unf L
theorem chp_rep (c : Nat → Int) (p t : Nat) (L : List Nat) : chp c (List.replicate t p ++ L) = c p ^ t * chp c L := by
  induction t with
  | zero => simp
  | succ t ih => rw [List.replicate_succ, List.cons_append, chp, ih, Int.pow_succ]; grind
def chn (c : Nat → Int) : List (Nat × Nat) → Int
  | [] => 1
  | (p, t) :: L => c p ^ t * chn c L
theorem chn_unf (c : Nat → Int) (L : List (Nat × Nat)) : chn c L = chp c (unf L) := by
  induction L with
  | nil => rfl
  | cons x L ih => obtain ⟨p, t⟩ := x; rw [unf, chp_rep, chn, ih]
def Sgn (x : Int) : Prop := x = -1 ∨ x = 0 ∨ x = 1
theorem sgn_mul {x y : Int} (h : Sgn x) (h' : Sgn y) : Sgn (x * y) := by
  rcases h with rfl | rfl | rfl <;> rcases h' with rfl | rfl | rfl <;> simp [Sgn]
theorem sgn_pow {x : Int} (h : Sgn x) (t : Nat) (ht : 1 ≤ t) : x ^ t = if t % 2 = 0 then x * x else x := by
  have : ∀ k : Nat, x ^ (2 * k + 1) = x ∧ x ^ (2 * k + 2) = x * x := by
    intro k
    induction k with
    | zero => exact ⟨Int.pow_one x, by simp [Int.pow_succ]⟩
    | succ k ih =>
      have e1 : x ^ (2 * (k + 1) + 1) = x := by
        rw [show 2 * (k + 1) + 1 = (2 * k + 1) + 1 + 1 by omega, Int.pow_succ, Int.pow_succ, ih.1]
        rcases h with rfl | rfl | rfl <;> rfl
      refine ⟨e1, ?_⟩
      rw [show 2 * (k + 1) + 2 = (2 * (k + 1) + 1) + 1 by omega, Int.pow_succ, e1]
  by_cases h0 : t % 2 = 0
  · rw [if_pos h0]
    obtain ⟨k, rfl⟩ : ∃ k, t = 2 * k + 2 := ⟨t / 2 - 1, by omega⟩
    exact (this k).2
  · rw [if_neg h0]
    obtain ⟨k, rfl⟩ : ∃ k, t = 2 * k + 1 := ⟨t / 2, by omega⟩
    exact (this k).1
/-- powers modulo m, by squares -/
theorem pow_round {m pw sq b : Int} {e e0 : Nat} (h : (pw * sq ^ e) % m = b ^ e0 % m) : ((if e % 2 = 1 then pw * sq % m else pw) * (sq * sq % m) ^ (e / 2)) % m = b ^ e0 % m := by
  rw [← h]
  have e1 : ∀ k : Nat, ((sq * sq % m) ^ k) % m = (sq * sq) ^ k % m := by
    intro k
    induction k with
    | zero => simp
    | succ k ih => rw [Int.pow_succ, Int.pow_succ, Int.mul_emod, ih, Int.emod_emod, ← Int.mul_emod]
  have e2 : (sq * sq) ^ (e / 2) = sq ^ (2 * (e / 2)) := by rw [Int.pow_mul]; congr 1; simp [Int.pow_succ]
  by_cases ho : e % 2 = 1
  · rw [if_pos ho, Int.mul_emod, e1, Int.emod_emod, ← Int.mul_emod, e2]
    have : e = 2 * (e / 2) + 1 := by omega
    conv => rhs; rw [this, Int.pow_succ]
    congr 1; grind
  · rw [if_neg ho, Int.mul_emod, e1, ← Int.mul_emod, e2]
    have : 2 * (e / 2) = e := by omega
    rw [this]


end Go.Proofs.YtdogkkmdccieiaaDoor

/- Chapter 5: primes, the program's and the model's. -/
namespace Go.Proofs.YtdogkkmdccieiaaDoor
open Go.RowKit

/-- The least divisor of n. -/
def LdPost (n : Int) (w : World) (e : Ending) (w' : World) : Prop := ∃ d : Nat, e = .returned (.int .i64 ((d : Int))) ∧ (2 ≤ d ∧ (d : Int) ≤ n ∧ n.toNat % d = 0 ∧ NoDiv n.toNat d) ∧ w = w'
theorem nodiv_int {n : Nat} {k : Nat} (h : NoDiv n k) (j : Nat) (a : 2 ≤ j) (b : j < k) : (n : Int) % (j : Int) ≠ 0 := fun e => h j a b (by exact_mod_cast e)
theorem sqn_lt {k : Nat} {n : Int} (h : (k : Int) * k ≤ n) (h6 : n ≤ 1000000) : k ≤ 1000 := by
  by_cases hk : k ≤ 1000
  · exact hk
  · have : (1001 : Int) * 1001 ≤ (k : Int) * k := Int.mul_le_mul (by omega) (by omega) (by omega) (by omega)
    omega
theorem sqn_bd {k : Nat} (h : k ≤ 1001) : (0 : Int) ≤ (k : Int) * k ∧ (k : Int) * k ≤ 1002001 := by
  have h1 : (k : Int) * k ≤ 1001 * 1001 := Int.mul_le_mul (by omega) (by omega) (by omega) (by omega)
  have h0 : (0 : Int) ≤ (k : Int) * k := Int.mul_nonneg (by omega) (by omega)
  omega

set_option maxHeartbeats 400000 in
theorem leastDivisor_any (n : Int) (w : World) (h2 : 2 ≤ n) (h6 : n ≤ 1000000) : Calls Tryd.prog 116 #[.int .i64 n] w (LdPost n w) := by
  obtain ⟨N, rfl⟩ : ∃ N : Nat, n = N := ⟨n.toNat, by omega⟩
  go_enter Tryd.func116, Tryd.ntmps116
  go_wp2
  go_loop [3] (fun s => ∃ k : Nat, 2 ≤ k ∧ k ≤ 1001 ∧ k ≤ N ∧ s = .int .i64 ((k : Int)) ∧ NoDiv N k) (fun s => (1001 - intOf s).toNat)
  case atStart => exact ⟨2, by omega, by omega, by omega, rfl, by intro j h1 h2; omega⟩
  case round =>
    obtain ⟨k, hk2, hkn, hkN, rfl, H⟩ := hrel
    obtain ⟨hs0, hs1⟩ := sqn_bd hkn
    by_cases hle : (k : Int) * k ≤ (N : Int)
    · have h9 := sqn_lt hle h6
      by_cases hz : (N : Int) % (k : Int) = 0
      · have hz' : ((N : Int) % (k : Int) == 0) = true := by simpa using hz
        have HZ := hid hz
        clear hz
        go_wp2
        go_ret
        exact ⟨k, rfl, ⟨hk2, by omega, by have := HZ.out; simp only [Int.toNat_natCast]; exact_mod_cast this, H⟩, rfl⟩
      · have hz' : ((N : Int) % (k : Int) == 0) = false := by simpa using hz
        have HN : NoDiv N (k + 1) := nodiv_succ H fun e => hz (by exact_mod_cast e)
        have hlt : k + 1 ≤ N := by
          have := sq_lt hk2 hle
          omega
        clear hz H
        go_wp2
        go_round
        case rel => exact ⟨k + 1, by omega, by omega, by omega, by go_num, HN⟩
        case measure => simp [intOf]; omega
    · have HN : NoDiv N N := nodiv_whole (by omega) H (by
        have : (N : Int) < (k : Int) * k := by omega
        exact_mod_cast this)
      clear H
      go_wp2
      go_ret
      exact ⟨N, rfl, ⟨by omega, by omega, by simp, HN⟩, rfl⟩

theorem ldp {p : Int} {d : Nat} (h2 : 2 ≤ p) (h97 : p ≤ 97) (h : 2 ≤ d ∧ (d : Int) ≤ p ∧ p.toNat % d = 0 ∧ NoDiv p.toNat d) : (d : Int) = p ↔ prm p = true := by
  obtain ⟨P, rfl⟩ : ∃ P : Nat, p = P := ⟨p.toNat, by omega⟩
  obtain ⟨a, b, c, e⟩ := h
  simp only [Int.toNat_natCast] at c e
  constructor
  · intro hd
    have hd' : d = P := by omega
    subst hd'
    exact prm_mk h2 h97 fun j h1 h3 => nodiv_int e j h1 (by omega)
  · intro hp
    by_cases hd : (d : Int) = (P : Int)
    · exact hd
    · exact absurd (show (P : Int) % (d : Int) = 0 by exact_mod_cast c) (prm_div hp d a (by omega))

set_option maxHeartbeats 400000 in
theorem isPrime_any (p : Int) (w : World) : Calls Tryd.prog 110 #[.int .i64 p] w fun e w' => e = .returned (.bool (prm p)) ∧ w = w' := by
  by_cases h2 : 2 ≤ p
  · by_cases h97 : p ≤ 97
    · go_enter Tryd.func110, Tryd.ntmps110
      go_wp2_with (go_at_call 116; refine (leastDivisor_any p _ h2 (by omega)).mono ?_; rintro e w' ⟨d, rfl, hd, rfl⟩)
      go_ret
      exact ⟨ret_bool (by rw [Bool.eq_iff_iff, ← ldp h2 h97 hd]; simp), rfl⟩
    · have hp := prm_out (p := p) (by omega)
      have HP := hid hp
      clear hp
      go_enter Tryd.func110, Tryd.ntmps110
      go_wp2_with fail
      go_ret
      exact ⟨ret_bool HP.out.symm, rfl⟩
  · have hp := prm_out (p := p) (by omega)
    have HP := hid hp
    clear hp
    go_enter Tryd.func110, Tryd.ntmps110
    go_wp2_with fail
    go_ret
    exact ⟨ret_bool HP.out.symm, rfl⟩




end Go.Proofs.YtdogkkmdccieiaaDoor
