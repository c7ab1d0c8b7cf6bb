/- Chapter 9: characters at primes and at their powers, the program's and the model's. -/
import Derived.Test.YtmhlolimaeejfaaDoorZ6
import Derived.Test.YtmhlolimaeejfaaDoorZ3
import Derived.BigQuiet
import Derived.Deep.QuietTactic
import Derived.Laws.EntriesVeiled
namespace Go.Proofs.YtmhlolimaeejfaaDoor
open Go.RowKit

/-- The rest of a power. -/
def pwm (b : Int) (e : Nat) (m : Int) : Int := b ^ e % m
structure Pw (b m : Int) (e0 : Nat) (pw sq : Int) (e : Nat) : Prop where
  pb : 0 ≤ pw ∧ pw < m
  sb : 0 ≤ sq ∧ sq < m
  le : e ≤ e0
  eq : (pw * sq ^ e) % m = b ^ e0 % m
theorem Pw.start {b m : Int} {e0 : Nat} (hm : 2 ≤ m) : Pw b m e0 1 (b % m) e0 := by
  refine ⟨by omega, ⟨Int.emod_nonneg _ (by omega), Int.emod_lt_of_pos _ (by omega)⟩, Nat.le_refl _, ?_⟩
  rw [Int.one_mul]
  induction e0 with
  | zero => simp
  | succ k ih => rw [Int.pow_succ, Int.pow_succ, Int.mul_emod, ih, Int.emod_emod, ← Int.mul_emod]
theorem Pw.odd {b m pw sq : Int} {e0 e : Nat} (h : Pw b m e0 pw sq e) (hm : 2 ≤ m) (ho : e % 2 = 1) : Pw b m e0 (pw * sq % m) (sq * sq % m) (e / 2) := by
  refine ⟨⟨Int.emod_nonneg _ (by omega), Int.emod_lt_of_pos _ (by omega)⟩, ⟨Int.emod_nonneg _ (by omega), Int.emod_lt_of_pos _ (by omega)⟩, by have := h.le; omega, ?_⟩
  have := pow_round h.eq
  rwa [if_pos ho] at this
theorem Pw.even {b m pw sq : Int} {e0 e : Nat} (h : Pw b m e0 pw sq e) (hm : 2 ≤ m) (ho : ¬ e % 2 = 1) : Pw b m e0 pw (sq * sq % m) (e / 2) := by
  refine ⟨h.pb, ⟨Int.emod_nonneg _ (by omega), Int.emod_lt_of_pos _ (by omega)⟩, by have := h.le; omega, ?_⟩
  have := pow_round h.eq
  rwa [if_neg ho] at this
theorem Pw.fin {b m pw sq : Int} {e0 : Nat} (h : Pw b m e0 pw sq 0) : pw = pwm b e0 m := by
  have := h.eq
  rw [Int.pow_zero, Int.mul_one, Int.emod_eq_of_lt h.pb.1 h.pb.2] at this
  exact this
theorem prod_bd {x y m : Int} (hx : 0 ≤ x ∧ x < m) (hy : 0 ≤ y ∧ y < m) (hm : m ≤ 1000000) : 0 ≤ x * y ∧ x * y ≤ 1000000000000 :=
  ⟨Int.mul_nonneg hx.1 hy.1, (Int.mul_le_mul (by omega) (by omega) hy.1 (by omega) : x * y ≤ 1000000 * 1000000)⟩

set_option maxHeartbeats 400000 in
theorem pmc_any (x y m : Int) (b : Nat) (w : World) (hb : w.cell? ⟨b, 0, none⟩ = some (.int .i64 m)) (h1 : 2 ≤ m) (hp : 0 ≤ x * y ∧ x * y ≤ 1000000000000) : Calls Tryd.prog 82 #[.int .i64 x, .int .i64 y, .pointer (some ⟨b, 0, none⟩)] w fun e w' => e = .returned (.int .i64 (x * y % m)) ∧ w = w' := by
  obtain ⟨q0, q1⟩ := hp
  generalize hz : x * y = z at q0 q1 ⊢
  have i1 : IntKind.i64.wrap (x * y) = z := by rw [IntWalk.i64_left, hz]; exact wr_in (by omega)
  have i2 : wrap64 (x * y) = z := by rw [hz]; exact wr_in (by omega)
  have hm : ¬ m = 0 := by omega
  clear hz
  go_enter Tryd.func82, Tryd.ntmps82
  go_wp2
  go_ret
  exact ⟨by first | rfl | (congr 2; exact Int.tmod_eq_emod_of_nonneg q0) | (exact ret_int (Int.tmod_eq_emod_of_nonneg q0)), rfl⟩

set_option maxHeartbeats 400000 in
theorem powerOfI_any (b0 m : Int) (bx e0 : Nat) (w : World) (hb : w.cell? ⟨bx, 0, none⟩ = some (.int .i64 m)) (hS : Pw b0 m e0 1 (b0 % m) e0) (h1 : 2 ≤ m) (h2 : m ≤ 1000000) (he : e0 ≤ 1000000) :
    Calls Tryd.prog 81 #[.int .i64 (b0 % m), .int .i64 ((e0 : Int)), .int .i64 1, .func (.func 82) #[] #[.pointer (some ⟨bx, 0, none⟩)]] w fun e w' => e = .returned (.int .i64 (pwm b0 e0 m)) ∧ w = w' := by
  have HB := hid (fun (x y : Int) (hp : 0 ≤ x * y ∧ x * y ≤ 1000000000000) => pmc_any x y m bx w hb h1 hp)
  have HS := hid hS
  clear hS hb
  go_enter Tryd.func81, Tryd.ntmps81
  go_wp2_with fail
  go_loop [9, 10, 1] (fun s t u => ∃ (pw sq : Int) (k : Nat), s = .int .i64 pw ∧ t = .int .i64 sq ∧ u = .int .i64 ((k : Int)) ∧ Pw b0 m e0 pw sq k) (fun _ _ u => (intOf u).toNat)
  case atStart => exact ⟨1, b0 % m, e0, rfl, rfl, rfl, HS.out⟩
  case round =>
    obtain ⟨pw, sq, k, rfl, rfl, rfl, H⟩ := hrel
    have HQ := hid (prod_bd H.pb H.sb h2)
    have HR := hid (prod_bd H.sb H.sb h2)
    have hle := H.le
    by_cases hk : 0 < k
    · by_cases ho : k % 2 = 1
      · have HT := hid (H.odd h1 ho)
        have ho' : (((k : Int) % 2) == 1) = true := by simp; omega
        clear H ho
        go_wp2_with fail
        refine (HB.out pw sq HQ.out).mono ?_
        rintro e w1 ⟨rfl, rfl⟩
        go_wp2_with fail
        refine (HB.out sq sq HR.out).mono ?_
        rintro e w1 ⟨rfl, rfl⟩
        go_wp2_with fail
        go_round
        case rel => exact ⟨pw * sq % m, sq * sq % m, k / 2, by go_num, by go_num, by go_num, HT.out⟩
        case measure => simp [intOf]; omega
      · have HT := hid (H.even h1 ho)
        have ho' : (((k : Int) % 2) == 1) = false := by simp; omega
        clear H ho
        go_wp2_with fail
        refine (HB.out sq sq HR.out).mono ?_
        rintro e w1 ⟨rfl, rfl⟩
        go_wp2_with fail
        go_round
        case rel => exact ⟨pw, sq * sq % m, k / 2, by go_num, by go_num, by go_num, HT.out⟩
        case measure => simp [intOf]; omega
    · have : k = 0 := by omega
      subst this
      have HF := hid H.fin
      clear H
      go_wp2
      go_ret
      exact ⟨ret_int HF.out, rfl⟩

set_option maxHeartbeats 400000 in
theorem powerModulo_any (b m : Int) (e0 : Nat) (w : World) (h1 : 2 ≤ m) (h2 : m ≤ 1000000) (he : e0 ≤ 1000000) : Calls Tryd.prog 80 #[.int .i64 b, .int .i64 ((e0 : Int)), .int .i64 m] w fun e w' => e = .returned (.int .i64 (pwm b e0 m)) ∧ Below w.heap.size w w' := by
  have hS := @Pw.start b m e0 h1
  have hc : (w.alloc (.cells #[.int .i64 m] 2)).cell? ⟨w.heap.size, 0, none⟩ = some (.int .i64 m) := by simp [go_sem]
  have HP := hid (powerOfI_any b m w.heap.size e0 (w.alloc (.cells #[.int .i64 m] 2)) hc hS h1 h2 he)
  go_enter Tryd.func80, Tryd.ntmps80
  go_wp2_with fail
  refine (restBy_any b m _ (by omega) (by omega)).mono ?_
  rintro e w1 ⟨rfl, rfl⟩
  go_wp2_with fail
  refine HP.out.mono ?_
  rintro e w1 ⟨rfl, rfl⟩
  go_wp2
  go_ret
  exact ⟨rfl, gr_alloc (Below.refl _ _) _⟩

/-- The character of d at a prime q. -/
def chq (d : Int) (q : Nat) : Int := if d % (q : Int) = 0 then 0 else if (if q = 2 then d % 8 = 1 else pwm d ((q - 1) / 2) q = 1) then 1 else -1
theorem chq_0 {d : Int} {q : Nat} (h : d % (q : Int) = 0) : chq d q = 0 := by simp [chq, h]
theorem chq_2p {d : Int} {q : Nat} (h : ¬ d % (q : Int) = 0) (hq : q = 2) (h' : d % 8 = 1) : chq d q = 1 := by rw [chq, if_neg h, if_pos]; simpa [hq] using h'
theorem chq_2m {d : Int} {q : Nat} (h : ¬ d % (q : Int) = 0) (hq : q = 2) (h' : ¬ d % 8 = 1) : chq d q = -1 := by rw [chq, if_neg h, if_neg]; simpa [hq] using h'
theorem chq_p {d : Int} {q : Nat} (h : ¬ d % (q : Int) = 0) (hq : ¬ q = 2) (h' : pwm d ((q - 1) / 2) q = 1) : chq d q = 1 := by rw [chq, if_neg h, if_pos]; simp [hq, h']
theorem chq_m {d : Int} {q : Nat} (h : ¬ d % (q : Int) = 0) (hq : ¬ q = 2) (h' : ¬ pwm d ((q - 1) / 2) q = 1) : chq d q = -1 := by rw [chq, if_neg h, if_neg]; simp [hq, h']
theorem sgn_ite (p : Prop) [Decidable p] : Sgn (if p then (1 : Int) else -1) := by
  by_cases h : p
  · rw [if_pos h]; exact .inr (.inr rfl)
  · rw [if_neg h]; exact .inl rfl
theorem chq_sgn (d : Int) (q : Nat) : Sgn (chq d q) := by
  unfold chq
  by_cases h : d % (q : Int) = 0
  · rw [if_pos h]; exact .inr (.inl rfl)
  · rw [if_neg h]; exact sgn_ite _

set_option maxHeartbeats 400000 in
theorem iChP_any (d : Int) (q : Nat) (w : World) (h1 : 2 ≤ q) (h2 : q ≤ 1000000) : Calls Tryd.prog 75 #[.int .i64 d, .int .i64 ((q : Int))] w fun e w' => e = .returned (.int .i64 (chq d q)) ∧ Below w.heap.size w w' := by
  by_cases hz : d % (q : Int) = 0
  · have HZ := hid (chq_0 hz)
    have hm : mul0 d q = true := by rw [mul0_e (by omega)]; simpa using hz
    clear hz
    go_enter Tryd.func75, Tryd.ntmps75
    go_wp2_with fail
    refine (isMultiple_any d q _ (by omega) (by omega)).mono ?_
    rintro e w1 ⟨rfl, rfl⟩
    go_wp2
    go_ret
    exact ⟨ret_int HZ.out.symm, by (repeat' (first | with_reducible exact Below.refl _ _ | with_reducible assumption | with_reducible refine gr_alloc ?_ _ | with_reducible refine gr_drew ?_ | with_reducible refine gr_drewN ?_ _ | with_reducible refine gr_trans ?_ (by assumption) | with_reducible refine gr_set ?_ ?_ _ | (simp; done) | omega | (simp; omega)))⟩
  · have hm : mul0 d q = false := by rw [mul0_e (by omega)]; simpa using hz
    by_cases hq : q = 2
    · have hq' : ((q : Int) == 2) = true := by simp; omega
      by_cases h8 : d % 8 = 1
      · have HZ := hid (chq_2p hz hq h8)
        have h8' : (d % 8 == 1) = true := by simpa using h8
        clear hz h8 hq
        go_enter Tryd.func75, Tryd.ntmps75
        go_wp2_with fail
        refine (isMultiple_any d _ _ (by omega) (by omega)).mono ?_
        rintro e w1 ⟨rfl, rfl⟩
        go_wp2_with fail
        refine (restBy_any d 8 _ (by omega) (by omega)).mono ?_
        rintro e w1 ⟨rfl, rfl⟩
        go_wp2
        go_ret
        exact ⟨ret_int HZ.out.symm, by (repeat' (first | with_reducible exact Below.refl _ _ | with_reducible assumption | with_reducible refine gr_alloc ?_ _ | with_reducible refine gr_drew ?_ | with_reducible refine gr_drewN ?_ _ | with_reducible refine gr_trans ?_ (by assumption) | with_reducible refine gr_set ?_ ?_ _ | (simp; done) | omega | (simp; omega)))⟩
      · have HZ := hid (chq_2m hz hq h8)
        have h8' : (d % 8 == 1) = false := by simpa using h8
        clear hz h8 hq
        go_enter Tryd.func75, Tryd.ntmps75
        go_wp2_with fail
        refine (isMultiple_any d _ _ (by omega) (by omega)).mono ?_
        rintro e w1 ⟨rfl, rfl⟩
        go_wp2_with fail
        refine (restBy_any d 8 _ (by omega) (by omega)).mono ?_
        rintro e w1 ⟨rfl, rfl⟩
        go_wp2
        go_ret
        exact ⟨ret_int HZ.out.symm, by (repeat' (first | with_reducible exact Below.refl _ _ | with_reducible assumption | with_reducible refine gr_alloc ?_ _ | with_reducible refine gr_drew ?_ | with_reducible refine gr_drewN ?_ _ | with_reducible refine gr_trans ?_ (by assumption) | with_reducible refine gr_set ?_ ?_ _ | (simp; done) | omega | (simp; omega)))⟩
    · have hq' : ((q : Int) == 2) = false := by simp; omega
      have hh : ((q : Int) - 1) / 2 = (((q - 1) / 2 : Nat) : Int) := by omega
      have HH := hid hh
      clear hh
      have HP := hid (fun W => powerModulo_any d q ((q - 1) / 2) W (by omega) (by omega) (by omega))
      by_cases h8 : pwm d ((q - 1) / 2) q = 1
      · have HZ := hid (chq_p hz hq h8)
        have h8' : (pwm d ((q - 1) / 2) q == 1) = true := by simpa using h8
        clear hz h8 hq
        generalize (q - 1) / 2 = k at HP HH h8'
        go_enter Tryd.func75, Tryd.ntmps75
        go_wp2_with fail
        refine (isMultiple_any d _ _ (by omega) (by omega)).mono ?_
        rintro e w1 ⟨rfl, rfl⟩
        go_wp2_with fail
        rw [HH.out]
        refine (HP.out _).mono ?_
        rintro e w1 ⟨rfl, hb1⟩
        go_wp2
        go_ret
        exact ⟨ret_int HZ.out.symm, by (repeat' (first | with_reducible exact Below.refl _ _ | with_reducible assumption | with_reducible refine gr_alloc ?_ _ | with_reducible refine gr_drew ?_ | with_reducible refine gr_drewN ?_ _ | with_reducible refine gr_trans ?_ (by assumption) | with_reducible refine gr_set ?_ ?_ _ | (simp; done) | omega | (simp; omega)))⟩
      · have HZ := hid (chq_m hz hq h8)
        have h8' : (pwm d ((q - 1) / 2) q == 1) = false := by simpa using h8
        clear hz h8 hq
        generalize (q - 1) / 2 = k at HP HH h8'
        go_enter Tryd.func75, Tryd.ntmps75
        go_wp2_with fail
        refine (isMultiple_any d _ _ (by omega) (by omega)).mono ?_
        rintro e w1 ⟨rfl, rfl⟩
        go_wp2_with fail
        rw [HH.out]
        refine (HP.out _).mono ?_
        rintro e w1 ⟨rfl, hb1⟩
        go_wp2
        go_ret
        exact ⟨ret_int HZ.out.symm, by (repeat' (first | with_reducible exact Below.refl _ _ | with_reducible assumption | with_reducible refine gr_alloc ?_ _ | with_reducible refine gr_drew ?_ | with_reducible refine gr_drewN ?_ _ | with_reducible refine gr_trans ?_ (by assumption) | with_reducible refine gr_set ?_ ?_ _ | (simp; done) | omega | (simp; omega)))⟩

theorem sgn_bd {x : Int} (h : Sgn x) : -1 ≤ x ∧ x ≤ 1 := by rcases h with rfl | rfl | rfl <;> omega
theorem sgn_sq {x : Int} (h : Sgn x) : 0 ≤ x * x ∧ x * x ≤ 1 := by rcases h with rfl | rfl | rfl <;> omega

set_option maxHeartbeats 400000 in
theorem iChW_any (d : Int) (q t : Nat) (w : World) (h1 : 2 ≤ q) (h2 : q ≤ 1000000) (h3 : 1 ≤ t) (h4 : t ≤ 1000000) : Calls Tryd.prog 60 #[.int .i64 d, .int .i64 ((q : Int)), .int .i64 ((t : Int))] w fun e w' => e = .returned (.int .i64 (chq d q ^ t)) ∧ Below w.heap.size w w' := by
  have hs := chq_sgn d q
  have HP := hid (sgn_pow hs t h3)
  have HC := hid (fun W => iChP_any d q W h1 h2)
  generalize chq d q = c at hs HP HC ⊢
  obtain ⟨b1, b2⟩ := sgn_bd hs
  obtain ⟨b3, b4⟩ := sgn_sq hs
  generalize hp : c ^ t = p at HP ⊢
  clear hp hs
  by_cases ht : t % 2 = 0
  · have HE : Hid (p = c * c) := hid (by have := HP.out; rwa [if_pos ht] at this)
    have ht' : (((t : Int) % 2) == 0) = true := by simp; omega
    clear ht
    go_enter Tryd.func60, Tryd.ntmps60
    go_wp2_with fail
    refine (HC.out _).mono ?_
    rintro e w1 ⟨rfl, hb1⟩
    go_wp2
    go_ret
    exact ⟨ret_int HE.out.symm, by (repeat' (first | with_reducible exact Below.refl _ _ | with_reducible assumption | with_reducible refine gr_alloc ?_ _ | with_reducible refine gr_drew ?_ | with_reducible refine gr_drewN ?_ _ | with_reducible refine gr_trans ?_ (by assumption) | with_reducible refine gr_set ?_ ?_ _ | (simp; done) | omega | (simp; omega)))⟩
  · have HE : Hid (p = c) := hid (by have := HP.out; rwa [if_neg ht] at this)
    have ht' : (((t : Int) % 2) == 0) = false := by simp; omega
    clear ht
    go_enter Tryd.func60, Tryd.ntmps60
    go_wp2_with fail
    refine (HC.out _).mono ?_
    rintro e w1 ⟨rfl, hb1⟩
    go_wp2
    go_ret
    exact ⟨ret_int HE.out.symm, by (repeat' (first | with_reducible exact Below.refl _ _ | with_reducible assumption | with_reducible refine gr_alloc ?_ _ | with_reducible refine gr_drew ?_ | with_reducible refine gr_drewN ?_ _ | with_reducible refine gr_trans ?_ (by assumption) | with_reducible refine gr_set ?_ ?_ _ | (simp; done) | omega | (simp; omega)))⟩


end Go.Proofs.YtmhlolimaeejfaaDoor
