/- Chapter 9: characters at primes and at their powers, the program's and the model's. -/
import Derived.Test.YtihcmgjfkiaelaaDoorZ6
import Derived.BigQuiet
import Derived.Deep.QuietTactic
namespace Go.Proofs.YtihcmgjfkiaelaaDoor
open Go.RowKit

theorem tmod_in (n m : Int) (h : 1 ≤ m) : -m < n.tmod m ∧ n.tmod m < m := by
  have := Int.natAbs_tmod n m
  have hb : n.natAbs % m.natAbs < m.natAbs := Nat.mod_lt _ (by omega)
  omega
theorem rest_eq (n m : Int) (h : 1 ≤ m) : (n.tmod m + m) % m = n % m := by
  rw [Int.add_emod_right, Int.tmod_eq_emod]
  split
  · simp
  · have e : n % m - ↑m.natAbs = n % m - m := by omega
    rw [e, Int.sub_emod_right, Int.emod_emod]
theorem rest_eq' (n m : Int) (h : 1 ≤ m) : (n.tmod m + m).tmod m = n % m := by
  rw [Int.tmod_eq_emod_of_nonneg (by have := tmod_in n m h; omega)]
  exact rest_eq n m h
theorem mul0_e {n m : Int} (h : 1 ≤ m) : mul0 n m = decide (n % m = 0) := by
  unfold mul0; rw [if_neg (by omega), Bool.eq_iff_iff]
  simp only [decide_eq_true_eq]
  exact ⟨fun e => Int.emod_eq_zero_of_dvd (Int.dvd_of_tmod_eq_zero e), fun e => Int.tmod_eq_zero_of_dvd (Int.dvd_of_emod_eq_zero e)⟩

set_option maxHeartbeats 400000 in
theorem restBy_any (n m : Int) (w : World) (h1 : 1 ≤ m) (h2 : m ≤ 1000000) : Calls Tryd.prog 98 #[.int .i64 n, .int .i64 m] w fun e w' => e = .returned (.int .i64 (n % m)) ∧ w = w' := by
  obtain ⟨t1, t2⟩ := tmod_in n m h1
  have HE := hid (rest_eq n m h1)
  have HE' := hid (rest_eq' n m h1)
  have h0 : 0 ≤ n.tmod m + m := by omega
  go_enter Tryd.func98, Tryd.ntmps98
  go_wp2
  go_ret
  exact ⟨ret_int (by first | exact HE.out | exact HE'.out), rfl⟩

/-- The rest of a power. -/
def pwm (b : Int) (e : Nat) (m : Int) : Int := b ^ e % m
structure Pw (b m : Int) (e0 : Nat) (pw sq : Int) (e : Nat) : Prop where
  pb : 0 ≤ pw ∧ pw < m
  sb : 0 ≤ sq ∧ sq < m
  le : e ≤ e0
  eq : (pw * sq ^ e) % m = b ^ e0 % m
theorem Pw.start {b m : Int} {e0 : Nat} (hm : 2 ≤ m) : Pw b m e0 1 (b % m) e0 := by
  refine ⟨by omega, ⟨Int.emod_nonneg _ (by omega), Int.emod_lt_of_pos _ (by omega)⟩, Nat.le_refl _, ?_⟩
  rw [Int.one_mul]
  induction e0 with
  | zero => simp
  | succ k ih => rw [Int.pow_succ, Int.pow_succ, Int.mul_emod, ih, Int.emod_emod, ← Int.mul_emod]
theorem Pw.odd {b m pw sq : Int} {e0 e : Nat} (h : Pw b m e0 pw sq e) (hm : 2 ≤ m) (ho : e % 2 = 1) : Pw b m e0 (pw * sq % m) (sq * sq % m) (e / 2) := by
  refine ⟨⟨Int.emod_nonneg _ (by omega), Int.emod_lt_of_pos _ (by omega)⟩, ⟨Int.emod_nonneg _ (by omega), Int.emod_lt_of_pos _ (by omega)⟩, by have := h.le; omega, ?_⟩
  have := pow_round h.eq
  rwa [if_pos ho] at this
theorem Pw.even {b m pw sq : Int} {e0 e : Nat} (h : Pw b m e0 pw sq e) (hm : 2 ≤ m) (ho : ¬ e % 2 = 1) : Pw b m e0 pw (sq * sq % m) (e / 2) := by
  refine ⟨h.pb, ⟨Int.emod_nonneg _ (by omega), Int.emod_lt_of_pos _ (by omega)⟩, by have := h.le; omega, ?_⟩
  have := pow_round h.eq
  rwa [if_neg ho] at this
theorem Pw.fin {b m pw sq : Int} {e0 : Nat} (h : Pw b m e0 pw sq 0) : pw = pwm b e0 m := by
  have := h.eq
  rw [Int.pow_zero, Int.mul_one, Int.emod_eq_of_lt h.pb.1 h.pb.2] at this
  exact this
theorem prod_bd {x y m : Int} (hx : 0 ≤ x ∧ x < m) (hy : 0 ≤ y ∧ y < m) (hm : m ≤ 1000000) : 0 ≤ x * y ∧ x * y ≤ 1000000000000 :=
  ⟨Int.mul_nonneg hx.1 hy.1, (Int.mul_le_mul (by omega) (by omega) hy.1 (by omega) : x * y ≤ 1000000 * 1000000)⟩

set_option maxHeartbeats 400000 in
theorem powerModulo_any (b m : Int) (e0 : Nat) (w : World) (h1 : 2 ≤ m) (h2 : m ≤ 1000000) (he : e0 ≤ 1000000) : Calls Tryd.prog 116 #[.int .i64 b, .int .i64 ((e0 : Int)), .int .i64 m] w fun e w' => e = .returned (.int .i64 (pwm b e0 m)) ∧ w = w' := by
  have HS := hid (@Pw.start b m e0 h1)
  go_enter Tryd.func116, Tryd.ntmps116
  go_wp2_with fail
  refine (restBy_any b m _ (by omega) h2).mono ?_
  rintro e w1 ⟨rfl, rfl⟩
  go_wp2_with fail
  go_loop [7, 8, 1] (fun s t u => ∃ (pw sq : Int) (k : Nat), s = .int .i64 pw ∧ t = .int .i64 sq ∧ u = .int .i64 ((k : Int)) ∧ Pw b m e0 pw sq k) (fun _ _ u => (intOf u).toNat)
  case atStart => exact ⟨1, b % m, e0, rfl, rfl, rfl, HS.out⟩
  case round =>
    obtain ⟨pw, sq, k, rfl, rfl, rfl, H⟩ := hrel
    obtain ⟨q0, q1⟩ := prod_bd H.pb H.sb h2
    obtain ⟨r0, r1⟩ := prod_bd H.sb H.sb h2
    have hle := H.le
    by_cases hk : 0 < k
    · by_cases ho : k % 2 = 1
      · have HT := hid (H.odd h1 ho)
        have ho' : (((k : Int) % 2) == 1) = true := by simp; omega
        clear H ho
        go_wp2
        go_round
        case rel => exact ⟨pw * sq % m, sq * sq % m, k / 2, by go_num, by go_num, by go_num, HT.out⟩
        case measure => simp [intOf]; omega
      · have HT := hid (H.even h1 ho)
        have ho' : (((k : Int) % 2) == 1) = false := by simp; omega
        clear H ho
        go_wp2
        go_round
        case rel => exact ⟨pw, sq * sq % m, k / 2, by go_num, by go_num, by go_num, HT.out⟩
        case measure => simp [intOf]; omega
    · have : k = 0 := by omega
      subst this
      have HF := hid H.fin
      clear H
      go_wp2
      go_ret
      exact ⟨ret_int HF.out, rfl⟩

/-- The character of d at a prime q. -/
def chq (d : Int) (q : Nat) : Int := if d % (q : Int) = 0 then 0 else if (if q = 2 then d % 8 = 1 else pwm d ((q - 1) / 2) q = 1) then 1 else -1
theorem chq_0 {d : Int} {q : Nat} (h : d % (q : Int) = 0) : chq d q = 0 := by simp [chq, h]
theorem chq_2p {d : Int} {q : Nat} (h : ¬ d % (q : Int) = 0) (hq : q = 2) (h' : d % 8 = 1) : chq d q = 1 := by rw [chq, if_neg h, if_pos]; simpa [hq] using h'
theorem chq_2m {d : Int} {q : Nat} (h : ¬ d % (q : Int) = 0) (hq : q = 2) (h' : ¬ d % 8 = 1) : chq d q = -1 := by rw [chq, if_neg h, if_neg]; simpa [hq] using h'
theorem chq_p {d : Int} {q : Nat} (h : ¬ d % (q : Int) = 0) (hq : ¬ q = 2) (h' : pwm d ((q - 1) / 2) q = 1) : chq d q = 1 := by rw [chq, if_neg h, if_pos]; simp [hq, h']
theorem chq_m {d : Int} {q : Nat} (h : ¬ d % (q : Int) = 0) (hq : ¬ q = 2) (h' : ¬ pwm d ((q - 1) / 2) q = 1) : chq d q = -1 := by rw [chq, if_neg h, if_neg]; simp [hq, h']
theorem sgn_ite (p : Prop) [Decidable p] : Sgn (if p then (1 : Int) else -1) := by
  by_cases h : p
  · rw [if_pos h]; exact .inr (.inr rfl)
  · rw [if_neg h]; exact .inl rfl
theorem chq_sgn (d : Int) (q : Nat) : Sgn (chq d q) := by
  unfold chq
  by_cases h : d % (q : Int) = 0
  · rw [if_pos h]; exact .inr (.inl rfl)
  · rw [if_neg h]; exact sgn_ite _

set_option maxHeartbeats 400000 in
theorem iChP_any (d : Int) (q : Nat) (w : World) (h1 : 2 ≤ q) (h2 : q ≤ 1000000) : Calls Tryd.prog 108 #[.int .i64 d, .int .i64 ((q : Int))] w fun e w' => e = .returned (.int .i64 (chq d q)) ∧ w = w' := by
  by_cases hz : d % (q : Int) = 0
  · have HZ := hid (chq_0 hz)
    have hm : mul0 d q = true := by rw [mul0_e (by omega)]; simpa using hz
    clear hz
    go_enter Tryd.func108, Tryd.ntmps108
    go_wp2_with fail
    refine (isMultiple_any d q _ (by omega) (by omega)).mono ?_
    rintro e w1 ⟨rfl, rfl⟩
    go_wp2
    go_ret
    exact ⟨ret_int HZ.out.symm, rfl⟩
  · have hm : mul0 d q = false := by rw [mul0_e (by omega)]; simpa using hz
    by_cases hq : q = 2
    · have hq' : ((q : Int) == 2) = true := by simp; omega
      by_cases h8 : d % 8 = 1
      · have HZ := hid (chq_2p hz hq h8)
        have h8' : (d % 8 == 1) = true := by simpa using h8
        clear hz h8 hq
        go_enter Tryd.func108, Tryd.ntmps108
        go_wp2_with fail
        refine (isMultiple_any d _ _ (by omega) (by omega)).mono ?_
        rintro e w1 ⟨rfl, rfl⟩
        go_wp2_with fail
        refine (restBy_any d 8 _ (by omega) (by omega)).mono ?_
        rintro e w1 ⟨rfl, rfl⟩
        go_wp2
        go_ret
        exact ⟨ret_int HZ.out.symm, rfl⟩
      · have HZ := hid (chq_2m hz hq h8)
        have h8' : (d % 8 == 1) = false := by simpa using h8
        clear hz h8 hq
        go_enter Tryd.func108, Tryd.ntmps108
        go_wp2_with fail
        refine (isMultiple_any d _ _ (by omega) (by omega)).mono ?_
        rintro e w1 ⟨rfl, rfl⟩
        go_wp2_with fail
        refine (restBy_any d 8 _ (by omega) (by omega)).mono ?_
        rintro e w1 ⟨rfl, rfl⟩
        go_wp2
        go_ret
        exact ⟨ret_int HZ.out.symm, rfl⟩
    · have hq' : ((q : Int) == 2) = false := by simp; omega
      have hh : ((q : Int) - 1) / 2 = (((q - 1) / 2 : Nat) : Int) := by omega
      have HH := hid hh
      clear hh
      have HP := hid (fun W => powerModulo_any d q ((q - 1) / 2) W (by omega) (by omega) (by omega))
      by_cases h8 : pwm d ((q - 1) / 2) q = 1
      · have HZ := hid (chq_p hz hq h8)
        have h8' : (pwm d ((q - 1) / 2) q == 1) = true := by simpa using h8
        clear hz h8 hq
        generalize (q - 1) / 2 = k at HP HH h8'
        go_enter Tryd.func108, Tryd.ntmps108
        go_wp2_with fail
        refine (isMultiple_any d _ _ (by omega) (by omega)).mono ?_
        rintro e w1 ⟨rfl, rfl⟩
        go_wp2_with fail
        rw [HH.out]
        refine (HP.out _).mono ?_
        rintro e w1 ⟨rfl, rfl⟩
        go_wp2
        go_ret
        exact ⟨ret_int HZ.out.symm, rfl⟩
      · have HZ := hid (chq_m hz hq h8)
        have h8' : (pwm d ((q - 1) / 2) q == 1) = false := by simpa using h8
        clear hz h8 hq
        generalize (q - 1) / 2 = k at HP HH h8'
        go_enter Tryd.func108, Tryd.ntmps108
        go_wp2_with fail
        refine (isMultiple_any d _ _ (by omega) (by omega)).mono ?_
        rintro e w1 ⟨rfl, rfl⟩
        go_wp2_with fail
        rw [HH.out]
        refine (HP.out _).mono ?_
        rintro e w1 ⟨rfl, rfl⟩
        go_wp2
        go_ret
        exact ⟨ret_int HZ.out.symm, rfl⟩

theorem sgn_bd {x : Int} (h : Sgn x) : -1 ≤ x ∧ x ≤ 1 := by rcases h with rfl | rfl | rfl <;> omega
theorem sgn_sq {x : Int} (h : Sgn x) : 0 ≤ x * x ∧ x * x ≤ 1 := by rcases h with rfl | rfl | rfl <;> omega

set_option maxHeartbeats 400000 in
theorem iChW_any (d : Int) (q t : Nat) (w : World) (h1 : 2 ≤ q) (h2 : q ≤ 1000000) (h3 : 1 ≤ t) (h4 : t ≤ 1000000) : Calls Tryd.prog 90 #[.int .i64 d, .int .i64 ((q : Int)), .int .i64 ((t : Int))] w fun e w' => e = .returned (.int .i64 (chq d q ^ t)) ∧ w = w' := by
  have hs := chq_sgn d q
  have HP := hid (sgn_pow hs t h3)
  have HC := hid (fun W => iChP_any d q W h1 h2)
  generalize chq d q = c at hs HP HC ⊢
  obtain ⟨b1, b2⟩ := sgn_bd hs
  obtain ⟨b3, b4⟩ := sgn_sq hs
  generalize hp : c ^ t = p at HP ⊢
  clear hp hs
  by_cases ht : t % 2 = 0
  · have HE : Hid (p = c * c) := hid (by have := HP.out; rwa [if_pos ht] at this)
    have ht' : (((t : Int) % 2) == 0) = true := by simp; omega
    clear ht
    go_enter Tryd.func90, Tryd.ntmps90
    go_wp2_with fail
    refine (HC.out _).mono ?_
    rintro e w1 ⟨rfl, rfl⟩
    go_wp2
    go_ret
    exact ⟨ret_int HE.out.symm, rfl⟩
  · have HE : Hid (p = c) := hid (by have := HP.out; rwa [if_neg ht] at this)
    have ht' : (((t : Int) % 2) == 0) = false := by simp; omega
    clear ht
    go_enter Tryd.func90, Tryd.ntmps90
    go_wp2_with fail
    refine (HC.out _).mono ?_
    rintro e w1 ⟨rfl, rfl⟩
    go_wp2
    go_ret
    exact ⟨ret_int HE.out.symm, rfl⟩


end Go.Proofs.YtihcmgjfkiaelaaDoor
