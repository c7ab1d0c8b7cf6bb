/- Chapter 9: characters of the model. -/
import Derived.Test.YtmhlolimaeejfaaYc
namespace Go.Proofs.Ytmhlolimaeejfaa
open Go.RowKit

set_option maxRecDepth 100000 in
set_option maxHeartbeats 1000000 in
theorem l09At_any (d : Int) (q : Nat) (w : World) (h1 : 2 ≤ q) (h2 : q ≤ 1000000) : Calls Try.prog 124 #[.int .i64 d, .int .i64 ((q : Int))] w fun e w' => e = .returned (.int .i64 (chq d q)) ∧ Below w.heap.size w w' := by
  obtain ⟨t1, t2⟩ := tmod_in d q (by omega)
  obtain ⟨t3, t4⟩ := tmod_in d 8 (by omega)
  have R8 := hid (rest_eq d 8 (by omega)); have R8' := hid (rest_eq' d 8 (by omega))
  have hm : (d.tmod q == 0) = decide (d % (q : Int) = 0) := by
    have := mul0_e (n := d) (m := q) (by omega)
    rw [mul0_p (by omega)] at this
    rw [beq_dec]; exact this
  by_cases hz : d % (q : Int) = 0
  · have HZ := hid (chq_0 hz)
    have hm' : (d.tmod q == 0) = true := by rw [hm]; simpa using hz
    clear hz hm
    go_enter Try.func124, Try.ntmps124
    go_wp2
    go_ret
    exact ⟨ret_int HZ.out.symm, Below.refl _ _⟩
  · have hm' : (d.tmod q == 0) = false := by rw [hm]; simpa using hz
    clear hm
    by_cases hq : q = 2
    · have hq' : ((q : Int) == 2) = true := by simp; omega
      by_cases h8 : d % 8 = 1
      · have HZ := hid (chq_2p hz hq h8)
        have h8' : ((d.tmod 8 + 8) % 8 == 1) = true := by rw [R8.out]; simpa using h8
        have h8'' : ((d.tmod 8 + 8).tmod 8 == 1) = true := by rw [R8'.out]; simpa using h8
        clear hz h8 hq
        go_enter Try.func124, Try.ntmps124
        go_wp2
        go_ret
        exact ⟨ret_int HZ.out.symm, Below.refl _ _⟩
      · have HZ := hid (chq_2m hz hq h8)
        have h8' : ((d.tmod 8 + 8) % 8 == 1) = false := by rw [R8.out]; simpa using h8
        have h8'' : ((d.tmod 8 + 8).tmod 8 == 1) = false := by rw [R8'.out]; simpa using h8
        clear hz h8 hq
        go_enter Try.func124, Try.ntmps124
        go_wp2
        go_ret
        exact ⟨ret_int HZ.out.symm, Below.refl _ _⟩
    · have hq' : ((q : Int) == 2) = false := by simp; omega
      have hh : ((q : Int) - 1) / 2 = (((q - 1) / 2 : Nat) : Int) := by omega
      have HH := hid hh
      clear hh
      have HRE := hid (rest_eq d q (by omega))
      have he0 : (q - 1) / 2 ≤ 1000000 := by omega
      have HS := hid (@Pw.start d q ((q - 1) / 2) (by omega))
      have HPp := hid (fun h8 : pwm d ((q - 1) / 2) q = 1 => chq_p hz hq h8)
      have HPm := hid (fun h8 : ¬ pwm d ((q - 1) / 2) q = 1 => chq_m hz hq h8)
      generalize chq d q = C at HPp HPm ⊢
      clear hz hq R8 R8' t3 t4
      have hm1 : 2 ≤ (q : Int) := by omega
      have hm2 : (q : Int) ≤ 1000000 := by omega
      generalize (q - 1) / 2 = e0 at he0 HH HS HPp HPm
      generalize (q : Int) = m at t1 t2 hm' hq' HH HRE HS HPp HPm hm1 hm2 ⊢
      clear h1 h2
      go_enter Try.func124, Try.ntmps124
      go_wp2_with fail
      go_quiet (fail)
      go_wp2_with fail
      go_loop [5, 6, 7] (fun s t u => ∃ (pw sq : Int) (k : Nat), s = .int .i64 pw ∧ t = .int .i64 sq ∧ u = .int .i64 ((k : Int)) ∧ Pw d m e0 pw sq k) (fun _ _ u => (intOf u).toNat)
      case atStart =>
        refine ⟨1, d % m, e0, rfl, ?_, ?_, HS.out⟩
        · first | (rw [HRE.out]; done) | (go_light; rw [HRE.out])
        · first | (rw [HH.out]; done) | (go_light; rw [HH.out])
      case round =>
        obtain ⟨pw, sq, k, rfl, rfl, rfl, H⟩ := hrel
        obtain ⟨q0, q1⟩ := prod_bd H.pb H.sb hm2
        obtain ⟨r0, r1⟩ := prod_bd H.sb H.sb hm2
        have hle := H.le
        by_cases hk : 0 < k
        · by_cases ho : k % 2 = 1
          · have HT := hid (H.odd hm1 ho)
            have ho' : (((k : Int) % 2) == 1) = true := by simp; omega
            clear H ho
            go_wp2
            go_round
            case rel => exact ⟨pw * sq % m, sq * sq % m, k / 2, by go_num, by go_num, by go_num, HT.out⟩
            case measure => simp [intOf]; omega
          · have HT := hid (H.even hm1 ho)
            have ho' : (((k : Int) % 2) == 1) = false := by simp; omega
            clear H ho
            go_wp2
            go_round
            case rel => exact ⟨pw, sq * sq % m, k / 2, by go_num, by go_num, by go_num, HT.out⟩
            case measure => simp [intOf]; omega
        · have : k = 0 := by omega
          subst this
          have hF := H.fin
          clear H
          by_cases h8 : pw = 1
          · have HC := hid (HPp.out (hF ▸ h8))
            have h8' : (pw == 1) = true := by simpa using h8
            clear hF h8
            go_wp2
            go_ret
            exact ⟨ret_int HC.out.symm, by (repeat' (first | with_reducible exact Below.refl _ _ | with_reducible assumption | with_reducible refine gr_alloc ?_ _ | with_reducible refine gr_drew ?_ | with_reducible refine gr_drewN ?_ _ | with_reducible refine gr_trans ?_ (by assumption) | with_reducible refine gr_set ?_ ?_ _ | (simp; done) | omega | (simp; omega)))⟩
          · have HC := hid (HPm.out (hF ▸ h8))
            have h8' : (pw == 1) = false := by simpa using h8
            clear hF h8
            go_wp2
            go_ret
            exact ⟨ret_int HC.out.symm, by (repeat' (first | with_reducible exact Below.refl _ _ | with_reducible assumption | with_reducible refine gr_alloc ?_ _ | with_reducible refine gr_drew ?_ | with_reducible refine gr_drewN ?_ _ | with_reducible refine gr_trans ?_ (by assumption) | with_reducible refine gr_set ?_ ?_ _ | (simp; done) | omega | (simp; omega)))⟩

theorem sqr_bd9 {x B : Int} (h0 : 0 ≤ x) (h : x ≤ B) : 0 ≤ x * x ∧ x * x ≤ B * B := ⟨Int.mul_nonneg h0 h0, Int.mul_le_mul h h h0 (by omega)⟩
/-- What is done and what is left of a number. -/
structure Cs (c : Nat → Int) (T : Int) (out : Int) (q m : Nat) (L : List Nat) : Prop where
  pf : Pf m L
  nd : NoDiv m q
  q2 : 2 ≤ q
  sg : Sgn out
  eq : out * chp c L = T
theorem Cs.le {c : Nat → Int} {T out : Int} {q m : Nat} {L : List Nat} (h : Cs c T out q m L) (hm : 2 ≤ m) : q ≤ m := by
  rcases Nat.lt_or_ge m q with h0 | h0
  · exact absurd (Nat.mod_self m) (h.nd m hm h0)
  · exact h0
theorem Cs.jump {c : Nat → Int} {T out : Int} {q m : Nat} {L : List Nat} (h : Cs c T out q m L) (hm : 2 ≤ m) (hlt : (m : Int) < (q : Int) * q) : Cs c T out m m L :=
  ⟨h.pf, nodiv_whole hm h.nd (by exact_mod_cast hlt), hm, h.sg, h.eq⟩
theorem Cs.div {c : Nat → Int} {T out : Int} {q m : Nat} {L : List Nat} (h : Cs c T out q m L) (hc : ∀ p, Sgn (c p)) (hz : m % q = 0) : ∃ L', Cs c T (out * c q) q (m / q) L' ∧ 0 < m / q ∧ m / q < m := by
  obtain ⟨L', rfl, h1, h2, h3⟩ := h.pf.head h.q2 hz h.nd
  refine ⟨L', ⟨h1, nodiv_div hz h.nd, h.q2, sgn_mul h.sg (hc q), ?_⟩, h2, h3⟩
  rw [← h.eq, chp, Int.mul_assoc]
theorem Cs.succ {c : Nat → Int} {T out : Int} {q m : Nat} {L : List Nat} (h : Cs c T out q m L) (hz : m % q ≠ 0) : Cs c T out (q + 1) m L :=
  ⟨h.pf, nodiv_succ h.nd hz, by have := h.q2; omega, h.sg, h.eq⟩
theorem Cs.fin {c : Nat → Int} {T out : Int} {q : Nat} {L : List Nat} (h : Cs c T out q 1 L) : out = T := by
  have := h.pf.eq_one
  subst this
  rw [← h.eq, chp, Int.mul_one]

set_option maxRecDepth 100000 in
set_option maxHeartbeats 1000000 in
theorem l09Character_any (d : Int) (n : Nat) (L0 : List Nat) (w : World) (h1 : 1 ≤ n) (h2 : n ≤ 1000000) (hL : Pf n L0) : Calls Try.prog 105 #[.int .i64 d, .int .i64 ((n : Int))] w fun e w' => e = .returned (.int .i64 (chp (chq d) L0)) ∧ Below w.heap.size w w' := by
  have HC := hid (fun q a b W => l09At_any d q W a b)
  have hS := chq_sgn d
  have HST : Hid (Cs (chq d) (chp (chq d) L0) 1 2 n L0) := hid ⟨hL, fun j a b => by omega, by omega, .inr (.inr rfl), Int.one_mul _⟩
  generalize hT : chp (chq d) L0 = T at HST ⊢
  generalize hcc : chq d = c at HC hS HST
  have HS := hid hS
  clear hT hcc hL hS
  go_enter Try.func105, Try.ntmps105
  go_wp2_with fail
  go_loopw [5, 6, 1] (fun s t u wo => ∃ (out : Int) (q m : Nat) (L : List Nat), s = .int .i64 out ∧ t = .int .i64 ((q : Int)) ∧ u = .int .i64 ((m : Int)) ∧ 1 ≤ m ∧ m ≤ 1000000 ∧ q ≤ 1000001 ∧ Cs c T out q m L ∧ Below w.heap.size w wo) (fun _ t _ _ => (1000002 - intOf t).toNat)
  case atStart => exact ⟨1, 2, n, L0, rfl, rfl, rfl, h1, h2, by omega, HST.out, Below.refl _ _⟩
  case round =>
    obtain ⟨out, q, m, L, rfl, rfl, rfl, hm1, hm2, hq1, H, hU⟩ := hrel
    obtain ⟨wo, hwo⟩ : ∃ wo, wo = wr := ⟨_, rfl⟩
    subst hwo
    have HU := hid hU
    clear hU HST
    have hq2 := H.q2
    by_cases hm : 1 < m
    · have hle := H.le hm
      have hmb : decide ((1 : Int) < (m : Int)) = true := by simp; omega
      obtain ⟨s0, s1⟩ := sqr_bd9 (x := (q : Int)) (B := 1000001) (by omega) (by omega)
      by_cases hsq : (m : Int) < (q : Int) * q
      · have HJ := hid (H.jump hm hsq)
        clear H
        go_wp2_with fail
        go_loopw [5, 1] (fun s u wr => ∃ (out : Int) (k : Nat) (L : List Nat), s = .int .i64 out ∧ u = .int .i64 ((k : Int)) ∧ 1 ≤ k ∧ k ≤ m ∧ Cs c T out m k L ∧ Below w.heap.size w wr) (fun _ u _ => (intOf u).toNat)
        case atStart => exact ⟨out, m, L, rfl, rfl, hm1, Nat.le_refl _, HJ.out, HU.out⟩
        case round =>
          obtain ⟨o2, k, L2, rfl, rfl, hk1, hk2, H2, hU2⟩ := hrel
          have HU2 := hid hU2
          obtain ⟨g1, g2⟩ := sgn_bd H2.sg
          clear hU2 HJ
          by_cases hz : k % m = 0
          · obtain ⟨L3, H3, hk3, hk4⟩ := H2.div HS.out hz
            have H3 := hid H3
            have hz' : (((k : Int) % (m : Int)) == 0) = true := by simp; omega
            obtain ⟨f1, f2⟩ := sgn_bd (sgn_mul H2.sg (HS.out m))
            have HKD := hid (show ((k : Int) / (m : Int)) = ((k / m : Nat) : Int) by omega)
            clear H2 hz
            go_wp2_with fail
            refine (HC.out m (by omega) (by omega) _).mono ?_
            rintro e w2 ⟨rfl, hb2⟩
            have HU3 := hid (gr_trans HU2.out hb2)
            go_wp2_with fail
            go_roundw
            case rel => exact ⟨o2 * c m, k / m, L3, rfl, by first | rfl | (rw [HKD.out]), hk3, by omega, H3.out, HU3.out⟩
            case measure => simp [intOf]; omega
          · have H3 := hid (H2.succ hz)
            have hz' : (((k : Int) % (m : Int)) == 0) = false := by simp; omega
            clear H2 hz
            go_wp2_with fail
            go_roundw
            case rel => exact ⟨o2, m + 1, k, L2, rfl, by go_num, rfl, hk1, by omega, by omega, H3.out, HU2.out⟩
            case measure => simp [intOf]; omega
      · have HJ := hid H
        clear H
        go_wp2_with fail
        go_loopw [5, 1] (fun s u wr => ∃ (out : Int) (k : Nat) (L : List Nat), s = .int .i64 out ∧ u = .int .i64 ((k : Int)) ∧ 1 ≤ k ∧ k ≤ m ∧ Cs c T out q k L ∧ Below w.heap.size w wr) (fun _ u _ => (intOf u).toNat)
        case atStart => exact ⟨out, m, L, rfl, rfl, hm1, Nat.le_refl _, HJ.out, HU.out⟩
        case round =>
          obtain ⟨o2, k, L2, rfl, rfl, hk1, hk2, H2, hU2⟩ := hrel
          have HU2 := hid hU2
          obtain ⟨g1, g2⟩ := sgn_bd H2.sg
          clear hU2 HJ
          by_cases hz : k % q = 0
          · obtain ⟨L3, H3, hk3, hk4⟩ := H2.div HS.out hz
            have H3 := hid H3
            have hz' : (((k : Int) % (q : Int)) == 0) = true := by simp; omega
            obtain ⟨f1, f2⟩ := sgn_bd (sgn_mul H2.sg (HS.out q))
            have HKD := hid (show ((k : Int) / (q : Int)) = ((k / q : Nat) : Int) by omega)
            clear H2 hz
            go_wp2_with fail
            refine (HC.out q (by omega) (by omega) _).mono ?_
            rintro e w2 ⟨rfl, hb2⟩
            have HU3 := hid (gr_trans HU2.out hb2)
            go_wp2_with fail
            go_roundw
            case rel => exact ⟨o2 * c q, k / q, L3, rfl, by first | rfl | (rw [HKD.out]), hk3, by omega, H3.out, HU3.out⟩
            case measure => simp [intOf]; omega
          · have H3 := hid (H2.succ hz)
            have hz' : (((k : Int) % (q : Int)) == 0) = false := by simp; omega
            clear H2 hz
            go_wp2_with fail
            go_roundw
            case rel => exact ⟨o2, q + 1, k, L2, rfl, by go_num, rfl, hk1, by omega, by omega, H3.out, HU2.out⟩
            case measure => simp [intOf]; omega
    · have : m = 1 := by omega
      subst this
      have HF := hid H.fin
      clear H
      go_wp2_with fail
      go_ret
      exact ⟨ret_int HF.out, HU.out⟩


end Go.Proofs.Ytmhlolimaeejfaa
