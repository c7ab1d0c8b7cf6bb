/- Chapter 9: characters of the model. -/
import Derived.Test.YtmhlolimaeejfaaDoorYc
namespace Go.Proofs.YtmhlolimaeejfaaDoor
open Go.RowKit

set_option maxRecDepth 100000 in
set_option maxHeartbeats 1000000 in
theorem l09At_any (d : Int) (q : Nat) (w : World) (h1 : 2 ≤ q) (h2 : q ≤ 1000000) : Calls Tryd.prog 41 #[.int .i64 d, .int .i64 ((q : Int))] w fun e w' => e = .returned (.int .i64 (chq d q)) ∧ Below w.heap.size w w' := by
  obtain ⟨t1, t2⟩ := tmod_in d q (by omega)
  obtain ⟨t3, t4⟩ := tmod_in d 8 (by omega)
  have R8 := hid (rest_eq d 8 (by omega)); have R8' := hid (rest_eq' d 8 (by omega))
  have hm : (d.tmod q == 0) = decide (d % (q : Int) = 0) := by
    have := mul0_e (n := d) (m := q) (by omega)
    rw [mul0_p (by omega)] at this
    rw [beq_dec]; exact this
  by_cases hz : d % (q : Int) = 0
  · have HZ := hid (chq_0 hz)
    have hm' : (d.tmod q == 0) = true := by rw [hm]; simpa using hz
    clear hz hm
    go_enter Tryd.func41, Tryd.ntmps41
    go_wp2
    go_ret
    exact ⟨ret_int HZ.out.symm, Below.refl _ _⟩
  · have hm' : (d.tmod q == 0) = false := by rw [hm]; simpa using hz
    clear hm
    by_cases hq : q = 2
    · have hq' : ((q : Int) == 2) = true := by simp; omega
      by_cases h8 : d % 8 = 1
      · have HZ := hid (chq_2p hz hq h8)
        have h8' : ((d.tmod 8 + 8) % 8 == 1) = true := by rw [R8.out]; simpa using h8
        have h8'' : ((d.tmod 8 + 8).tmod 8 == 1) = true := by rw [R8'.out]; simpa using h8
        clear hz h8 hq
        go_enter Tryd.func41, Tryd.ntmps41
        go_wp2
        go_ret
        exact ⟨ret_int HZ.out.symm, Below.refl _ _⟩
      · have HZ := hid (chq_2m hz hq h8)
        have h8' : ((d.tmod 8 + 8) % 8 == 1) = false := by rw [R8.out]; simpa using h8
        have h8'' : ((d.tmod 8 + 8).tmod 8 == 1) = false := by rw [R8'.out]; simpa using h8
        clear hz h8 hq
        go_enter Tryd.func41, Tryd.ntmps41
        go_wp2
        go_ret
        exact ⟨ret_int HZ.out.symm, Below.refl _ _⟩
    · have hq' : ((q : Int) == 2) = false := by simp; omega
      have hh : ((q : Int) - 1) / 2 = (((q - 1) / 2 : Nat) : Int) := by omega
      have HH := hid hh
      clear hh
      have HRE := hid (rest_eq d q (by omega))
      have he0 : (q - 1) / 2 ≤ 1000000 := by omega
      have HS := hid (@Pw.start d q ((q - 1) / 2) (by omega))
      have HPp := hid (fun h8 : pwm d ((q - 1) / 2) q = 1 => chq_p hz hq h8)
      have HPm := hid (fun h8 : ¬ pwm d ((q - 1) / 2) q = 1 => chq_m hz hq h8)
      generalize chq d q = C at HPp HPm ⊢
      clear hz hq R8 R8' t3 t4
      have hm1 : 2 ≤ (q : Int) := by omega
      have hm2 : (q : Int) ≤ 1000000 := by omega
      generalize (q - 1) / 2 = e0 at he0 HH HS HPp HPm
      generalize (q : Int) = m at t1 t2 hm' hq' HH HRE HS HPp HPm hm1 hm2 ⊢
      clear h1 h2
      go_enter Tryd.func41, Tryd.ntmps41
      go_wp2_with fail
      go_quiet (fail)
      go_wp2_with fail
      go_loop [5, 6, 7] (fun s t u => ∃ (pw sq : Int) (k : Nat), s = .int .i64 pw ∧ t = .int .i64 sq ∧ u = .int .i64 ((k : Int)) ∧ Pw d m e0 pw sq k) (fun _ _ u => (intOf u).toNat)
      case atStart =>
        refine ⟨1, d % m, e0, rfl, ?_, ?_, HS.out⟩
        · first | (rw [HRE.out]; done) | (go_light; rw [HRE.out])
        · first | (rw [HH.out]; done) | (go_light; rw [HH.out])
      case round =>
        obtain ⟨pw, sq, k, rfl, rfl, rfl, H⟩ := hrel
        obtain ⟨q0, q1⟩ := prod_bd H.pb H.sb hm2
        obtain ⟨r0, r1⟩ := prod_bd H.sb H.sb hm2
        have hle := H.le
        by_cases hk : 0 < k
        · by_cases ho : k % 2 = 1
          · have HT := hid (H.odd hm1 ho)
            have ho' : (((k : Int) % 2) == 1) = true := by simp; omega
            clear H ho
            go_wp2
            go_round
            case rel => exact ⟨pw * sq % m, sq * sq % m, k / 2, by go_num, by go_num, by go_num, HT.out⟩
            case measure => simp [intOf]; omega
          · have HT := hid (H.even hm1 ho)
            have ho' : (((k : Int) % 2) == 1) = false := by simp; omega
            clear H ho
            go_wp2
            go_round
            case rel => exact ⟨pw, sq * sq % m, k / 2, by go_num, by go_num, by go_num, HT.out⟩
            case measure => simp [intOf]; omega
        · have : k = 0 := by omega
          subst this
          have hF := H.fin
          clear H
          by_cases h8 : pw = 1
          · have HC := hid (HPp.out (hF ▸ h8))
            have h8' : (pw == 1) = true := by simpa using h8
            clear hF h8
            go_wp2
            go_ret
            exact ⟨ret_int HC.out.symm, by (repeat' (first | with_reducible exact Below.refl _ _ | with_reducible assumption | with_reducible refine gr_alloc ?_ _ | with_reducible refine gr_drew ?_ | with_reducible refine gr_drewN ?_ _ | with_reducible refine gr_trans ?_ (by assumption) | with_reducible refine gr_set ?_ ?_ _ | (simp; done) | omega | (simp; omega)))⟩
          · have HC := hid (HPm.out (hF ▸ h8))
            have h8' : (pw == 1) = false := by simpa using h8
            clear hF h8
            go_wp2
            go_ret
            exact ⟨ret_int HC.out.symm, by (repeat' (first | with_reducible exact Below.refl _ _ | with_reducible assumption | with_reducible refine gr_alloc ?_ _ | with_reducible refine gr_drew ?_ | with_reducible refine gr_drewN ?_ _ | with_reducible refine gr_trans ?_ (by assumption) | with_reducible refine gr_set ?_ ?_ _ | (simp; done) | omega | (simp; omega)))⟩

theorem sqr_bd9 {x B : Int} (h0 : 0 ≤ x) (h : x ≤ B) : 0 ≤ x * x ∧ x * x ≤ B * B := ⟨Int.mul_nonneg h0 h0, Int.mul_le_mul h h h0 (by omega)⟩
/-- What is done and what is left of a number. -/
structure Cs (c : Nat → Int) (T : Int) (out : Int) (q m : Nat) (L : List Nat) : Prop where
  pf : Pf m L
  nd : NoDiv m q
  q2 : 2 ≤ q
  sg : Sgn out
  eq : out * chp c L = T
theorem Cs.le {c : Nat → Int} {T out : Int} {q m : Nat} {L : List Nat} (h : Cs c T out q m L) (hm : 2 ≤ m) : q ≤ m := by
  rcases Nat.lt_or_ge m q with h0 | h0
  · exact absurd (Nat.mod_self m) (h.nd m hm h0)
  · exact h0
theorem Cs.jump {c : Nat → Int} {T out : Int} {q m : Nat} {L : List Nat} (h : Cs c T out q m L) (hm : 2 ≤ m) (hlt : (m : Int) < (q : Int) * q) : Cs c T out m m L :=
  ⟨h.pf, nodiv_whole hm h.nd (by exact_mod_cast hlt), hm, h.sg, h.eq⟩
theorem Cs.div {c : Nat → Int} {T out : Int} {q m : Nat} {L : List Nat} (h : Cs c T out q m L) (hc : ∀ p, Sgn (c p)) (hz : m % q = 0) : ∃ L', Cs c T (out * c q) q (m / q) L' ∧ 0 < m / q ∧ m / q < m := by
  obtain ⟨L', rfl, h1, h2, h3⟩ := h.pf.head h.q2 hz h.nd
  refine ⟨L', ⟨h1, nodiv_div hz h.nd, h.q2, sgn_mul h.sg (hc q), ?_⟩, h2, h3⟩
  rw [← h.eq, chp, Int.mul_assoc]
theorem Cs.succ {c : Nat → Int} {T out : Int} {q m : Nat} {L : List Nat} (h : Cs c T out q m L) (hz : m % q ≠ 0) : Cs c T out (q + 1) m L :=
  ⟨h.pf, nodiv_succ h.nd hz, by have := h.q2; omega, h.sg, h.eq⟩
theorem Cs.fin {c : Nat → Int} {T out : Int} {q : Nat} {L : List Nat} (h : Cs c T out q 1 L) : out = T := by
  have := h.pf.eq_one
  subst this
  rw [← h.eq, chp, Int.mul_one]




end Go.Proofs.YtmhlolimaeejfaaDoor
