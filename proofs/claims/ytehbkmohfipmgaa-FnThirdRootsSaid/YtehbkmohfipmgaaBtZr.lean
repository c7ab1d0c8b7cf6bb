/- Chapter 10: TriplesWith, the model's. -/
import Derived.Test.YtehbkmohfipmgaaBtZp
import Derived.Deep.DeepCutAuto
namespace Go.Proofs.Ytehbkmohfipmgaa
open Go.RowKit

set_option maxRecDepth 100000 in
set_option maxHeartbeats 8000000 in
theorem sTriplesWith_any (x y z n : Int) (w : World) : Calls Try.prog 31 #[.agg #[.int .i64 x, .int .i64 y, .int .i64 z], .int .i64 n] w (FlsOut (twc x y z n) (tls x y z n).length (fun i => ((tls x y z n).flatMap gi4).getD i 0) w) := by
  have A0 := Arr3.new w x y z 25
  have U0 := gr_alloc (Below.refl w.heap.size w) (.cells #[.int .i64 x, .int .i64 y, .int .i64 z] 25)
  have hc := fun k W h => sCode1_any k x y z W h
  have hk : twc x y z n = if dc1 x y z = 0 then (if rng 1 5 n then 0 else 2) else dc1 x y z := rfl
  generalize twc x y z n = R at hk ⊢
  generalize dc1 x y z = k at hc hk
  have HC := hid hc; have HK := hid hk
  clear hc hk
  go_enter Try.func31, Try.ntmps31
  go_upto_region 1 with fail
  generalize hW : w.alloc (.cells #[.int .i64 x, .int .i64 y, .int .i64 z] 25) = W0 at A0 U0 ⊢
  clear hW
  obtain ⟨_, a0, a1, a2, _⟩ := id A0
  have K := Arr3.new W0 x y z 25
  have A1 := A0.alloc (.cells #[.int .i64 x, .int .i64 y, .int .i64 z] 25)
  have U1 := gr_alloc U0 (.cells #[.int .i64 x, .int .i64 y, .int .i64 z] 25)
  go_wp2_with fail
  refine (HC.out _ _ K.at).mono ?_
  rintro e w1 ⟨rfl, hb1⟩
  have A2 := A1.next hb1
  have U2 := gr_trans U1 hb1
  clear a0 a1 a2 A0 U0 A1 U1 K
  by_cases hk : k = 0
  · subst hk
    cases hn : rng 1 5 n with
    | false =>
      have hR : R = 2 := by rw [HK.out, hn]; simp
      subst hR
      have h00 : ((0 : Int) == 0) = true := by simp
      go_wp2_with (go_at_call 67; refine (l01In_any _ _ _ _).mono ?_; rintro e w2 ⟨rfl, rfl⟩)
      go_ret2
      exact ⟨_, rfl, .inl ⟨rfl, by simp⟩, U2⟩
    | true =>
      have hR : R = 0 := by rw [HK.out, hn]; simp
      subst hR
      obtain ⟨n1, n5⟩ := rng_t hn
      have h00 : ((0 : Int) == 0) = true := by simp
      have HL0 := hid (fun W => l01In_any 1 5 n W)
      go_wp2_with (go_at_call 67; refine (l01In_any _ _ _ _).mono ?_; rintro e w2 ⟨rfl, rfl⟩)
      have HA := hid (A2.alloc (.cells #[] 42)); have HU := hid (gr_alloc U2 (.cells #[] 42)); have HR0 := hid (RowF.empty (w.heap.size + 1) w1 A2.lt)
      have HR1 := HR0
      clear HR0
      clear A2 U2
      go_loopw [7, 8] (fun u s wr => ∃ (ja : Nat) (a : Int), s = .int .i64 a ∧ a = -n + (ja : Int) ∧ (ja : Int) ≤ 2 * n + 1 ∧ RowF (w.heap.size + 1) wr u (t4 x y z n ja) ∧ Arr3 wr w.heap.size x y z ∧ Below w.heap.size w wr) (fun _ s _ => (10 - intOf s).toNat)
      case atStart => exact ⟨0, -n, rfl, by simp, by omega, by simpa [t4] using HR1.out, HA.out, HU.out⟩
      case round =>
        clear HA HU HR1
        obtain ⟨ja, a, rfl, ha, ba, hR, hA, hU⟩ := hrel
        have Ha := hid ha
        have a1 : -5 ≤ a := by omega
        have a2 : a ≤ 6 := by omega
        clear ha
        have HR1 := hid hR; have HA := hid hA; have HU := hid hU
        clear hR hA hU
        obtain ⟨wo0, hwo⟩ : ∃ wo, wo = wr := ⟨_, rfl⟩
        subst hwo
        by_cases hq0 : a ≤ n
        · have a3 : a ≤ 5 := by omega
          go_wp2_with fail
          go_loopw [7, 9] (fun u s wr => ∃ (je : Nat) (e : Int), s = .int .i64 e ∧ e = -n + (je : Int) ∧ (je : Int) ≤ 2 * n + 1 ∧ RowF (w.heap.size + 1) wr u ((t4 x y z n ja ++ t3 x y z n a je)) ∧ Arr3 wr w.heap.size x y z ∧ Below w.heap.size w wr) (fun _ s _ => (10 - intOf s).toNat)
          case atStart => exact ⟨0, -n, rfl, by simp, by omega, by simpa [t3] using HR1.out, HA.out, HU.out⟩
          case round =>
            clear HA HU HR1
            obtain ⟨je, e, rfl, he, be, hR, hA, hU⟩ := hrel
            have He := hid he
            have e1 : -5 ≤ e := by omega
            have e2 : e ≤ 6 := by omega
            clear he
            have HR1 := hid hR; have HA := hid hA; have HU := hid hU
            clear hR hA hU
            obtain ⟨wo1, hwo⟩ : ∃ wo, wo = wr := ⟨_, rfl⟩
            subst hwo
            by_cases hq1 : e ≤ n
            · have e3 : e ≤ 5 := by omega
              go_wp2_with fail
              go_loopw [7, 10] (fun u s wr => ∃ (jg : Nat) (g : Int), s = .int .i64 g ∧ g = -n + (jg : Int) ∧ (jg : Int) ≤ 2 * n + 1 ∧ RowF (w.heap.size + 1) wr u (((t4 x y z n ja ++ t3 x y z n a je) ++ t2 x y z n a e jg)) ∧ Arr3 wr w.heap.size x y z ∧ Below w.heap.size w wr) (fun _ s _ => (10 - intOf s).toNat)
              case atStart => exact ⟨0, -n, rfl, by simp, by omega, by simpa [t2] using HR1.out, HA.out, HU.out⟩
              case round =>
                clear HA HU HR1
                obtain ⟨jg, g, rfl, hg, bg, hR, hA, hU⟩ := hrel
                have Hg := hid hg
                have g1 : -5 ≤ g := by omega
                have g2 : g ≤ 6 := by omega
                clear hg
                have HR1 := hid hR; have HA := hid hA; have HU := hid hU
                clear hR hA hU
                obtain ⟨wo2, hwo⟩ : ∃ wo, wo = wr := ⟨_, rfl⟩
                subst hwo
                by_cases hq2 : g ≤ n
                · have g3 : g ≤ 5 := by omega
                  go_wp2_with fail
                  go_loopw [7, 11] (fun u s wr => ∃ (jd : Nat) (d : Int), s = .int .i64 d ∧ d = -n + (jd : Int) ∧ (jd : Int) ≤ 2 * n + 1 ∧ RowF (w.heap.size + 1) wr u ((((t4 x y z n ja ++ t3 x y z n a je) ++ t2 x y z n a e jg) ++ t1 x y z n a e g jd)) ∧ Arr3 wr w.heap.size x y z ∧ Below w.heap.size w wr) (fun _ s _ => (10 - intOf s).toNat)
                  case atStart => exact ⟨0, -n, rfl, by simp, by omega, by simpa [t1] using HR1.out, HA.out, HU.out⟩
                  case round =>
                    clear HA HU HR1
                    obtain ⟨jd, d, rfl, hd, bd, hR, hA, hU⟩ := hrel
                    have Hd := hid hd
                    have d1 : -5 ≤ d := by omega
                    have d2 : d ≤ 6 := by omega
                    clear hd
                    have HR1 := hid hR; have HA := hid hA; have HU := hid hU
                    clear hR hA hU
                    obtain ⟨wo3, hwo⟩ : ∃ wo, wo = wr := ⟨_, rfl⟩
                    subst hwo
                    by_cases hq3 : d ≤ n
                    · have d3 : d ≤ 5 := by omega
                      have hrt : Hid (t1 x y z n a e g (jd + 1) = t1 x y z n a e g jd ++ (if tq x y z a e g d then [(a, 3 * e, 3 * g, d)] else [])) := hid (by rw [Hd.out]; rfl)
                      have hlen : ((((t4 x y z n ja ++ t3 x y z n a je) ++ t2 x y z n a e jg) ++ t1 x y z n a e g jd)).length ≤ 1000000 := by
                        have := Ha.out; have := He.out; have := Hg.out; have := Hd.out
                        have l1 := t4_le x y z n ja (by omega); have l2 := t3_le x y z n a je (by omega); have l3 := t2_le x y z n a e jg (by omega); have l4 := t1_le x y z n a e g jd
                        simp only [List.length_append]; omega
                      have hr := fun W => l10Root_any a e g d W ⟨by omega, by omega⟩ ⟨by omega, by omega⟩ ⟨by omega, by omega⟩ ⟨by omega, by omega⟩
                      have hq := fun W => eqq_run (rt1 a e g) (rt2 a e g d) (rt3 e g d) x y z W
                      have htq : tq x y z a e g d = qeq (rt1 a e g) (rt2 a e g d) (rt3 e g d) x y z := rfl
                      generalize rt1 a e g = r1 at hr hq htq
                      generalize rt2 a e g d = r2 at hr hq htq
                      generalize rt3 e g d = r3 at hr hq htq
                      rw [← htq] at hq
                      clear htq
                      generalize tq x y z a e g d = bb at hq hrt
                      have HRT := hid hr; have HQ := hid hq
                      clear hr hq
                      have Q3 := HA.out
                      have HR3 := HR1; have HU3 := HU
                      obtain ⟨_, q0, q1, q2, _⟩ := id Q3
                      go_upto_region 19 with fail
                      go_cut [60] (fun s60 wx => s60 = .bool bb ∧ Arr3 wx w.heap.size x y z ∧ RowF (w.heap.size + 1) wx u7 ((((t4 x y z n ja ++ t3 x y z n a je) ++ t2 x y z n a e jg) ++ t1 x y z n a e g jd)) ∧ Below w.heap.size w wx)
                      case first =>
                        have hq := HQ.out
                        go_region_held3 (fun W => W.cell? ⟨w.heap.size, 0, none⟩ = some (.int .i64 x) ∧ W.cell? ⟨w.heap.size, 1, none⟩ = some (.int .i64 y) ∧ W.cell? ⟨w.heap.size, 2, none⟩ = some (.int .i64 z)) (refine cells3 ?_ <;> (repeat (first | with_reducible assumption | with_reducible exact Arr.box (by assumption) | with_reducible exact Box.new _ _ _ _ _ _ | with_reducible exact Arr.new _ _ _ _ _ _ | with_reducible refine Arr.drew ?_ | with_reducible refine Arr.drewN ?_ _ | with_reducible refine Arr.store4 ?_ | with_reducible refine Arr.alloc ?_ _ | with_reducible refine Box.drew ?_ | with_reducible refine Box.drewN ?_ _ | with_reducible refine Box.alloc ?_ _ | with_reducible refine Arr.next ?_ (by assumption) | with_reducible refine Box.next ?_ (by assumption) | refine Arr.oth ?_ (by first | (simp; done) | omega | (simp; omega)) _ | refine Box.oth ?_ (by first | (simp; done) | omega | (simp; omega)) _ | with_reducible exact Arr3.box (by assumption) | with_reducible exact Box3.new _ _ _ _ _ | with_reducible exact Arr3.new _ _ _ _ _ | with_reducible refine Arr3.drew ?_ | with_reducible refine Arr3.drewN ?_ _ | with_reducible refine Arr3.store3 ?_ | with_reducible refine Arr3.alloc ?_ _ | with_reducible refine Box3.drew ?_ | with_reducible refine Box3.drewN ?_ _ | with_reducible refine Box3.alloc ?_ _ | with_reducible refine Arr3.next ?_ (by assumption) | with_reducible refine Box3.next ?_ (by assumption) | refine Arr3.oth ?_ (by first | (simp; done) | omega | (simp; omega)) _ | refine Box3.oth ?_ (by first | (simp; done) | omega | (simp; omega)) _))) (first | (go_at_call 63; refine (HRT.out _).mono ?_; rintro e' v1 ⟨rfl, hv1⟩))
                        all_goals (go_wp2_with fail; go_meet; exact ⟨rfl, by (repeat (first | with_reducible assumption | with_reducible exact Arr.box (by assumption) | with_reducible exact Box.new _ _ _ _ _ _ | with_reducible exact Arr.new _ _ _ _ _ _ | with_reducible refine Arr.drew ?_ | with_reducible refine Arr.drewN ?_ _ | with_reducible refine Arr.store4 ?_ | with_reducible refine Arr.alloc ?_ _ | with_reducible refine Box.drew ?_ | with_reducible refine Box.drewN ?_ _ | with_reducible refine Box.alloc ?_ _ | with_reducible refine Arr.next ?_ (by assumption) | with_reducible refine Box.next ?_ (by assumption) | refine Arr.oth ?_ (by first | (simp; done) | omega | (simp; omega)) _ | refine Box.oth ?_ (by first | (simp; done) | omega | (simp; omega)) _ | with_reducible exact Arr3.box (by assumption) | with_reducible exact Box3.new _ _ _ _ _ | with_reducible exact Arr3.new _ _ _ _ _ | with_reducible refine Arr3.drew ?_ | with_reducible refine Arr3.drewN ?_ _ | with_reducible refine Arr3.store3 ?_ | with_reducible refine Arr3.alloc ?_ _ | with_reducible refine Box3.drew ?_ | with_reducible refine Box3.drewN ?_ _ | with_reducible refine Box3.alloc ?_ _ | with_reducible refine Arr3.next ?_ (by assumption) | with_reducible refine Box3.next ?_ (by assumption) | refine Arr3.oth ?_ (by first | (simp; done) | omega | (simp; omega)) _ | refine Box3.oth ?_ (by first | (simp; done) | omega | (simp; omega)) _)), RowF.next HR3.out (by (repeat' (first | with_reducible exact Below.refl _ _ | with_reducible assumption | with_reducible refine gr_alloc ?_ _ | with_reducible refine gr_drew ?_ | with_reducible refine gr_drewN ?_ _ | with_reducible refine gr_trans ?_ (by assumption) | with_reducible refine gr_set ?_ ?_ _ | (simp; done) | omega | (simp; omega)))), by have hU3 := HU3.out; (repeat' (first | with_reducible exact Below.refl _ _ | with_reducible assumption | with_reducible refine gr_alloc ?_ _ | with_reducible refine gr_drew ?_ | with_reducible refine gr_drewN ?_ _ | with_reducible refine gr_trans ?_ (by assumption) | with_reducible refine gr_set ?_ ?_ _ | (simp; done) | omega | (simp; omega)))⟩)
                      case rest =>
                        obtain ⟨rfl, Q4, R4, U4⟩ := hcut
                        generalize hww : wc = w4 at *
                        clear hww q0 q1 q2 Q3 HR3 HU3 HQ HRT
                        have HR4 := hid R4; have HU4 := hid U4; have HQ4 := hid Q4
                        clear R4 U4 Q4
                        cases bb with
                        | false =>
                          go_wp2_with fail
                          go_roundw
                          case rel => exact ⟨jd + 1, d + 1, rfl, by rw [Hd.out]; push_cast; omega, by have := Hd.out; push_cast; omega, by rw [hrt.out]; exact rowF_skip rfl HR4.out, HQ4.out, HU4.out⟩
                          case measure => simp [intOf]; omega
                        | true =>
                          have hs4 : w.heap.size + 1 ≤ w4.heap.size := HQ4.out.lt
                          go_wp2_with (at_builtin; refine app_f rfl _ _ rfl (w.heap.size + 1) rfl HR4.out rfl hlen hs4 ?_)
                          intro v' w6 hrow hgrow
                          have hU6 := RowF.grown (W := w) (RowF.next HR4.out (gr_alloc (Below.refl _ _) _)) (gr_alloc HU4.out _) hgrow (by omega)
                          have hA6 := Arr3.keptF (HQ4.out.alloc _) HR4.out hgrow (by omega)
                          go_wp2_with fail
                          go_roundw
                          case rel => exact ⟨jd + 1, d + 1, rfl, by rw [Hd.out]; push_cast; omega, by have := Hd.out; push_cast; omega, by rw [hrt.out]; exact rowF_take rfl (by simpa only [List.append_assoc] using hrow), hA6, hU6⟩
                          case measure => simp [intOf]; omega
                    · have hj : jd = (2 * n + 1).toNat := by have := Hd.out; omega
                      subst hj
                      have hR := HR1.out; have hA := HA.out; have hU := HU.out
                      go_wp2_with fail
                      go_roundw
                      case rel => exact ⟨jg + 1, g + 1, rfl, by rw [Hg.out]; push_cast; omega, by have := Hg.out; push_cast; omega, by rw [Hg.out] at hR; simpa [t4, t3, t2, List.append_assoc] using hR, hA, hU⟩
                      case measure => simp [intOf]; omega
                · have hj : jg = (2 * n + 1).toNat := by have := Hg.out; omega
                  subst hj
                  have hR := HR1.out; have hA := HA.out; have hU := HU.out
                  go_wp2_with fail
                  go_roundw
                  case rel => exact ⟨je + 1, e + 1, rfl, by rw [He.out]; push_cast; omega, by have := He.out; push_cast; omega, by rw [He.out] at hR; simpa [t4, t3, t2, List.append_assoc] using hR, hA, hU⟩
                  case measure => simp [intOf]; omega
            · have hj : je = (2 * n + 1).toNat := by have := He.out; omega
              subst hj
              have hR := HR1.out; have hA := HA.out; have hU := HU.out
              go_wp2_with fail
              go_roundw
              case rel => exact ⟨ja + 1, a + 1, rfl, by rw [Ha.out]; push_cast; omega, by have := Ha.out; push_cast; omega, by rw [Ha.out] at hR; simpa [t4, t3, t2, List.append_assoc] using hR, hA, hU⟩
              case measure => simp [intOf]; omega
        · have hj : ja = (2 * n + 1).toNat := by have := Ha.out; omega
          subst hj
          have hR := HR1.out; have hA := HA.out; have hU := HU.out
          obtain ⟨va, cap, rfl⟩ := hR.val
          go_wp2_with fail
          go_ret2
          exact FlsOut.of rfl (hR.base (by omega)) hU
  · have hR : R = k := by rw [HK.out, if_neg hk]
    subst hR
    have hk' : (R == 0) = false := by simpa using hk
    have HKK := hid hk
    clear hk
    go_wp2_with fail
    go_ret2
    exact ⟨_, rfl, .inl ⟨rfl, by rw [if_neg HKK.out]⟩, U2⟩

end Go.Proofs.Ytehbkmohfipmgaa
