/- Several texts in one: XZq, XDraw, XDraw2, XC1e, XC1f. -/
import Derived.Test.YtehbkmohfipmgaaBtZp
import Derived.Deep.DeepCutAuto
import Derived.Test.YtehbkmohfipmgaaBtZ1
import Derived.Test.YtehbkmohfipmgaaBtZ3
import Derived.Test.YtehbkmohfipmgaaBtZ6

/- Chapter 10: TriplesWith, the program's. -/
namespace Go.Proofs.Ytehbkmohfipmgaa
open Go.RowKit

set_option maxRecDepth 100000 in
set_option maxHeartbeats 8000000 in
theorem iTriplesWith_any (x y z n : Int) (w : World) : Calls Try.prog 30 #[.agg #[.int .i64 x, .int .i64 y, .int .i64 z], .int .i64 n] w (FlsOut (twc x y z n) (tls x y z n).length (fun i => ((tls x y z n).flatMap gi4).getD i 0) w) := by
  have A0 := Arr3.new w x y z 25
  have U0 := gr_alloc (Below.refl w.heap.size w) (.cells #[.int .i64 x, .int .i64 y, .int .i64 z] 25)
  have hc := fun k W h => iCode1_any k x y z W h
  have hk : twc x y z n = if dc1 x y z = 0 then (if rng 1 5 n then 0 else 2) else dc1 x y z := rfl
  generalize twc x y z n = R at hk ⊢
  generalize dc1 x y z = k at hc hk
  have HC := hid hc; have HK := hid hk
  clear hc hk
  go_enter Try.func30, Try.ntmps30
  go_upto_region 1 with fail
  generalize hW : w.alloc (.cells #[.int .i64 x, .int .i64 y, .int .i64 z] 25) = W0 at A0 U0 ⊢
  clear hW
  obtain ⟨_, a0, a1, a2, _⟩ := id A0
  have K := Arr3.new W0 x y z 25
  have A1 := A0.alloc (.cells #[.int .i64 x, .int .i64 y, .int .i64 z] 25)
  have U1 := gr_alloc U0 (.cells #[.int .i64 x, .int .i64 y, .int .i64 z] 25)
  go_wp2_with fail
  refine (HC.out _ _ K.at).mono ?_
  rintro e w1 ⟨rfl, hb1⟩
  have A2 := A1.next hb1
  have U2 := gr_trans U1 hb1
  clear a0 a1 a2 A0 U0 A1 U1 K
  by_cases hk : k = 0
  · subst hk
    cases hn : rng 1 5 n with
    | false =>
      have hR : R = 2 := by rw [HK.out, hn]; simp
      subst hR
      have hn' : n < 1 ∨ 5 < n := rng_f hn
      by_cases h1 : n < 1
      · have h1' : decide (n < 1) = true := by simpa using h1
        go_wp2_with fail
        go_ret2
        exact ⟨_, rfl, .inl ⟨rfl, by simp⟩, U2⟩
      · have h2 : 5 < n := by omega
        have h1' : 1 ≤ n := by omega
        clear h1
        go_wp2_with fail
        go_ret2
        exact ⟨_, rfl, .inl ⟨rfl, by simp⟩, U2⟩
    | true =>
      have hR : R = 0 := by rw [HK.out, hn]; simp
      subst hR
      obtain ⟨n1, n5⟩ := rng_t hn
      clear hn HC HK
      go_wp2_with fail
      have HA := hid (A2); have HU := hid (U2); have HR0 := hid (RowF.nil (w.heap.size + 1) w1)
      have HR1 : Hid (RowF (w.heap.size + 1) w1 (.slice none 0 0) []) := HR0
      clear HR0
      clear A2 U2
      go_loopw [7, 8] (fun u s wr => ∃ (ja : Nat) (a : Int), s = .int .i64 a ∧ a = -n + (ja : Int) ∧ (ja : Int) ≤ 2 * n + 1 ∧ RowF (w.heap.size + 1) wr u (t4 x y z n ja) ∧ Arr3 wr w.heap.size x y z ∧ Below w.heap.size w wr) (fun _ s _ => (10 - intOf s).toNat)
      case atStart => exact ⟨0, -n, rfl, by simp, by omega, by simpa [t4] using HR1.out, HA.out, HU.out⟩
      case round =>
        clear HA HU HR1
        obtain ⟨ja, a, rfl, ha, ba, hR, hA, hU⟩ := hrel
        have Ha := hid ha
        have a1 : -5 ≤ a := by omega
        have a2 : a ≤ 6 := by omega
        clear ha
        have HR1 := hid hR; have HA := hid hA; have HU := hid hU
        clear hR hA hU
        obtain ⟨wo0, hwo⟩ : ∃ wo, wo = wr := ⟨_, rfl⟩
        subst hwo
        by_cases hq0 : a ≤ n
        · have a3 : a ≤ 5 := by omega
          go_wp2_with fail
          go_loopw [7, 9] (fun u s wr => ∃ (je : Nat) (e : Int), s = .int .i64 e ∧ e = -n + (je : Int) ∧ (je : Int) ≤ 2 * n + 1 ∧ RowF (w.heap.size + 1) wr u ((t4 x y z n ja ++ t3 x y z n a je)) ∧ Arr3 wr w.heap.size x y z ∧ Below w.heap.size w wr) (fun _ s _ => (10 - intOf s).toNat)
          case atStart => exact ⟨0, -n, rfl, by simp, by omega, by simpa [t3] using HR1.out, HA.out, HU.out⟩
          case round =>
            clear HA HU HR1
            obtain ⟨je, e, rfl, he, be, hR, hA, hU⟩ := hrel
            have He := hid he
            have e1 : -5 ≤ e := by omega
            have e2 : e ≤ 6 := by omega
            clear he
            have HR1 := hid hR; have HA := hid hA; have HU := hid hU
            clear hR hA hU
            obtain ⟨wo1, hwo⟩ : ∃ wo, wo = wr := ⟨_, rfl⟩
            subst hwo
            by_cases hq1 : e ≤ n
            · have e3 : e ≤ 5 := by omega
              go_wp2_with fail
              go_loopw [7, 10] (fun u s wr => ∃ (jg : Nat) (g : Int), s = .int .i64 g ∧ g = -n + (jg : Int) ∧ (jg : Int) ≤ 2 * n + 1 ∧ RowF (w.heap.size + 1) wr u (((t4 x y z n ja ++ t3 x y z n a je) ++ t2 x y z n a e jg)) ∧ Arr3 wr w.heap.size x y z ∧ Below w.heap.size w wr) (fun _ s _ => (10 - intOf s).toNat)
              case atStart => exact ⟨0, -n, rfl, by simp, by omega, by simpa [t2] using HR1.out, HA.out, HU.out⟩
              case round =>
                clear HA HU HR1
                obtain ⟨jg, g, rfl, hg, bg, hR, hA, hU⟩ := hrel
                have Hg := hid hg
                have g1 : -5 ≤ g := by omega
                have g2 : g ≤ 6 := by omega
                clear hg
                have HR1 := hid hR; have HA := hid hA; have HU := hid hU
                clear hR hA hU
                obtain ⟨wo2, hwo⟩ : ∃ wo, wo = wr := ⟨_, rfl⟩
                subst hwo
                by_cases hq2 : g ≤ n
                · have g3 : g ≤ 5 := by omega
                  go_wp2_with fail
                  go_loopw [7, 11] (fun u s wr => ∃ (jd : Nat) (d : Int), s = .int .i64 d ∧ d = -n + (jd : Int) ∧ (jd : Int) ≤ 2 * n + 1 ∧ RowF (w.heap.size + 1) wr u ((((t4 x y z n ja ++ t3 x y z n a je) ++ t2 x y z n a e jg) ++ t1 x y z n a e g jd)) ∧ Arr3 wr w.heap.size x y z ∧ Below w.heap.size w wr) (fun _ s _ => (10 - intOf s).toNat)
                  case atStart => exact ⟨0, -n, rfl, by simp, by omega, by simpa [t1] using HR1.out, HA.out, HU.out⟩
                  case round =>
                    clear HA HU HR1
                    obtain ⟨jd, d, rfl, hd, bd, hR, hA, hU⟩ := hrel
                    have Hd := hid hd
                    have d1 : -5 ≤ d := by omega
                    have d2 : d ≤ 6 := by omega
                    clear hd
                    have HR1 := hid hR; have HA := hid hA; have HU := hid hU
                    clear hR hA hU
                    obtain ⟨wo3, hwo⟩ : ∃ wo, wo = wr := ⟨_, rfl⟩
                    subst hwo
                    by_cases hq3 : d ≤ n
                    · have d3 : d ≤ 5 := by omega
                      have hrt : Hid (t1 x y z n a e g (jd + 1) = t1 x y z n a e g jd ++ (if tq x y z a e g d then [(a, 3 * e, 3 * g, d)] else [])) := hid (by rw [Hd.out]; rfl)
                      have hlen : ((((t4 x y z n ja ++ t3 x y z n a je) ++ t2 x y z n a e jg) ++ t1 x y z n a e g jd)).length ≤ 1000000 := by
                        have := Ha.out; have := He.out; have := Hg.out; have := Hd.out
                        have l1 := t4_le x y z n ja (by omega); have l2 := t3_le x y z n a je (by omega); have l3 := t2_le x y z n a e jg (by omega); have l4 := t1_le x y z n a e g jd
                        simp only [List.length_append]; omega
                      have hr := fun W => iRoot_any a e g d W ⟨by omega, by omega⟩ ⟨by omega, by omega⟩ ⟨by omega, by omega⟩ ⟨by omega, by omega⟩
                      have hq := fun W => eqq_run (rt1 a e g) (rt2 a e g d) (rt3 e g d) x y z W
                      have htq : tq x y z a e g d = qeq (rt1 a e g) (rt2 a e g d) (rt3 e g d) x y z := rfl
                      generalize rt1 a e g = r1 at hr hq htq
                      generalize rt2 a e g d = r2 at hr hq htq
                      generalize rt3 e g d = r3 at hr hq htq
                      rw [← htq] at hq
                      clear htq
                      generalize tq x y z a e g d = bb at hq hrt
                      have HRT := hid hr; have HQ := hid hq
                      clear hr hq
                      have A3 := Arr.new wo3 a (3 * e) (3 * g) d 42
                      have Q3 := HA.out.alloc (.cells #[.int .i64 a, .int .i64 (3 * e), .int .i64 (3 * g), .int .i64 d] 42)
                      have U3 := gr_alloc HU.out (.cells #[.int .i64 a, .int .i64 (3 * e), .int .i64 (3 * g), .int .i64 d] 42)
                      have R3 := RowF.next HR1.out (gr_alloc (Below.refl _ _) (.cells #[.int .i64 a, .int .i64 (3 * e), .int .i64 (3 * g), .int .i64 d] 42))
                      go_upto_region 20 with fail
                      generalize hW : wo3.alloc (.cells #[.int .i64 a, .int .i64 (3 * e), .int .i64 (3 * g), .int .i64 d] 42) = W3 at A3 Q3 U3 R3 ⊢
                      generalize hkk : wo3.heap.size = kk at A3 ⊢
                      clear hW hkk
                      have HR3 := hid R3; have HU3 := hid U3
                      clear R3 U3
                      obtain ⟨_, c0, c1, c2, c3, _⟩ := id A3
                      obtain ⟨_, q0, q1, q2, _⟩ := id Q3
                      go_cut [63] (fun s63 wx => s63 = .bool bb ∧ Arr wx kk a (3 * e) (3 * g) d ∧ Arr3 wx w.heap.size x y z ∧ RowF (w.heap.size + 1) wx u7 ((((t4 x y z n ja ++ t3 x y z n a je) ++ t2 x y z n a e jg) ++ t1 x y z n a e g jd)) ∧ Below w.heap.size w wx)
                      case first =>
                        have hq := HQ.out
                        go_region_held3 (fun W => W.cell? ⟨kk, 0, none⟩ = some (.int .i64 a) ∧ W.cell? ⟨kk, 1, none⟩ = some (.int .i64 (3 * e)) ∧ W.cell? ⟨kk, 2, none⟩ = some (.int .i64 (3 * g)) ∧ W.cell? ⟨kk, 3, none⟩ = some (.int .i64 d) ∧ W.cell? ⟨w.heap.size, 0, none⟩ = some (.int .i64 x) ∧ W.cell? ⟨w.heap.size, 1, none⟩ = some (.int .i64 y) ∧ W.cell? ⟨w.heap.size, 2, none⟩ = some (.int .i64 z)) (refine cells43z ?_ ?_ <;> (repeat (first | with_reducible assumption | with_reducible exact Arr.box (by assumption) | with_reducible exact Box.new _ _ _ _ _ _ | with_reducible exact Arr.new _ _ _ _ _ _ | with_reducible refine Arr.drew ?_ | with_reducible refine Arr.drewN ?_ _ | with_reducible refine Arr.store4 ?_ | with_reducible refine Arr.alloc ?_ _ | with_reducible refine Box.drew ?_ | with_reducible refine Box.drewN ?_ _ | with_reducible refine Box.alloc ?_ _ | with_reducible refine Arr.next ?_ (by assumption) | with_reducible refine Box.next ?_ (by assumption) | refine Arr.oth ?_ (by first | (simp; done) | omega | (simp; omega)) _ | refine Box.oth ?_ (by first | (simp; done) | omega | (simp; omega)) _ | with_reducible exact Arr3.box (by assumption) | with_reducible exact Box3.new _ _ _ _ _ | with_reducible exact Arr3.new _ _ _ _ _ | with_reducible refine Arr3.drew ?_ | with_reducible refine Arr3.drewN ?_ _ | with_reducible refine Arr3.store3 ?_ | with_reducible refine Arr3.alloc ?_ _ | with_reducible refine Box3.drew ?_ | with_reducible refine Box3.drewN ?_ _ | with_reducible refine Box3.alloc ?_ _ | with_reducible refine Arr3.next ?_ (by assumption) | with_reducible refine Box3.next ?_ (by assumption) | refine Arr3.oth ?_ (by first | (simp; done) | omega | (simp; omega)) _ | refine Box3.oth ?_ (by first | (simp; done) | omega | (simp; omega)) _))) (first | (go_at_call 61; refine (HRT.out _).mono ?_; rintro e' v1 ⟨rfl, hv1⟩))
                        all_goals (go_wp2_with fail; go_meet; exact ⟨rfl, by (repeat (first | with_reducible assumption | with_reducible exact Arr.box (by assumption) | with_reducible exact Box.new _ _ _ _ _ _ | with_reducible exact Arr.new _ _ _ _ _ _ | with_reducible refine Arr.drew ?_ | with_reducible refine Arr.drewN ?_ _ | with_reducible refine Arr.store4 ?_ | with_reducible refine Arr.alloc ?_ _ | with_reducible refine Box.drew ?_ | with_reducible refine Box.drewN ?_ _ | with_reducible refine Box.alloc ?_ _ | with_reducible refine Arr.next ?_ (by assumption) | with_reducible refine Box.next ?_ (by assumption) | refine Arr.oth ?_ (by first | (simp; done) | omega | (simp; omega)) _ | refine Box.oth ?_ (by first | (simp; done) | omega | (simp; omega)) _ | with_reducible exact Arr3.box (by assumption) | with_reducible exact Box3.new _ _ _ _ _ | with_reducible exact Arr3.new _ _ _ _ _ | with_reducible refine Arr3.drew ?_ | with_reducible refine Arr3.drewN ?_ _ | with_reducible refine Arr3.store3 ?_ | with_reducible refine Arr3.alloc ?_ _ | with_reducible refine Box3.drew ?_ | with_reducible refine Box3.drewN ?_ _ | with_reducible refine Box3.alloc ?_ _ | with_reducible refine Arr3.next ?_ (by assumption) | with_reducible refine Box3.next ?_ (by assumption) | refine Arr3.oth ?_ (by first | (simp; done) | omega | (simp; omega)) _ | refine Box3.oth ?_ (by first | (simp; done) | omega | (simp; omega)) _)), by (repeat (first | with_reducible assumption | with_reducible exact Arr.box (by assumption) | with_reducible exact Box.new _ _ _ _ _ _ | with_reducible exact Arr.new _ _ _ _ _ _ | with_reducible refine Arr.drew ?_ | with_reducible refine Arr.drewN ?_ _ | with_reducible refine Arr.store4 ?_ | with_reducible refine Arr.alloc ?_ _ | with_reducible refine Box.drew ?_ | with_reducible refine Box.drewN ?_ _ | with_reducible refine Box.alloc ?_ _ | with_reducible refine Arr.next ?_ (by assumption) | with_reducible refine Box.next ?_ (by assumption) | refine Arr.oth ?_ (by first | (simp; done) | omega | (simp; omega)) _ | refine Box.oth ?_ (by first | (simp; done) | omega | (simp; omega)) _ | with_reducible exact Arr3.box (by assumption) | with_reducible exact Box3.new _ _ _ _ _ | with_reducible exact Arr3.new _ _ _ _ _ | with_reducible refine Arr3.drew ?_ | with_reducible refine Arr3.drewN ?_ _ | with_reducible refine Arr3.store3 ?_ | with_reducible refine Arr3.alloc ?_ _ | with_reducible refine Box3.drew ?_ | with_reducible refine Box3.drewN ?_ _ | with_reducible refine Box3.alloc ?_ _ | with_reducible refine Arr3.next ?_ (by assumption) | with_reducible refine Box3.next ?_ (by assumption) | refine Arr3.oth ?_ (by first | (simp; done) | omega | (simp; omega)) _ | refine Box3.oth ?_ (by first | (simp; done) | omega | (simp; omega)) _)), RowF.next HR3.out (by (repeat' (first | with_reducible exact Below.refl _ _ | with_reducible assumption | with_reducible refine gr_alloc ?_ _ | with_reducible refine gr_drew ?_ | with_reducible refine gr_drewN ?_ _ | with_reducible refine gr_trans ?_ (by assumption) | with_reducible refine gr_set ?_ ?_ _ | (simp; done) | omega | (simp; omega)))), by have hU3 := HU3.out; (repeat' (first | with_reducible exact Below.refl _ _ | with_reducible assumption | with_reducible refine gr_alloc ?_ _ | with_reducible refine gr_drew ?_ | with_reducible refine gr_drewN ?_ _ | with_reducible refine gr_trans ?_ (by assumption) | with_reducible refine gr_set ?_ ?_ _ | (simp; done) | omega | (simp; omega)))⟩)
                      case rest =>
                        obtain ⟨rfl, A4, Q4, R4, U4⟩ := hcut
                        generalize hww : wc = w4 at *
                        clear hww c0 c1 c2 c3 q0 q1 q2 A3 Q3 HR3 HU3 HQ HRT
                        obtain ⟨_, c0, c1, c2, c3, _⟩ := id A4
                        have HR4 := hid R4; have HU4 := hid U4; have HQ4 := hid Q4
                        clear R4 U4 Q4
                        cases bb with
                        | false =>
                          go_wp2_with fail
                          go_roundw
                          case rel => exact ⟨jd + 1, d + 1, rfl, by rw [Hd.out]; push_cast; omega, by have := Hd.out; push_cast; omega, by rw [hrt.out]; exact rowF_skip rfl HR4.out, HQ4.out, HU4.out⟩
                          case measure => simp [intOf]; omega
                        | true =>
                          have hs4 : w.heap.size + 1 ≤ w4.heap.size := HQ4.out.lt
                          go_wp2_with (at_builtin; refine app_f rfl _ _ rfl (w.heap.size + 1) rfl HR4.out rfl hlen hs4 ?_)
                          intro v' w6 hrow hgrow
                          have hU6 := RowF.grown (W := w) (RowF.next HR4.out (gr_alloc (Below.refl _ _) _)) (gr_alloc HU4.out _) hgrow (by omega)
                          have hA6 := Arr3.keptF (HQ4.out.alloc _) HR4.out hgrow (by omega)
                          go_wp2_with fail
                          go_roundw
                          case rel => exact ⟨jd + 1, d + 1, rfl, by rw [Hd.out]; push_cast; omega, by have := Hd.out; push_cast; omega, by rw [hrt.out]; exact rowF_take rfl (by simpa only [List.append_assoc] using hrow), hA6, hU6⟩
                          case measure => simp [intOf]; omega
                    · have hj : jd = (2 * n + 1).toNat := by have := Hd.out; omega
                      subst hj
                      have hR := HR1.out; have hA := HA.out; have hU := HU.out
                      go_wp2_with fail
                      go_roundw
                      case rel => exact ⟨jg + 1, g + 1, rfl, by rw [Hg.out]; push_cast; omega, by have := Hg.out; push_cast; omega, by rw [Hg.out] at hR; simpa [t4, t3, t2, List.append_assoc] using hR, hA, hU⟩
                      case measure => simp [intOf]; omega
                · have hj : jg = (2 * n + 1).toNat := by have := Hg.out; omega
                  subst hj
                  have hR := HR1.out; have hA := HA.out; have hU := HU.out
                  go_wp2_with fail
                  go_roundw
                  case rel => exact ⟨je + 1, e + 1, rfl, by rw [He.out]; push_cast; omega, by have := He.out; push_cast; omega, by rw [He.out] at hR; simpa [t4, t3, t2, List.append_assoc] using hR, hA, hU⟩
                  case measure => simp [intOf]; omega
            · have hj : je = (2 * n + 1).toNat := by have := He.out; omega
              subst hj
              have hR := HR1.out; have hA := HA.out; have hU := HU.out
              go_wp2_with fail
              go_roundw
              case rel => exact ⟨ja + 1, a + 1, rfl, by rw [Ha.out]; push_cast; omega, by have := Ha.out; push_cast; omega, by rw [Ha.out] at hR; simpa [t4, t3, t2, List.append_assoc] using hR, hA, hU⟩
              case measure => simp [intOf]; omega
        · have hj : ja = (2 * n + 1).toNat := by have := Ha.out; omega
          subst hj
          have hR := HR1.out; have hA := HA.out; have hU := HU.out
          obtain ⟨va, cap, rfl⟩ := hR.val
          go_wp2_with fail
          go_ret2
          exact FlsOut.of rfl (hR.base (by omega)) hU
  · have hR : R = k := by rw [HK.out, if_neg hk]
    subst hR
    have hk' : (R == 0) = false := by simpa using hk
    have HKK := hid hk
    clear hk
    go_wp2_with fail
    go_ret2
    exact ⟨_, rfl, .inl ⟨rfl, by rw [if_neg HKK.out]⟩, U2⟩

end Go.Proofs.Ytehbkmohfipmgaa

/- Draws: the source of numbers. -/
namespace Go.Proofs.Ytehbkmohfipmgaa
open Go.ChangeShapes Go.WideShapes Go.ChangeAt Go.RowKit

theorem below_drewN {n : Nat} {w w' : World} (h : Below n w w') (m : Nat) : Below n w (w'.drewN m) := ⟨h.os, h.tape, h.output, h.size, h.block⟩
theorem i64d {n : Int} (h : -1000000000000000000 ≤ n ∧ n ≤ 1000000000000000000) : IntKind.i64.wrap n = n := IntWalk.i64_in n (by omega)
/-- Block k alone may have turned. -/
structure Gk (k : Nat) (w w' : World) : Prop where
  os : w'.os = w.os
  tape : w'.tape = w.tape
  output : w'.output = w.output
  size : w.heap.size ≤ w'.heap.size
  block : ∀ b, b < w.heap.size → b ≠ k → w'.heap[b]? = w.heap[b]?
theorem Gk.refl (k : Nat) (w : World) : Gk k w w := ⟨rfl, rfl, rfl, Nat.le_refl _, fun _ _ _ => rfl⟩
theorem Gk.trans {k : Nat} {u v w : World} (h : Gk k u v) (h' : Gk k v w) : Gk k u w :=
  ⟨h'.os.trans h.os, h'.tape.trans h.tape, h'.output.trans h.output, Nat.le_trans h.size h'.size, fun b hb hk => (h'.block b (Nat.lt_of_lt_of_le hb h.size) hk).trans (h.block b hb hk)⟩
theorem Gk.below {k : Nat} {u v w : World} (h : Gk k u v) (hb : Below v.heap.size v w) : Gk k u w :=
  h.trans ⟨hb.os, hb.tape, hb.output, hb.size, fun b hl _ => hb.block b hl⟩
theorem Gk.set {k : Nat} {u v : World} (h : Gk k u v) {p : Addr} (hp : p.block = k) (x : Value) : Gk k u (v.setCell p x) := by
  refine ⟨h.os, h.tape, h.output, by rw [World.size_setCell]; exact h.size, fun b hb hk => ?_⟩
  rw [← h.block b hb hk]
  have := (Below.refl v.heap.size v)
  exact Below.heap_setCell _ _ _ b (by rw [hp]; exact hk)
theorem Gk.out {k : Nat} {u v w : World} (hb : Below u.heap.size u v) (h : Gk k v w) (hk : u.heap.size ≤ k) : Below u.heap.size u w :=
  ⟨h.os.trans hb.os, h.tape.trans hb.tape, h.output.trans hb.output, Nat.le_trans hb.size h.size, fun b hl => (h.block b (Nat.lt_of_lt_of_le hl hb.size) (by omega)).trans (hb.block b hl)⟩
theorem Gk.cell {k : Nat} {u v : World} (h : Gk k u v) {p : Addr} (hp : p.block < u.heap.size) (hk : p.block ≠ k) : v.cell? p = u.cell? p := World.cell?_of_block (h.block _ hp hk)
theorem Gk.frozen {k : Nat} {u v : World} (h : Gk k u v) {p : Addr} (hp : p.block < u.heap.size) (hk : p.block ≠ k) : v.frozen? p = u.frozen? p := World.frozen?_of_block (h.block _ hp hk)
theorem Arr.gk {k j : Nat} {u v : World} {a b c d : Int} (hA : Arr u j a b c d) (h : Gk k u v) (hk : j ≠ k) : Arr v j a b c d :=
  ⟨Nat.lt_of_lt_of_le hA.lt h.size, (h.cell (p := ⟨j, 0, none⟩) hA.lt hk).trans hA.c0, (h.cell (p := ⟨j, 1, none⟩) hA.lt hk).trans hA.c1, (h.cell (p := ⟨j, 2, none⟩) hA.lt hk).trans hA.c2, (h.cell (p := ⟨j, 3, none⟩) hA.lt hk).trans hA.c3,
    (h.frozen (p := ⟨j, 0, none⟩) hA.lt hk).trans hA.f0, (h.frozen (p := ⟨j, 1, none⟩) hA.lt hk).trans hA.f1, (h.frozen (p := ⟨j, 2, none⟩) hA.lt hk).trans hA.f2, (h.frozen (p := ⟨j, 3, none⟩) hA.lt hk).trans hA.f3⟩

/-- Block k is a source of numbers over bytes. -/
structure Src (w : World) (k : Nat) (a : Option Addr) (len cap : Nat) (zs : List Int) : Prop where
  row : IsRow .u8 w a len cap zs
  apart : ∀ x, a = some x → zs ≠ [] → x.block < k
  lt : k < w.heap.size
  code : w.cell? ⟨k, 0, none⟩ = some (.slice a len cap)
  mark : ∃ n : Int, 0 ≤ n ∧ n ≤ len ∧ w.cell? ⟨k, 1, none⟩ = some (.int .i64 n)
  hash : ∃ n : Int, w.cell? ⟨k, 2, none⟩ = some (.int .u64 n)
  f0 : w.frozen? ⟨k, 0, none⟩ = false
  f1 : w.frozen? ⟨k, 1, none⟩ = false
  f2 : w.frozen? ⟨k, 2, none⟩ = false
theorem row_gk {k : Nat} {w w' : World} {a : Option Addr} {len cap : Nat} {zs : List Int} (h : IsRow .u8 w a len cap zs) (ha : ∀ x, a = some x → zs ≠ [] → x.block < k) (hg : Gk k w w') : IsRow .u8 w' a len cap zs := by
  rcases h with h | ⟨x, h1, h2, h3, h4, h5, h6⟩
  · exact .inl h
  · refine .inr ⟨x, h1, h2, h3, h4, fun i hi => ?_, h6⟩
    have hb : (x.add i).block = x.block := by unfold Addr.add; split <;> rfl
    refine (hg.cell (World.block_lt_of_cell? w _ (h5 i hi)) ?_).trans (h5 i hi)
    have := ha x h1 (by rintro rfl; simp at hi)
    omega
theorem Src.below {w w' : World} {k : Nat} {a : Option Addr} {len cap : Nat} {zs : List Int} (h : Src w k a len cap zs) (hb : Below w.heap.size w w') : Src w' k a len cap zs := by
  have hg : ∀ o, w'.cell? ⟨k, o, none⟩ = w.cell? ⟨k, o, none⟩ := fun o => hb.cell (p := ⟨k, o, none⟩) h.lt
  have hf : ∀ o, w'.frozen? ⟨k, o, none⟩ = w.frozen? ⟨k, o, none⟩ := fun o => hb.frozen (p := ⟨k, o, none⟩) h.lt
  exact ⟨row_gk h.row h.apart ((Gk.refl k w).below hb), h.apart, Nat.lt_of_lt_of_le h.lt hb.size, (hg 0).trans h.code,
    by obtain ⟨n, h0, h1, h2⟩ := h.mark; exact ⟨n, h0, h1, (hg 1).trans h2⟩, by obtain ⟨n, h0⟩ := h.hash; exact ⟨n, (hg 2).trans h0⟩, (hf 0).trans h.f0, (hf 1).trans h.f1, (hf 2).trans h.f2⟩
theorem Src.set1 {w : World} {k : Nat} {a : Option Addr} {len cap : Nat} {zs : List Int} (h : Src w k a len cap zs) (n : Int) (h0 : 0 ≤ n) (h1 : n ≤ len) : Src (w.setCell ⟨k, 1, none⟩ (.int .i64 n)) k a len cap zs := by
  have hg : Gk k w (w.setCell ⟨k, 1, none⟩ (.int .i64 n)) := (Gk.refl k w).set rfl _
  obtain ⟨m, _, _, hm⟩ := h.mark
  obtain ⟨q, hq⟩ := h.hash
  exact ⟨row_gk h.row h.apart hg, h.apart, Nat.lt_of_lt_of_le h.lt hg.size, (World.cell?_setCell_other _ _ _ _ (ne_off (by decide))).trans h.code,
    ⟨n, h0, h1, World.cell?_setCell_same' _ _ _ (by rw [hm]; rfl)⟩, ⟨q, (World.cell?_setCell_other _ _ _ _ (ne_off (by decide))).trans hq⟩, (World.frozen?_setCell _ _ _ _).trans h.f0, (World.frozen?_setCell _ _ _ _).trans h.f1, (World.frozen?_setCell _ _ _ _).trans h.f2⟩
theorem Src.set2 {w : World} {k : Nat} {a : Option Addr} {len cap : Nat} {zs : List Int} (h : Src w k a len cap zs) (n : Int) : Src (w.setCell ⟨k, 2, none⟩ (.int .u64 n)) k a len cap zs := by
  have hg : Gk k w (w.setCell ⟨k, 2, none⟩ (.int .u64 n)) := (Gk.refl k w).set rfl _
  obtain ⟨m, h0, h1, hm⟩ := h.mark
  obtain ⟨q, hq⟩ := h.hash
  exact ⟨row_gk h.row h.apart hg, h.apart, Nat.lt_of_lt_of_le h.lt hg.size, (World.cell?_setCell_other _ _ _ _ (ne_off (by decide))).trans h.code,
    ⟨m, h0, h1, (World.cell?_setCell_other _ _ _ _ (ne_off (by decide))).trans hm⟩, ⟨n, World.cell?_setCell_same' _ _ _ (by rw [hq]; rfl)⟩, (World.frozen?_setCell _ _ _ _).trans h.f0, (World.frozen?_setCell _ _ _ _).trans h.f1, (World.frozen?_setCell _ _ _ _).trans h.f2⟩

theorem wrapu_bd (n : Int) : 0 ≤ IntKind.u64.wrap n ∧ IntKind.u64.wrap n ≤ 18446744073709551615 := by
  rw [IntKind.wrap_u64]; omega
theorem and24 (E : Int) (h : 0 ≤ E ∧ E ≤ 18446744073709551615) : 0 ≤ bits BinOp.and IntKind.u64 E 16777215 ∧ bits BinOp.and IntKind.u64 E 16777215 ≤ 16777215 := by
  have h1 := bits_and_u64_nat E.toNat 16777215 (by omega) (by omega)
  rw [Int.toNat_of_nonneg h.1] at h1
  have h2 : E.toNat &&& 16777215 ≤ 16777215 := Nat.and_le_right
  have h3 : bits BinOp.and IntKind.u64 E 16777215 = ((E.toNat &&& 16777215 : Nat) : Int) := h1
  omega
theorem byte_bd (z : Int) (h : (Lit.int .u8 z).wf = true) : 0 ≤ z ∧ z ≤ 255 := by
  have h0 : IntKind.u8.min = 0 := rfl
  have h1 : IntKind.u8.max = 255 := rfl
  simp only [Lit.wf, h0, h1, Bool.and_eq_true, decide_eq_true_eq] at h
  exact h
theorem getD_wf {zs : List Int} (h : ∀ n ∈ zs, (Lit.int .u8 n).wf = true) (i : Nat) (hi : i < zs.length) : (Lit.int .u8 (zs.getD i 0)).wf = true := by
  refine h _ ?_
  simp [hi]
/-- What a draw of a number from 0 to n - 1 leaves. -/
def NextPost (k : Nat) (a : Option Addr) (len cap : Nat) (zs : List Int) (n : Int) (w : World) (e : Ending) (w' : World) : Prop :=
  ∃ x : Int, e = .returned (.int .i64 x) ∧ 0 ≤ x ∧ (x < n ∨ x = 0) ∧ Src w' k a len cap zs ∧ Gk k w w'

set_option maxRecDepth 100000 in
set_option maxHeartbeats 1000000 in
theorem next_any (k : Nat) (a : Option Addr) (len cap : Nat) (zs : List Int) (n : Int) (w : World) (hS : Src w k a len cap zs) :
    Calls Try.prog 36 #[.pointer (some ⟨k, 0, none⟩), .int .i64 n] w (NextPost k a len cap zs n w) := by
  have HS := hid hS
  by_cases hn : n < 1
  · clear hS
    go_enter Try.func36, Try.ntmps36
    go_wp2
    go_ret
    exact ⟨0, rfl, Int.le_refl _, .inr rfl, HS.out, Gk.refl _ _⟩
  · have hl := hS.lt
    obtain ⟨h, hh⟩ := hS.hash
    obtain ⟨m, hm0, hm1, hm⟩ := hS.mark
    have hc := hS.code
    have f1 := hS.f1
    have f2 := hS.f2
    clear hS
    have hn' : 1 ≤ n := by omega
    go_enter Try.func36, Try.ntmps36
    go_upto_region 5 with fail
    generalize hH : IntKind.u64.wrap (IntKind.u64.wrap (h * 6364136223846793005) + 1442695040888963407) = H
    have hX := and24 (H / 8589934592) (by have := wrapu_bd (IntKind.u64.wrap (h * 6364136223846793005) + 1442695040888963407); rw [hH] at this; omega)
    generalize bits BinOp.and IntKind.u64 (H / 8589934592) 16777215 = X at hX ⊢
    have S1 := HS.out.set2 H
    have G1 := (Gk.refl k w).set (p := ⟨k, 2, none⟩) rfl (.int .u64 H)
    clear hH hh hm hc f1 f2 HS hl
    generalize w.setCell ⟨k, 2, none⟩ (.int .u64 H) = W1 at S1 G1 ⊢
    obtain ⟨hX0, hX1⟩ := hX
    rw [wr_in (x := X) (by omega)]
    have hl := S1.lt
    obtain ⟨m', hm0', hm1', hm⟩ := S1.mark
    have hc := S1.code
    have f1 := S1.f1
    clear hm0 hm1 m
    have HS := hid S1
    have hrow := S1.row
    have hap := S1.apart
    clear S1
    by_cases hlt : m' < len
    · rcases hrow with ⟨_, hl0, _⟩ | ⟨x, rfl, hlc, hcm, hz, hcell, hwz⟩
      · omega
      · obtain ⟨j, rfl⟩ : ∃ j : Nat, m' = j := ⟨m'.toNat, by omega⟩
        have hcj := hcell j (by omega)
        have hbz := byte_bd (zs.getD j 0) (getD_wf hwz j (by omega))
        generalize zs.getD j 0 = z at hcj hbz
        obtain ⟨hz0, hz1⟩ := hbz
        have hxb := hap x rfl (by rintro rfl; simp at hz; omega)
        have HA := hid hap
        have HW := hid hwz
        clear hcell hwz hap hz
        unfold maxLen at hcm
        go_quiet (fail)
        have S2 := hid (HS.out.below (below_drewN (Below.refl _ W1) nq))
        have G2 := G1.below (below_drewN (Below.refl _ W1) nq)
        have hm2 : (W1.drewN nq).cell? ⟨k, 1, none⟩ = some (.int .i64 j) := hm
        have hc2 : (W1.drewN nq).cell? ⟨k, 0, none⟩ = some (.slice (some x) len cap) := hc
        have hcj2 : (W1.drewN nq).cell? (x.add j) = some (.int .u8 z) := hcj
        clear hm hc hcj f1 HS hl G1
        generalize W1.drewN nq = W2 at S2 G2 hm2 hc2 hcj2 ⊢
        have wq1 : IntKind.i64.wrap (X + z) = X + z := i64d (by omega)
        go_wp2_with fail
        go_quiet (fail)
        clear wq1
        have S3 := S2.out.below (below_drewN (Below.refl _ W2) nq)
        have G3 := G2.below (below_drewN (Below.refl _ W2) nq)
        have hm3 : (W2.drewN nq).cell? ⟨k, 1, none⟩ = some (.int .i64 j) := hm2
        clear hm2 hc2 hcj2 S2 G2
        generalize W2.drewN nq = W3 at S3 G3 hm3 ⊢
        have f3 := S3.f1
        have hl3 := S3.lt
        have S4 := hid (S3.set1 (j + 1) (by omega) (by omega))
        have G4 := G3.set (p := ⟨k, 1, none⟩) rfl (.int .i64 (j + 1))
        have e0 := Int.emod_nonneg (X + z) (show n ≠ 0 by omega)
        have e1 := Int.emod_lt_of_pos (X + z) (show 0 < n by omega)
        go_wp2
        go_ret
        exact ⟨(X + z) % n, rfl, e0, .inl e1, S4.out, G4⟩
    · go_quiet (fail)
      have S2 := hid (HS.out.below (below_drewN (Below.refl _ W1) nq))
      have G2 := G1.below (below_drewN (Below.refl _ W1) nq)
      clear hm hc f1 HS hl G1 hrow hap
      generalize W1.drewN nq = W2 at S2 G2 ⊢
      have e0 := Int.emod_nonneg X (show n ≠ 0 by omega)
      have e1 := Int.emod_lt_of_pos X (show 0 < n by omega)
      go_wp2
      go_ret
      exact ⟨X % n, rfl, e0, .inl e1, S2.out, G2⟩

end Go.Proofs.Ytehbkmohfipmgaa

/- Draws: numbers and forms. -/
namespace Go.Proofs.Ytehbkmohfipmgaa
open Go.ChangeShapes Go.WideShapes Go.ChangeAt Go.RowKit

theorem Src.alloc {w : World} {k : Nat} {a : Option Addr} {len cap : Nat} {zs : List Int} (h : Src w k a len cap zs) (o : Obj) : Src (w.alloc o) k a len cap zs := h.below ((Below.refl _ w).alloc (Nat.le_refl _) o)
theorem Src.up {w : World} {k : Nat} {a : Option Addr} {len cap : Nat} {zs : List Int} (h : Src w k a len cap zs) {p : Addr} (hp : k < p.block) (v : Value) : Src (w.setCell p v) k a len cap zs := by
  have ne : ∀ o, p ≠ (⟨k, o, none⟩ : Addr) := fun o e => by rw [e] at hp; exact Nat.lt_irrefl _ hp
  refine ⟨?_, h.apart, by rw [World.size_setCell]; exact h.lt, (World.cell?_setCell_other _ _ _ _ (ne 0)).trans h.code,
    by obtain ⟨n, h0, h1, h2⟩ := h.mark; exact ⟨n, h0, h1, (World.cell?_setCell_other _ _ _ _ (ne 1)).trans h2⟩, by obtain ⟨n, h0⟩ := h.hash; exact ⟨n, (World.cell?_setCell_other _ _ _ _ (ne 2)).trans h0⟩,
    (World.frozen?_setCell _ _ _ _).trans h.f0, (World.frozen?_setCell _ _ _ _).trans h.f1, (World.frozen?_setCell _ _ _ _).trans h.f2⟩
  rcases h.row with h' | ⟨x, h1, h2, h3, h4, h5, h6⟩
  · exact .inl h'
  · refine .inr ⟨x, h1, h2, h3, h4, fun i hi => ?_, h6⟩
    have hb : (x.add i).block = x.block := by unfold Addr.add; split <;> rfl
    refine (World.cell?_setCell_other _ _ _ _ fun e => ?_).trans (h5 i hi)
    have := h.apart x h1 (by rintro rfl; simp at hi)
    rw [e, hb] at hp
    omega
theorem Gk.alloc {k : Nat} {u v : World} (h : Gk k u v) (o : Obj) : Gk k u (v.alloc o) := h.below ((Below.refl _ v).alloc (Nat.le_refl _) o)
theorem Gk.up {k : Nat} {u v : World} (h : Gk k u v) {p : Addr} (hp : u.heap.size ≤ p.block) (x : Value) : Gk k u (v.setCell p x) :=
  ⟨h.os, h.tape, h.output, by rw [World.size_setCell]; exact h.size, fun b hb hk => by rw [← h.block b hb hk]; exact Below.heap_setCell _ _ _ b (by omega)⟩

/-- A number, a form: whatever they are. -/
def NumPost (k : Nat) (a : Option Addr) (len cap : Nat) (zs : List Int) (w : World) (e : Ending) (w' : World) : Prop :=
  ∃ x : Int, e = .returned (.int .i64 x) ∧ Src w' k a len cap zs ∧ Gk k w w'
def FrmPost (k : Nat) (a : Option Addr) (len cap : Nat) (zs : List Int) (w : World) (e : Ending) (w' : World) : Prop :=
  ∃ p q r s : Int, e = .returned (.agg #[.int .i64 p, .int .i64 q, .int .i64 r, .int .i64 s]) ∧ Src w' k a len cap zs ∧ Gk k w w'

set_option maxHeartbeats 400000 in
theorem pick_any (k : Nat) (a : Option Addr) (len cap : Nat) (zs : List Int) (b m : Nat) (w : World) (hS : Src w k a len cap zs) (hm1 : 1 ≤ m) (hm2 : m ≤ 1000) (hb : b < w.heap.size) (hk : b ≠ k) (hL : ∀ i, i < m → ∃ x : Int, w.cell? ⟨b, i, none⟩ = some (.int .i64 x)) :
    Calls Try.prog 66 #[.pointer (some ⟨k, 0, none⟩), .slice (some ⟨b, 0, none⟩) m m] w (NumPost k a len cap zs w) := by
  have HL := hid hL
  clear hL
  go_enter Try.func66, Try.ntmps66
  go_wp2_with fail
  refine (next_any k a len cap zs _ _ hS).mono ?_
  rintro e w1 ⟨x, rfl, h0, h1, S1, G1⟩
  obtain ⟨j, rfl⟩ : ∃ j : Nat, x = j := ⟨x.toNat, by omega⟩
  have hj : j < m := by omega
  obtain ⟨y, hy⟩ := HL.out j hj
  have hy1 : w1.cell? ⟨b, j, none⟩ = some (.int .i64 y) := (G1.cell (p := ⟨b, j, none⟩) hb hk).trans hy
  have HS := hid S1
  clear hy h1 S1 hS
  go_wp2
  go_ret
  exact ⟨y, rfl, HS.out, G1⟩

set_option maxHeartbeats 400000 in
theorem part_any (k : Nat) (a : Option Addr) (len cap : Nat) (zs : List Int) (n : Int) (w : World) (hS : Src w k a len cap zs) :
    Calls Try.prog 70 #[.pointer (some ⟨k, 0, none⟩), .int .i64 n] w (NumPost k a len cap zs w) := by
  go_enter Try.func70, Try.ntmps70
  go_wp2_with fail
  refine (next_any k a len cap zs _ _ hS).mono ?_
  rintro e w1 ⟨x, rfl, _, _, S1, G1⟩
  have HS := hid S1
  clear S1 hS
  go_wp2
  go_ret
  exact ⟨_, rfl, HS.out, G1⟩

set_option maxHeartbeats 1000000 in
theorem drawOf_any (k : Nat) (a : Option Addr) (len cap : Nat) (zs : List Int) (n : Int) (w : World) (hS : Src w k a len cap zs) :
    Calls Try.prog 85 #[.pointer (some ⟨k, 0, none⟩), .int .i64 n] w (FrmPost k a len cap zs w) := by
  have hl := hS.lt
  have R0 := Arr.new w 0 0 0 0 42
  have S0 := hid (hS.alloc (.cells #[.int .i64 0, .int .i64 0, .int .i64 0, .int .i64 0] 42))
  have G0 := (Gk.refl k w).alloc (.cells #[.int .i64 0, .int .i64 0, .int .i64 0, .int .i64 0] 42)
  clear hS
  go_enter Try.func85, Try.ntmps85
  go_wp2_with fail
  refine (part_any k a len cap zs _ _ S0.out).mono ?_
  rintro e w1 ⟨x1, rfl, S1', G1⟩
  have S1 := hid S1'
  have R1 := R0.gk G1 (by omega)
  have H1 := G0.trans G1
  clear S1' G1 R0 G0 S0
  go_wp2_with fail
  refine (part_any k a len cap zs _ _ S1.out).mono ?_
  rintro e w2 ⟨x2, rfl, S2', G2⟩
  have S2 := hid S2'
  have R2 := R1.gk G2 (by omega)
  have H2 := H1.trans G2
  clear S2' G2 R1 H1 S1
  go_wp2_with fail
  refine (part_any k a len cap zs _ _ S2.out).mono ?_
  rintro e w3 ⟨x3, rfl, S3', G3⟩
  have S3 := hid S3'
  have R3 := R2.gk G3 (by omega)
  have H3 := H2.trans G3
  clear S3' G3 R2 H2 S2
  go_wp2_with fail
  refine (part_any k a len cap zs _ _ S3.out).mono ?_
  rintro e w4 ⟨x4, rfl, S4', G4⟩
  have S4 := hid S4'
  have R4 := R3.gk G4 (by omega)
  have H4 := H3.trans G4
  clear S4' G4 R3 H3 S3
  obtain ⟨_, r0, r1, r2, r3, f0, f1, f2, f3⟩ := id R4
  go_wp2_with fail
  refine bodyPost_ret (res_A1 (e := 2) rfl Try.underlying42 (by kernel_rfl) rfl (by (repeat (first | with_reducible assumption | with_reducible exact Arr.box (by assumption) | with_reducible apply Arr.drew | with_reducible apply Arr.drewN | with_reducible refine Arr.store4 ?_ | with_reducible apply Arr.alloc | with_reducible refine Box.drew ?_ | with_reducible refine Box.drewN ?_ _ | with_reducible refine Box.alloc ?_ _ | refine Arr.oth ?_ (by first | (simp; done) | omega | (simp; omega)) _ | refine Box.oth ?_ (by first | (simp; done) | omega | (simp; omega)) _)))) rfl ?_
  exact ⟨_, _, _, _, rfl, (((S4.out.up (by simpa using hl) _).up (by simpa using hl) _).up (by simpa using hl) _).up (by simpa using hl) _, (((H4.up (by simp) _).up (by simp) _).up (by simp) _).up (by simp) _⟩

end Go.Proofs.Ytehbkmohfipmgaa

/- Chapter 1: reversed forms, products, sums. -/
namespace Go.Proofs.Ytehbkmohfipmgaa
open Go.RowKit



end Go.Proofs.Ytehbkmohfipmgaa

/- Chapter 1: products of matrices. -/
namespace Go.Proofs.Ytehbkmohfipmgaa
open Go.RowKit









end Go.Proofs.Ytehbkmohfipmgaa
