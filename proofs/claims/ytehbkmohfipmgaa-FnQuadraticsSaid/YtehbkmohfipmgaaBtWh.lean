/- Chapter 10: OrderOfQuadratic by the model. -/
import Derived.Test.YtehbkmohfipmgaaBtWg
namespace Go.Proofs.Ytehbkmohfipmgaa
open Go.RowKit

set_option maxHeartbeats 400000 in
theorem l10Unit2_any (a b c : Int) (w : World) : Calls Try.prog 57 #[.agg #[.int .i64 a, .int .i64 b, .int .i64 c]] w fun e w' => e = .returned (.bool (a == 1)) ∧ Below w.heap.size w w' := by
  go_enter Try.func57, Try.ntmps57
  go_wp2
  go_ret
  exact ⟨rfl, by (repeat' (first | with_reducible exact Below.refl _ _ | with_reducible assumption | with_reducible refine gr_alloc ?_ _ | with_reducible refine gr_drew ?_ | with_reducible refine gr_drewN ?_ _ | with_reducible refine gr_trans ?_ (by assumption) | with_reducible refine gr_set ?_ ?_ _ | (simp; done) | omega | (simp; omega)))⟩
theorem unit_pw {D : Int} {c : Qd} (hc : El D c) (k : Nat) : ((pw c k).1 == 1) = decide (pw c k = un D) := by
  rw [Bool.eq_iff_iff]
  simp only [beq_iff_eq, decide_eq_true_eq]
  exact ⟨fun h => el_one (hc.pw k) h, fun h => by rw [h]; rfl⟩

set_option maxRecDepth 100000 in
set_option maxHeartbeats 8000000 in
theorem sOrder_any (a b c : Int) (w : World) : Calls Try.prog 19 #[.agg #[.int .i64 a, .int .i64 b, .int .i64 c]] w fun e w' => e = .returned (.tuple #[.int .i64 (odv a b c), .int .i64 (dc1 a b c)]) ∧ Below w.heap.size w w' := by
  have A0 := Arr3.new w a b c 25
  have U0 := gr_alloc (Below.refl w.heap.size w) (.cells #[.int .i64 a, .int .i64 b, .int .i64 c] 25)
  have hc := fun k W h => sCode1_any k a b c W h
  have h0 : dc1 a b c ≠ 0 → odv a b c = 0 := fun h => if_neg h
  have h1 : dc1 a b c = 0 → ∃ (D : Int) (u : Qd), El D u ∧ (-2000 ≤ D ∧ D ≤ -1) ∧ odv a b c = (od D u : Int) + 1 ∧ (∀ W, Calls Try.prog 44 #[.agg #[.int .i64 a, .int .i64 b, .int .i64 c]] W fun e w' => e = .returned (.agg #[.int .i64 u.1, .int .i64 u.2.1, .int .i64 u.2.2]) ∧ Below W.heap.size W w') := fun h => by
    obtain ⟨k1, k2, k3, k4, k5⟩ := el_red (dc1_0.1 h).2
    exact ⟨dsq (a, b, c), red (a, b, c), k1, ⟨k2, by have := k1.ng; omega⟩, if_pos h, fun W => l10Reduce_any a b c _ W k4 k2 k3⟩
  generalize odv a b c = R at h0 h1 ⊢
  generalize dc1 a b c = k at hc h0 h1 ⊢
  have HC := hid hc; have H0 := hid h0; have H1 := hid h1
  clear hc h0 h1
  go_enter Try.func19, Try.ntmps19
  go_upto_region 1 with fail
  generalize hW : w.alloc (.cells #[.int .i64 a, .int .i64 b, .int .i64 c] 25) = W0 at A0 U0 ⊢
  clear hW
  obtain ⟨_, a0, a1, a2, _⟩ := id A0
  have K := Arr3.new W0 a b c 25
  have A1 := A0.alloc (.cells #[.int .i64 a, .int .i64 b, .int .i64 c] 25)
  have U1 := gr_alloc U0 (.cells #[.int .i64 a, .int .i64 b, .int .i64 c] 25)
  go_wp2_with fail
  refine (HC.out _ _ K.at).mono ?_
  rintro e w1 ⟨rfl, hb1⟩
  have A2 := A1.next hb1
  have U2 := gr_trans U1 hb1
  clear a0 a1 a2 A0 U0 A1 U1 K
  by_cases hk : k = 0
  · obtain ⟨D, u, hu, ⟨d1, d2⟩, hR, k1⟩ := H1.out hk
    obtain ⟨o1, o2, o3⟩ := od_spec hu
    have hob : (od D u : Int) ≤ 9000000 := by
      have : (-D + 1) * (2 * -D + 1) ≤ 2001 * 4001 := Int.mul_le_mul (by omega) (by omega) (by omega) (by omega)
      omega
    have hcall := fun k W => l10Comp_any (pw u k) u D W (hu.pw k) hu d1
    have hun := fun k => unit_pw hu k
    have hun2 := fun k W => l10Unit2_any (pw u k).1 (pw u k).2.1 (pw u k).2.2 W
    have hpws : ∀ k, pw u (k + 1) = cp (pw u k) u := fun k => rfl
    have hpw0 : pw u 0 = u := rfl
    have HK1 := hid k1; have HR := hid hR; have HEL := hid hu; have HO1 := hid o1; have HO2 := hid o2; have HCL := hid hcall; have HUN := hid hun; have HUN2 := hid hun2; have HPS := hid hpws; have HP0 := hid hpw0
    clear hu o1 o2 o3 k1 hR hcall hun hun2 hpws hpw0
    subst hk
    generalize od D u = o at *
    obtain ⟨_, a0, a1, a2, _⟩ := id A2
    obtain ⟨u0, u1, u2⟩ := u
    (try dsimp only at HK1)
    go_wp2_with fail
    refine (HK1.out _).mono ?_
    rintro e w2 ⟨rfl, hb2⟩
    have U3 := gr_trans U2 hb2
    have K5 := Arr3.new w2 u0 u1 u2 25
    have HK5 := hid (K5.alloc (.cells #[.int .i64 u0, .int .i64 u1, .int .i64 u2] 25))
    have HK7 := hid (show Arr3 ((w2.alloc (.cells #[.int .i64 u0, .int .i64 u1, .int .i64 u2] 25)).alloc (.cells #[.int .i64 u0, .int .i64 u1, .int .i64 u2] 25)) (w2.heap.size + 1) u0 u1 u2 from zzn (by simp))
    have HU5 := hid (gr_alloc (gr_alloc U3 (.cells #[.int .i64 u0, .int .i64 u1, .int .i64 u2] 25)) (.cells #[.int .i64 u0, .int .i64 u1, .int .i64 u2] 25))
    have hs2 := U3.size
    clear K5 U3 a0 a1 a2 A2 U2 hb1 hb2 HC HK1
    go_wp2_with fail
    obtain ⟨k5, hk5⟩ : ∃ k5, k5 = w2.heap.size := ⟨_, rfl⟩
    go_loopw [6, 7] (fun s t wr => ∃ i k8 : Nat, s = .int .i64 ((i : Int) + 1) ∧ t = .pointer (some ⟨k8, 0, none⟩) ∧ i ≤ o ∧ w.heap.size ≤ k8 ∧ k8 ≠ w2.heap.size ∧ Arr3 wr k8 (pw (u0, u1, u2) i).1 (pw (u0, u1, u2) i).2.1 (pw (u0, u1, u2) i).2.2 ∧ Arr3 wr w2.heap.size u0 u1 u2 ∧ Below w.heap.size w wr) (fun s _ _ => o + 2 - (intOf s).toNat)
    case atStart => exact ⟨0, w2.heap.size + 1, rfl, rfl, by omega, by omega, by omega, HK7.out, HK5.out, HU5.out⟩
    case round =>
      obtain ⟨i, k8, rfl, rfl, hi, h8, h85, hA, hB, hU⟩ := hrel
      clear HK5 HK7 HU5 hk5
      have hq1 := HUN2.out i
      have hq2 := HUN.out i
      have hq3 := HCL.out i
      rw [← HPS.out i] at hq3
      have hl1 : i < o → pw (u0, u1, u2) i ≠ un D := HO2.out i
      obtain ⟨P2, hP2⟩ : ∃ P, P = pw (u0, u1, u2) (i + 1) := ⟨_, rfl⟩
      have hl2 : pw (u0, u1, u2) i ≠ un D → i ≠ o := fun h e => h (by rw [e]; exact HO1.out)
      rw [hq2] at hq1
      rw [← hP2] at hq3
      have HP2 := hid hP2
      generalize pw (u0, u1, u2) i = P at hA hq1 hq2 hq3 hl1 hl2
      clear hP2 hq2
      obtain ⟨p0, p1, p2⟩ := P
      obtain ⟨z0, z1, z2⟩ := P2
      have hA : Arr3 wr k8 p0 p1 p2 := hA
      generalize hbb : decide ((p0, p1, p2) = un D) = bb at hq1
      have HBB := hid hbb
      have HQ1 := hid hq1; have HQ3 := hid hq3; have HL1 := hid hl1; have HL2 := hid hl2
      obtain ⟨_, a0, a1, a2, _⟩ := id hA
      have HA := hid hA; have HB := hid hB; have HU := hid hU
      clear hq1 hq3 hl1 hl2 hA hB hU hbb
      (try dsimp only at HQ1 HQ3)
      go_wp2_with fail
      refine (HQ1.out _).mono ?_
      rintro e w3 ⟨rfl, hb3⟩
      have A3 := HA.out.next hb3
      have B3 := HB.out.next hb3
      have U3 := gr_trans HU.out hb3
      clear a0 a1 a2 HA HB HU
      obtain ⟨_, a0, a1, a2, _⟩ := id A3
      obtain ⟨_, b0, b1, b2, _⟩ := id B3
      cases bb with
      | true =>
        have he : i = o := by
          rcases Nat.lt_or_ge i o with h | h
          · exact absurd (by simpa using HBB.out) (HL1.out h)
          · omega
        have HI := hid he
        clear he
        go_wp2_with fail
        go_ret2
        exact ⟨by rw [HR.out]; first | rfl | (rw [HI.out]; rfl), U3⟩
      | false =>
        have he : i ≠ o := HL2.out (by simpa using HBB.out)
        have HI := hid he
        clear he
        have hob2 : (i : Int) ≤ 9000000 := by omega
        have K9 := Arr3.new w3 p0 p1 p2 25
        have HB9 := hid (B3.alloc (.cells #[.int .i64 p0, .int .i64 p1, .int .i64 p2] 25))
        have HU9 := hid (gr_alloc U3 (.cells #[.int .i64 p0, .int .i64 p1, .int .i64 p2] 25))
        have HK9 := hid K9
        have hb5 := B3.lt; have hs9 := U3.size
        clear K9 U3
        go_wp2_with fail
        refine (HQ3.out _).mono ?_
        rintro e w9 ⟨rfl, hb9⟩
        have K10 := HK9.out.next hb9
        have B10 := HB9.out.next hb9
        have U10 := gr_trans HU9.out hb9
        obtain ⟨_, k0, k1, k2, f0, f1, f2⟩ := id K10
        go_wp2_with fail
        go_roundw
        case rel => exact ⟨i + 1, w3.heap.size, by push_cast; rfl, rfl, by have := HI.out; omega, hs9, by omega, by rw [← HP2.out]; exact Arr3.set33q K10, Arr3.set33p B10 (by omega), gr_set (gr_set (gr_set U10 (by show _ ≤ w3.heap.size; omega) _) (by show _ ≤ w3.heap.size; omega) _) (by show _ ≤ w3.heap.size; omega) _⟩
        case measure => have := HI.out; simp [intOf]; omega
  · have hk' : (k == 0) = false := by simpa using hk
    have HKK := hid hk
    have hR := H0.out hk
    clear hk
    subst hR
    go_wp2
    go_ret2
    exact ⟨rfl, by (repeat' (first | with_reducible exact Below.refl _ _ | with_reducible assumption | with_reducible refine gr_alloc ?_ _ | with_reducible refine gr_drew ?_ | with_reducible refine gr_drewN ?_ _ | with_reducible refine gr_trans ?_ (by assumption) | with_reducible refine gr_set ?_ ?_ _ | (simp; done) | omega | (simp; omega)))⟩

end Go.Proofs.Ytehbkmohfipmgaa
