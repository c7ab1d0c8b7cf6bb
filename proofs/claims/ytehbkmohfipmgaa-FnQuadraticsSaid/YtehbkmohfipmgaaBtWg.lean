/- Chapter 10: OrderOfQuadratic, mathematics and the program. -/
import Derived.Test.YtehbkmohfipmgaaBtWb
import Derived.Test.YtehbkmohfipmgaaBtZ14
import Derived.Deep.LoopGhost
namespace Go.Proofs.Ytehbkmohfipmgaa
open Go.RowKit

/-- The number of compositions until the unit is reached. -/
noncomputable def od (D : Int) (c : Qd) : Nat := leastOf (fun k => pw c k = un D)
theorem od_spec {D : Int} {c : Qd} (hc : El D c) : pw c (od D c) = un D ∧ (∀ k, k < od D c → pw c k ≠ un D) ∧ (od D c : Int) < (-D + 1) * (2 * -D + 1) := by
  obtain ⟨k, hk, he⟩ := hc.order
  have h := leastOf_spec (p := fun k => pw c k = un D) ⟨k, he⟩
  refine ⟨h.1, fun j hj e => ?_, ?_⟩
  · have h1 := h.2 j e
    have : od D c ≤ j := h1
    omega
  · have h1 : od D c ≤ k := h.2 k he
    omega
theorem qeq_dec (t u : Qd) : qeq t.1 t.2.1 t.2.2 u.1 u.2.1 u.2.2 = decide (t = u) := by
  obtain ⟨a, b, c⟩ := t
  obtain ⟨x, y, z⟩ := u
  rw [Bool.eq_iff_iff]
  simp [qeq, Prod.ext_iff]
theorem Arr3.set33q {w : World} {k : Nat} {a b c x y z : Int} (h : Arr3 w k a b c) : Arr3 (((w.setCell ⟨k, 0, none⟩ (.int .i64 x)).setCell ⟨k, 1, none⟩ (.int .i64 y)).setCell ⟨k, 2, none⟩ (.int .i64 z)) k x y z := ((h.set0 x).set1 y).set2 z
theorem Arr3.set33p {w : World} {k j : Nat} {a b c : Int} {u v x : Value} (h : Arr3 w k a b c) (hk : k ≠ j) : Arr3 (((w.setCell ⟨j, 0, none⟩ u).setCell ⟨j, 1, none⟩ v).setCell ⟨j, 2, none⟩ x) k a b c := ((h.oth hk u).oth hk v).oth hk x
theorem zzn {W : World} {k : Nat} {a b c : Int} {T : TypeId} (hk : k = W.heap.size) : Arr3 (W.alloc (.cells #[.int .i64 a, .int .i64 b, .int .i64 c] T)) k a b c := by subst hk; exact Arr3.new _ _ _ _ _
theorem Arr3.elimz {G : Prop} {w : World} {k : Nat} (h : Arr3 w k 0 0 0) (K : Arr3 w k 0 0 0 → G) : G := K h
noncomputable def odv (a b c : Int) : Int := if dc1 a b c = 0 then (od (dsq (a, b, c)) (red (a, b, c)) : Int) + 1 else 0

set_option maxRecDepth 100000 in
set_option maxHeartbeats 8000000 in
theorem iOrder_any (a b c : Int) (w : World) : Calls Try.prog 18 #[.agg #[.int .i64 a, .int .i64 b, .int .i64 c]] w fun e w' => e = .returned (.tuple #[.int .i64 (odv a b c), .int .i64 (dc1 a b c)]) ∧ Below w.heap.size w w' := by
  have A0 := Arr3.new w a b c 25
  have U0 := gr_alloc (Below.refl w.heap.size w) (.cells #[.int .i64 a, .int .i64 b, .int .i64 c] 25)
  have hc := fun k W h => iCode1_any k a b c W h
  have h0 : dc1 a b c ≠ 0 → odv a b c = 0 := fun h => if_neg h
  have h1 : dc1 a b c = 0 → ∃ (D : Int) (u : Qd), El D u ∧ (-2000 ≤ D ∧ D ≤ -1) ∧ odv a b c = (od D u : Int) + 1 ∧ (∀ W, Calls Try.prog 41 #[.agg #[.int .i64 a, .int .i64 b, .int .i64 c]] W fun e w' => e = .returned (.agg #[.int .i64 u.1, .int .i64 u.2.1, .int .i64 u.2.2]) ∧ Below W.heap.size W w') ∧ (∀ W, Calls Try.prog 51 #[.agg #[.int .i64 a, .int .i64 b, .int .i64 c]] W fun e w' => e = .returned (.int .i64 D) ∧ Below W.heap.size W w') := fun h => by
    obtain ⟨k1, k2, k3, k4, k5⟩ := el_red (dc1_0.1 h).2
    refine ⟨dsq (a, b, c), red (a, b, c), k1, ⟨k2, by have := k1.ng; omega⟩, if_pos h, fun W => reduced_any a b c _ W k4 k2 k3, fun W => ?_⟩
    rw [← k5]
    exact iQd_any a b c W
  generalize odv a b c = R at h0 h1 ⊢
  generalize dc1 a b c = k at hc h0 h1 ⊢
  have HC := hid hc; have H0 := hid h0; have H1 := hid h1
  clear hc h0 h1
  go_enter Try.func18, Try.ntmps18
  go_upto_region 1 with fail
  generalize hW : w.alloc (.cells #[.int .i64 a, .int .i64 b, .int .i64 c] 25) = W0 at A0 U0 ⊢
  clear hW
  obtain ⟨_, a0, a1, a2, _⟩ := id A0
  have K := Arr3.new W0 a b c 25
  have A1 := A0.alloc (.cells #[.int .i64 a, .int .i64 b, .int .i64 c] 25)
  have U1 := gr_alloc U0 (.cells #[.int .i64 a, .int .i64 b, .int .i64 c] 25)
  go_wp2_with fail
  refine (HC.out _ _ K.at).mono ?_
  rintro e w1 ⟨rfl, hb1⟩
  have A2 := A1.next hb1
  have U2 := gr_trans U1 hb1
  clear a0 a1 a2 A0 U0 A1 U1 K
  by_cases hk : k = 0
  · obtain ⟨D, u, hu, ⟨d1, d2⟩, hR, k1, k2⟩ := H1.out hk
    have hel := hu
    obtain ⟨o1, o2, o3⟩ := od_spec hu
    have hob : (od D u : Int) ≤ 9000000 := by
      have : (-D + 1) * (2 * -D + 1) ≤ 2001 * 4001 := Int.mul_le_mul (by omega) (by omega) (by omega) (by omega)
      omega
    have k3 := fun W => unitWith_any D W ⟨d1, d2⟩
    have HK1 := hid k1; have HK2 := hid k2; have HK3 := hid k3; have HR := hid hR; have HEL := hid hel; have HO1 := hid o1; have HO2 := hid o2
    clear hu hel o1 o2 o3 k1 k2 k3 hR
    subst hk
    obtain ⟨_, a0, a1, a2, _⟩ := id A2
    obtain ⟨u0, u1, u2⟩ := u
    obtain ⟨v, hv⟩ : ∃ v, v = un D := ⟨_, rfl⟩
    rw [← hv] at HK3 HO1 HO2
    have HV := hid hv
    clear hv
    obtain ⟨v0, v1, v2⟩ := v
    (try dsimp only at HK1 HK3)
    go_upto_region 4 with fail
    go_cut [5, 6] (fun s5 s6 wx => ∃ k5 k6 : Nat, s5 = .pointer (some ⟨k5, 0, none⟩) ∧ s6 = .pointer (some ⟨k6, 0, none⟩) ∧ w.heap.size ≤ k5 ∧ w.heap.size ≤ k6 ∧ Arr3 wx k5 u0 u1 u2 ∧ Arr3 wx k6 v0 v1 v2 ∧ Below w.heap.size w wx)
    case first =>
      have hz1 := A2.lt
      have zz2 : ∀ W : World, Arr3 ((W.alloc (.cells #[.int .i64 0, .int .i64 0, .int .i64 0] 25)).alloc (.cells #[.int .i64 0, .int .i64 0, .int .i64 0] 25)) (W.heap.size + 1) 0 0 0 := fun W => by
        have := Arr3.new (W.alloc (.cells #[.int .i64 0, .int .i64 0, .int .i64 0] 25)) 0 0 0 25
        simpa only [World.size_alloc] using this
      go_region_held3 (fun W => W.cell? ⟨w.heap.size, 0, none⟩ = some (.int .i64 a) ∧ W.cell? ⟨w.heap.size, 1, none⟩ = some (.int .i64 b) ∧ W.cell? ⟨w.heap.size, 2, none⟩ = some (.int .i64 c)) (refine cells3 ?_ <;> (repeat (first | with_reducible assumption | with_reducible exact Arr.box (by assumption) | with_reducible exact Box.new _ _ _ _ _ _ | with_reducible exact Arr.new _ _ _ _ _ _ | with_reducible refine Arr.drew ?_ | with_reducible refine Arr.drewN ?_ _ | with_reducible refine Arr.store4 ?_ | with_reducible refine Arr.alloc ?_ _ | with_reducible refine Box.drew ?_ | with_reducible refine Box.drewN ?_ _ | with_reducible refine Box.alloc ?_ _ | with_reducible refine Arr.next ?_ (by assumption) | with_reducible refine Box.next ?_ (by assumption) | refine Arr.oth ?_ (by first | (simp; done) | omega | (simp; omega)) _ | refine Box.oth ?_ (by first | (simp; done) | omega | (simp; omega)) _ | with_reducible exact Arr3.box (by assumption) | with_reducible exact Box3.new _ _ _ _ _ | with_reducible exact Arr3.new _ _ _ _ _ | with_reducible refine Arr3.drew ?_ | with_reducible refine Arr3.drewN ?_ _ | with_reducible refine Arr3.store3 ?_ | with_reducible refine Arr3.alloc ?_ _ | with_reducible refine Box3.drew ?_ | with_reducible refine Box3.drewN ?_ _ | with_reducible refine Box3.alloc ?_ _ | with_reducible refine Arr3.next ?_ (by assumption) | with_reducible refine Box3.next ?_ (by assumption) | refine Arr3.oth ?_ (by first | (simp; done) | omega | (simp; omega)) _ | refine Box3.oth ?_ (by first | (simp; done) | omega | (simp; omega)) _))) (first | (go_at_call 41; refine (HK1.out _).mono ?_; rintro e y1 ⟨rfl, hy1⟩; have hs1 := hy1.size; (try simp at hs1)) | (go_at_call 51; refine (HK2.out _).mono ?_; rintro e y2 ⟨rfl, hy2⟩; have hs2 := hy2.size; (try simp at hs2)) | (go_at_call 56; refine (HK3.out _).mono ?_; rintro e y3 ⟨rfl, hy3⟩; have hs3 := hy3.size; (try simp at hs3); (try (refine Arr3.elimz (w := y3) (k := w1.heap.size) ?_ ?_; (focus ((repeat (first | with_reducible exact Arr3.new _ _ _ _ _ | with_reducible exact zz2 _ | with_reducible refine Arr3.alloc ?_ _ | with_reducible refine Arr3.drew ?_ | with_reducible refine Arr3.next ?_ hy3 | with_reducible refine Arr3.next ?_ hy2 | with_reducible refine Arr3.next ?_ hy1)); done)); intro zk0; obtain ⟨_, za0, zb0, zc0, zd0, ze0, zf0⟩ := id zk0)); (try (refine Arr3.elimz (w := y3) (k := w1.heap.size + 1) ?_ ?_; (focus ((repeat (first | with_reducible exact Arr3.new _ _ _ _ _ | with_reducible exact zz2 _ | with_reducible refine Arr3.alloc ?_ _ | with_reducible refine Arr3.drew ?_ | with_reducible refine Arr3.next ?_ hy3 | with_reducible refine Arr3.next ?_ hy2 | with_reducible refine Arr3.next ?_ hy1)); done)); intro zk1; obtain ⟨_, za1, zb1, zc1, zd1, ze1, zf1⟩ := id zk1)); (try (refine Arr3.elimz (w := y3) (k := y1.heap.size) ?_ ?_; (focus ((repeat (first | with_reducible exact Arr3.new _ _ _ _ _ | with_reducible exact zz2 _ | with_reducible refine Arr3.alloc ?_ _ | with_reducible refine Arr3.drew ?_ | with_reducible refine Arr3.next ?_ hy3 | with_reducible refine Arr3.next ?_ hy2 | with_reducible refine Arr3.next ?_ hy1)); done)); intro zk2; obtain ⟨_, za2, zb2, zc2, zd2, ze2, zf2⟩ := id zk2)); (try (refine Arr3.elimz (w := y3) (k := y1.heap.size + 1) ?_ ?_; (focus ((repeat (first | with_reducible exact Arr3.new _ _ _ _ _ | with_reducible exact zz2 _ | with_reducible refine Arr3.alloc ?_ _ | with_reducible refine Arr3.drew ?_ | with_reducible refine Arr3.next ?_ hy3 | with_reducible refine Arr3.next ?_ hy2 | with_reducible refine Arr3.next ?_ hy1)); done)); intro zk3; obtain ⟨_, za3, zb3, zc3, zd3, ze3, zf3⟩ := id zk3)); (try (refine Arr3.elimz (w := y3) (k := y2.heap.size) ?_ ?_; (focus ((repeat (first | with_reducible exact Arr3.new _ _ _ _ _ | with_reducible exact zz2 _ | with_reducible refine Arr3.alloc ?_ _ | with_reducible refine Arr3.drew ?_ | with_reducible refine Arr3.next ?_ hy3 | with_reducible refine Arr3.next ?_ hy2 | with_reducible refine Arr3.next ?_ hy1)); done)); intro zk4; obtain ⟨_, za4, zb4, zc4, zd4, ze4, zf4⟩ := id zk4)); (try (refine Arr3.elimz (w := y3) (k := y2.heap.size + 1) ?_ ?_; (focus ((repeat (first | with_reducible exact Arr3.new _ _ _ _ _ | with_reducible exact zz2 _ | with_reducible refine Arr3.alloc ?_ _ | with_reducible refine Arr3.drew ?_ | with_reducible refine Arr3.next ?_ hy3 | with_reducible refine Arr3.next ?_ hy2 | with_reducible refine Arr3.next ?_ hy1)); done)); intro zk5; obtain ⟨_, za5, zb5, zc5, zd5, ze5, zf5⟩ := id zk5))))
      all_goals (go_wp2_with fail; go_meet; refine ⟨_, _, rfl, rfl, ?_, ?_, ?_, ?_, ?_⟩; (focus omega); (focus omega); (focus (repeat (first | with_reducible assumption | (with_reducible refine zzn ?_; (focus (simp; done))) | with_reducible refine Arr3.alloc ?_ _ | with_reducible refine Arr3.drew ?_ | with_reducible refine Arr3.set33 (a := 0) (b := 0) (c := 0) ?_ | (with_reducible refine Arr3.set33p ?_ ?_; rotate_left 1; (focus omega))))); (focus (repeat (first | with_reducible assumption | (with_reducible refine zzn ?_; (focus (simp; done))) | with_reducible refine Arr3.alloc ?_ _ | with_reducible refine Arr3.drew ?_ | with_reducible refine Arr3.set33 (a := 0) (b := 0) (c := 0) ?_ | (with_reducible refine Arr3.set33p ?_ ?_; rotate_left 1; (focus omega))))); (focus (repeat' (first | with_reducible exact Below.refl _ _ | with_reducible assumption | with_reducible refine gr_alloc ?_ _ | with_reducible refine gr_drew ?_ | with_reducible refine gr_drewN ?_ _ | with_reducible refine gr_trans ?_ (by assumption) | with_reducible refine gr_set ?_ ?_ _ | (simp; done) | omega | (simp; omega)))))
    case rest =>
      obtain ⟨k5, k6, rfl, rfl, h5, h6, K5, K6, U3⟩ := hcut
      clear a0 a1 a2 A2 U2 HK1 HK2 HK3 HC
      have hcall := fun k W => comp_any (pw (u0, u1, u2) k) (u0, u1, u2) D W (HEL.out.pw k) HEL.out d1
      have hneq := fun k W => neq_run (pw (u0, u1, u2) k).1 (pw (u0, u1, u2) k).2.1 (pw (u0, u1, u2) k).2.2 v0 v1 v2 W
      have hqd : ∀ k, qeq (pw (u0, u1, u2) k).1 (pw (u0, u1, u2) k).2.1 (pw (u0, u1, u2) k).2.2 v0 v1 v2 = decide (pw (u0, u1, u2) k = (v0, v1, v2)) := fun k => qeq_dec _ (v0, v1, v2)
      have hpw0 : pw (u0, u1, u2) 0 = (u0, u1, u2) := rfl
      have hpws : ∀ k, pw (u0, u1, u2) (k + 1) = cp (pw (u0, u1, u2) k) (u0, u1, u2) := fun k => rfl
      generalize od D (u0, u1, u2) = o at *
      have HCL := hid hcall; have HNQ := hid hneq; have HQD := hid hqd; have HP0 := hid hpw0; have HPS := hid hpws
      clear hcall hneq hqd hpw0 hpws
      obtain ⟨_, a0, a1, a2, _⟩ := id K5
      obtain ⟨_, b0, b1, b2, _⟩ := id K6
      have HK5 := hid K5; have HK6 := hid K6; have HU3 := hid U3
      have K8 := Arr3.new wc u0 u1 u2 25
      have HK8 := hid K8
      have h5l := K5.lt; have h6l := K6.lt
      have hws := U3.size
      clear K5 K6 U3 K8
      have A0' := HK5.out.alloc (.cells #[.int .i64 u0, .int .i64 u1, .int .i64 u2] 25)
      have HA0 := hid A0'
      have HB0 := hid (HK6.out.alloc (.cells #[.int .i64 u0, .int .i64 u1, .int .i64 u2] 25))
      have HW0 := hid (gr_alloc HU3.out (.cells #[.int .i64 u0, .int .i64 u1, .int .i64 u2] 25))
      clear A0'
      go_wp2_with fail
      go_loopw [7, 8] (fun s t wr => ∃ i k8 : Nat, s = .int .i64 ((i : Int) + 1) ∧ t = .pointer (some ⟨k8, 0, none⟩) ∧ i ≤ o ∧ w.heap.size ≤ k8 ∧ k8 ≠ k5 ∧ k8 ≠ k6 ∧ Arr3 wr k8 (pw (u0, u1, u2) i).1 (pw (u0, u1, u2) i).2.1 (pw (u0, u1, u2) i).2.2 ∧ Arr3 wr k5 u0 u1 u2 ∧ Arr3 wr k6 v0 v1 v2 ∧ Below w.heap.size w wr) (fun s _ _ => o + 2 - (intOf s).toNat)
      case atStart => exact ⟨0, wc.heap.size, rfl, rfl, by omega, hws, by omega, by omega, HK8.out, HA0.out, HB0.out, HW0.out⟩
      case round =>
        obtain ⟨i, k8, rfl, rfl, hi, h8, h85, h86, hA, hB, hC, hU⟩ := hrel
        clear HK5 HK6 HU3 HK8 HA0 HB0 HW0 a0 a1 a2 b0 b1 b2
        have hq1 := HNQ.out i
        have hq2 := HQD.out i
        have hq3 := HCL.out i
        rw [← HPS.out i] at hq3
        have hl1 : i < o → pw (u0, u1, u2) i ≠ (v0, v1, v2) := HO2.out i
        obtain ⟨P2, hP2⟩ : ∃ P, P = pw (u0, u1, u2) (i + 1) := ⟨_, rfl⟩
        have hl2 : pw (u0, u1, u2) i ≠ (v0, v1, v2) → i ≠ o := fun h e => h (by rw [e]; exact HO1.out)
        rw [hq2] at hq1
        rw [← hP2] at hq3
        have HP2 := hid hP2
        generalize pw (u0, u1, u2) i = P at hA hq1 hq2 hq3 hl1 hl2
        clear hP2 hq2
        obtain ⟨p0, p1, p2⟩ := P
        obtain ⟨z0, z1, z2⟩ := P2
        have HQ1 := hid hq1; have HQ3 := hid hq3; have HL1 := hid hl1; have HL2 := hid hl2
        have hA : Arr3 wr k8 p0 p1 p2 := hA
        obtain ⟨_, a0, a1, a2, _⟩ := id hA
        obtain ⟨_, b0, b1, b2, _⟩ := id hB
        obtain ⟨_, c0, c1, c2, _⟩ := id hC
        have HA := hid hA; have HB := hid hB; have HC := hid hC; have HU := hid hU
        clear hq1 hq3 hl1 hl2 hA hB hC hU
        cases hb : decide ((p0, p1, p2) = (v0, v1, v2)) with
        | true =>
          have he : i = o := by
            rcases Nat.lt_or_ge i o with h | h
            · exact absurd (by simpa using hb) (HL1.out h)
            · omega
          have HI := hid he
          have hq1 := HQ1.out
          rw [hb] at hq1
          clear he
          (try dsimp only at hq1)
          go_wp2_with fail
          go_ret2
          exact ⟨by rw [HR.out]; first | rfl | (rw [HI.out]; rfl), HU.out⟩
        | false =>
          have he : i ≠ o := HL2.out (by simpa using hb)
          have HI := hid he
          have hq1 := HQ1.out
          rw [hb] at hq1
          clear he
          (try dsimp only at hq1)
          have hob2 : (i : Int) ≤ 9000000 := by omega
          have K9 := Arr3.new wr p0 p1 p2 25
          have HB9 := hid (HB.out.alloc (.cells #[.int .i64 p0, .int .i64 p1, .int .i64 p2] 25))
          have HC9 := hid (HC.out.alloc (.cells #[.int .i64 p0, .int .i64 p1, .int .i64 p2] 25))
          have HU9 := hid (gr_alloc HU.out (.cells #[.int .i64 p0, .int .i64 p1, .int .i64 p2] 25))
          have HK9 := hid K9
          have hb5 := HB.out.lt; have hb6 := HC.out.lt; have hs9 := HU.out.size
          clear K9
          go_wp2_with fail
          refine (HQ3.out _).mono ?_
          rintro e w9 ⟨rfl, hb9⟩
          have K10 := HK9.out.next hb9
          have B10 := HB9.out.next hb9
          have C10 := HC9.out.next hb9
          have U10 := gr_trans HU9.out hb9
          obtain ⟨_, k0, k1, k2, f0, f1, f2⟩ := id K10
          go_wp2_with fail
          go_roundw
          case rel => exact ⟨i + 1, wr.heap.size, by push_cast; rfl, rfl, by have := HI.out; omega, hs9, by omega, by omega, by rw [← HP2.out]; exact Arr3.set33q K10, Arr3.set33p B10 (by omega), Arr3.set33p C10 (by omega), gr_set (gr_set (gr_set U10 (by show _ ≤ wr.heap.size; omega) _) (by show _ ≤ wr.heap.size; omega) _) (by show _ ≤ wr.heap.size; omega) _⟩
          case measure => have := HI.out; simp [intOf]; omega
  · have hk' : (k == 0) = false := by simpa using hk
    have HKK := hid hk
    have hR := H0.out hk
    clear hk
    subst hR
    go_wp2
    go_ret2
    exact ⟨rfl, by (repeat' (first | with_reducible exact Below.refl _ _ | with_reducible assumption | with_reducible refine gr_alloc ?_ _ | with_reducible refine gr_drew ?_ | with_reducible refine gr_drewN ?_ _ | with_reducible refine gr_trans ?_ (by assumption) | with_reducible refine gr_set ?_ ?_ _ | (simp; done) | omega | (simp; omega)))⟩

end Go.Proofs.Ytehbkmohfipmgaa
