/- Chapter 10: compositions by the model. -/
import Derived.Test.YtehbkmohfipmgaaBtZz
import Derived.Test.YtehbkmohfipmgaaBtZy
namespace Go.Proofs.Ytehbkmohfipmgaa
open Go.RowKit

theorem tmod_ex {n m : Int} (_ : 1 ≤ m) : (n.tmod m = 0 → ∃ l, n = m * l) ∧ (∀ l, n = m * l → n.tmod m = 0) := by
  refine ⟨fun h => ?_, fun l hl => Int.tmod_eq_zero_of_dvd ⟨l, hl⟩⟩
  obtain ⟨l, hl⟩ := Int.dvd_of_tmod_eq_zero h
  exact ⟨l, hl⟩

set_option maxRecDepth 100000 in
set_option maxHeartbeats 4000000 in
theorem l10Comp_any (q r : Qd) (D : Int) (w : World) (hq : El D q) (hr : El D r) (hD : -2000 ≤ D) : Calls Try.prog 43 #[.agg #[.int .i64 q.1, .int .i64 q.2.1, .int .i64 q.2.2], .agg #[.int .i64 r.1, .int .i64 r.2.1, .int .i64 r.2.2]] w fun e w' => e = .returned (.agg #[.int .i64 ((cp q r).1), .int .i64 ((cp q r).2.1), .int .i64 ((cp q r).2.2)]) ∧ Below w.heap.size w w' := by
  obtain ⟨q0, q1, q2⟩ := q
  obtain ⟨⟨a1, a2⟩, ⟨b1, b2⟩, ⟨e1, e2⟩⟩ := el_bd hq hD
  have a1 : 1 ≤ q0 := a1
  have a2 : q0 ≤ 26 := a2
  have b1 : -26 ≤ q1 := b1
  have b2 : q1 ≤ 26 := b2
  have e2 : q2 ≤ 700 := e2
  have e1 : 1 ≤ q2 := e1
  obtain ⟨n, hn⟩ : ∃ n : Nat, (n : Int) = q0 := ⟨q0.toNat, by omega⟩
  have c1 := fun W => l10Prime_any r n D W hr hD (by omega) (by omega)
  rw [hn] at c1
  have hqd : dsq (q0, q1, q2) = D := hq.ds
  have hdq : dq q0 q1 q2 = D := by
    have h1 := mulb (x := q1) (y := q1) (A := 26) (B := 26) (by omega) (by omega)
    have h2 := mulb (x := q0) (y := q2) (A := 26) (B := 700) (by omega) (by omega)
    have h3 : 4 * q0 * q2 = 4 * (q0 * q2) := Int.mul_assoc _ _ _
    rw [dq_in (by omega) (by omega)]
    exact hqd
  have c2 := fun W => sQd_any q0 q1 q2 W
  rw [hdq] at c2
  have hD0 := hq.ng
  have HQ := hid hq; have HR := hid hr
  have HF := hid (fun u0 u1 u2 m k l he hg hu hm hm' hb => comp_fin (D := D) (q0 := q0) (q1 := q1) (q2 := q2) (u0 := u0) (u1 := u1) (u2 := u2) (m := m) (r := r) hq hr hD he hg hu k l hm hm' hb)
  generalize cp (q0, q1, q2) r = RS at HF ⊢
  obtain ⟨r0, r1, r2⟩ := r
  have C1 := hid c1; have C2 := hid c2
  have A0 := ((Arr3.new w q0 q1 q2 25).alloc (.cells #[.int .i64 r0, .int .i64 r1, .int .i64 r2] 25)).alloc (.cells #[.int .i64 0, .int .i64 0, .int .i64 0] 25)
  have R0 := (Arr3.new (w.alloc (.cells #[.int .i64 q0, .int .i64 q1, .int .i64 q2] 25)) r0 r1 r2 25).alloc (.cells #[.int .i64 0, .int .i64 0, .int .i64 0] 25)
  have B0 := Arr3.new ((w.alloc (.cells #[.int .i64 q0, .int .i64 q1, .int .i64 q2] 25)).alloc (.cells #[.int .i64 r0, .int .i64 r1, .int .i64 r2] 25)) 0 0 0 25
  have U0 := gr_alloc (gr_alloc (gr_alloc (Below.refl w.heap.size w) (.cells #[.int .i64 q0, .int .i64 q1, .int .i64 q2] 25)) (.cells #[.int .i64 r0, .int .i64 r1, .int .i64 r2] 25)) (.cells #[.int .i64 0, .int .i64 0, .int .i64 0] 25)
  simp only [World.size_alloc] at R0 B0
  clear c1 c2 hq hr hdq hqd hn
  dsimp only
  go_enter Try.func43, Try.ntmps43
  go_upto_region 1 with fail
  generalize hW : ((w.alloc (.cells #[.int .i64 q0, .int .i64 q1, .int .i64 q2] 25)).alloc (.cells #[.int .i64 r0, .int .i64 r1, .int .i64 r2] 25)).alloc (.cells #[.int .i64 0, .int .i64 0, .int .i64 0] 25) = W0 at A0 R0 B0 U0 ⊢
  clear hW
  obtain ⟨_, a0', a1', a2', _⟩ := id A0
  obtain ⟨_, r0', r1', r2', _⟩ := id R0
  go_wp2_with fail
  refine (C2.out _).mono ?_
  rintro e w1 ⟨rfl, hb1⟩
  have A1 := A0.next hb1
  have R1 := R0.next hb1
  have B1 := B0.next hb1
  have U1 := gr_trans U0 hb1
  clear a0' a1' a2' r0' r1' r2' A0 R0 B0 U0
  obtain ⟨_, a0', a1', a2', _⟩ := id A1
  obtain ⟨_, r0', r1', r2', _⟩ := id R1
  go_wp2_with fail
  refine (C1.out _).mono ?_
  rintro e w2 ⟨⟨u0, u1, u2⟩, rfl, ⟨hE, hg, ⟨hu1, hu2⟩, ⟨hv1, hv2⟩⟩, hb2⟩
  have hE : Eqv (r0, r1, r2) (u0, u1, u2) := hE
  have hg : Int.gcd u0 q0 = 1 := hg
  have hu1 : 1 ≤ u0 := hu1
  have hu2 : u0 ≤ 12000000 := hu2
  have hv1 : -1000000000 ≤ u1 := hv1
  have hv2 : u1 ≤ 1000000000 := hv2
  obtain ⟨t0, ht0, l0, hl0⟩ := middle (q := (q0, q1, q2)) (r := (u0, u1, u2)) hu1 HQ.out.ds (hE.dsq.trans HR.out.ds) hg
  have ht0 : (t0 : Int) < u0 := ht0
  have hl0 : q1 + 2 * q0 * t0 = u1 + 2 * u0 * l0 := hl0
  have HE := hid hE; have HG := hid hg; have HL0 := hid hl0
  have A2 := A1.next hb2
  have R2 := R1.next hb2
  have B2 := B1.next hb2
  have U2 := gr_trans U1 hb2
  clear a0' a1' a2' r0' r1' r2' A1 R1 B1 U1 hb1 hb2 hE hg hl0
  dsimp only at *
  obtain ⟨_, x0, x1, x2, _⟩ := id A2
  obtain ⟨_, y0, y1, y2, g0, g1, g2⟩ := id R2
  go_wp2_with fail
  have HA3 := hid (show Arr3 _ w.heap.size q0 q1 q2 from ((A2.oth (p := ⟨w.heap.size + 1, 0, none⟩) (by show _ ≠ w.heap.size + 1; omega) (.int .i64 u0)).oth (p := ⟨w.heap.size + 1, 1, none⟩) (by show _ ≠ w.heap.size + 1; omega) (.int .i64 u1)).oth (p := ⟨w.heap.size + 1, 2, none⟩) (by show _ ≠ w.heap.size + 1; omega) (.int .i64 u2))
  have HB3 := hid (show Arr3 _ (w.heap.size + 1 + 1) 0 0 0 from ((B2.oth (p := ⟨w.heap.size + 1, 0, none⟩) (by show _ ≠ w.heap.size + 1; omega) (.int .i64 u0)).oth (p := ⟨w.heap.size + 1, 1, none⟩) (by show _ ≠ w.heap.size + 1; omega) (.int .i64 u1)).oth (p := ⟨w.heap.size + 1, 2, none⟩) (by show _ ≠ w.heap.size + 1; omega) (.int .i64 u2))
  have HR3 := hid (Arr3.set33 (x := u0) (y := u1) (z := u2) R2)
  have HU3 := hid (gr_set (gr_set (gr_set U2 (p := ⟨w.heap.size + 1, 0, none⟩) (by show _ ≤ w.heap.size + 1; omega) (.int .i64 u0)) (p := ⟨w.heap.size + 1, 1, none⟩) (by show _ ≤ w.heap.size + 1; omega) (.int .i64 u1)) (p := ⟨w.heap.size + 1, 2, none⟩) (by show _ ≤ w.heap.size + 1; omega) (.int .i64 u2))
  clear x0 x1 x2 y0 y1 y2 g0 g1 g2 A2 R2 B2 U2
  go_loopw [6] (fun s wr => ∃ k : Nat, ∃ m : Int, s = .int .i64 m ∧ m = q1 + 2 * q0 * (k : Int) ∧ k ≤ t0 ∧ Arr3 wr w.heap.size q0 q1 q2 ∧ Arr3 wr (w.heap.size + 1) u0 u1 u2 ∧ Arr3 wr (w.heap.size + 1 + 1) 0 0 0 ∧ Below w.heap.size w wr) (fun s _ => (1000000000 - intOf s).toNat)
  case atStart => exact ⟨0, q1, rfl, by simp, by omega, HA3.out, HR3.out, HB3.out, HU3.out⟩
  case round =>
    obtain ⟨k, m, rfl, hm, hk, hA, hK, hB, hU⟩ := hrel
    clear HA3 HR3 HB3 HU3
    have hqk : 0 ≤ q0 * (k : Int) ∧ q0 * (k : Int) ≤ 26 * 12000000 := ⟨Int.mul_nonneg (by omega) (by omega), Int.mul_le_mul a2 (by omega) (by omega) (by omega)⟩
    have e2k : 2 * q0 * (k : Int) = 2 * (q0 * (k : Int)) := Int.mul_assoc _ _ _
    have m1 : -26 ≤ m := by omega
    have m2 : m ≤ 700000000 := by omega
    have HM := hid hm
    clear hqk e2k hm
    obtain ⟨x1', x2'⟩ := tmod_ex (n := m - u1) (m := 2 * u0) (by omega)
    have hu0n : ¬ 2 * u0 = 0 := by omega
    obtain ⟨tm1, tm2⟩ := tmod_in (m - u1) (2 * u0) (by omega)
    have HX1 := hid x1'; have HX2 := hid x2'
    clear x1' x2'
    generalize hRM : (m - u1).tmod (2 * u0) = rm at *
    obtain ⟨_, y0, y1, y2, _⟩ := id hK
    obtain ⟨_, z0, z1, z2, _⟩ := id hA
    have HA := hid hA; have HK := hid hK; have HB := hid hB; have HU := hid hU
    clear hA hK hB hU
    cases hb : (rm != 0) with
    | true =>
      have hne' : k ≠ t0 := fun e => by
        have h1 := HX2.out l0 (by have := HM.out; rw [e] at this; have h2 := HL0.out; have : m = u1 + 2 * u0 * l0 := by omega
                                  omega)
        rw [h1] at hb
        exact absurd hb (by decide)
      have HN := hid hne'
      clear hne'
      go_wp2_with fail
      go_roundw
      case rel => exact ⟨k + 1, _, rfl, by rw [HM.out]; push_cast; rw [Int.mul_add]; omega, by have := HN.out; omega, HA.out, HK.out, HB.out, HU.out⟩
      case measure => simp [intOf]; omega
    | false =>
      obtain ⟨l, hl⟩ := HX1.out (by simpa using hb)
      obtain ⟨hp, hs, hrs⟩ := HF.out u0 u1 u2 m k l HE.out HG.out ⟨hu1, hu2⟩ HM.out (by omega) ⟨by omega, by omega⟩
      have hpu := mulb (x := q0) (y := u0) (A := 26) (B := 12000000) (by omega) (by omega)
      have hpu1 : 1 * 1 ≤ q0 * u0 := Int.mul_le_mul a1 hu1 (by omega) (by omega)
      have hmm := mulb (x := m) (y := m) (A := 700000000) (B := 700000000) (by omega) (by omega)
      have c7 := fun W => l10Reduce_any (q0 * u0) m (thd (q0 * u0) m D) D W hp hD hs
      rw [hrs] at c7
      have hthd : thd (q0 * u0) m D = (m * m - D).tdiv (4 * (q0 * u0)) := rfl
      have hbd := Int.natAbs_tdiv_le_natAbs (m * m - D) (4 * (q0 * u0))
      rw [hthd] at c7
      have HLc := hid hl
      clear hp hs hrs hl hthd
      obtain ⟨T, hT⟩ : ∃ T, T = q0 * u0 := ⟨_, rfl⟩
      obtain ⟨MM, hMM⟩ : ∃ M, M = m * m := ⟨_, rfl⟩
      rw [← hT] at c7 hpu hpu1 hbd
      rw [← hMM] at c7 hmm hbd
      have hv21 : -9000000000000000000 ≤ (MM - D).tdiv (4 * T) := by omega
      have hv22 : (MM - D).tdiv (4 * T) ≤ 9000000000000000000 := by omega
      generalize hv2e : (MM - D).tdiv (4 * T) = v2 at c7 hv21 hv22
      have hT' := hT.symm
      have hMM' := hMM.symm
      have t1 : 1 ≤ T := by omega
      have t2 : T ≤ 1000000000 := by omega
      have mm1 : -600000000000000000 ≤ MM := by omega
      have mm2 : MM ≤ 600000000000000000 := by omega
      have hw : IntKind.i64.wrap T = T := by
        have := wr_in (x := T) ⟨by omega, by omega⟩
        simpa only [IntWalk.i64_left] using this
      have hwm : IntKind.i64.wrap MM = MM := by
        have := wr_in (x := MM) ⟨by omega, by omega⟩
        simpa only [IntWalk.i64_left] using this
      have hTn : ¬ 4 * T = 0 := by omega
      have C7 := hid c7
      clear hT hMM c7 hpu hpu1 hmm hbd
      have hB := HB.out
      obtain ⟨_, b0', b1', b2', f0, f1, f2⟩ := id hB
      have hA := HA.out; have hK := HK.out; have hU := HU.out
      go_wp2_with fail
      refine (C7.out _).mono ?_
      rintro e w3 ⟨rfl, hb3⟩
      have B3 := hB.next hb3
      clear b0' b1' b2' f0 f1 f2
      obtain ⟨_, b0', b1', b2', f0, f1, f2⟩ := id B3
      go_wp2_with fail
      refine bodyPost_ret (res_A31 (e := 2) rfl Try.underlying25 (by kernel_rfl) rfl (by (repeat (first | with_reducible assumption | with_reducible exact Arr.box (by assumption) | with_reducible exact Box.new _ _ _ _ _ _ | with_reducible exact Arr.new _ _ _ _ _ _ | with_reducible refine Arr.drew ?_ | with_reducible refine Arr.drewN ?_ _ | with_reducible refine Arr.store4 ?_ | with_reducible refine Arr.alloc ?_ _ | with_reducible refine Box.drew ?_ | with_reducible refine Box.drewN ?_ _ | with_reducible refine Box.alloc ?_ _ | with_reducible refine Arr.next ?_ (by assumption) | with_reducible refine Box.next ?_ (by assumption) | refine Arr.oth ?_ (by first | (simp; done) | omega | (simp; omega)) _ | refine Box.oth ?_ (by first | (simp; done) | omega | (simp; omega)) _ | with_reducible exact Arr3.box (by assumption) | with_reducible exact Box3.new _ _ _ _ _ | with_reducible exact Arr3.new _ _ _ _ _ | with_reducible refine Arr3.drew ?_ | with_reducible refine Arr3.drewN ?_ _ | with_reducible refine Arr3.store3 ?_ | with_reducible refine Arr3.alloc ?_ _ | with_reducible refine Box3.drew ?_ | with_reducible refine Box3.drewN ?_ _ | with_reducible refine Box3.alloc ?_ _ | with_reducible refine Arr3.next ?_ (by assumption) | with_reducible refine Box3.next ?_ (by assumption) | refine Arr3.oth ?_ (by first | (simp; done) | omega | (simp; omega)) _ | refine Box3.oth ?_ (by first | (simp; done) | omega | (simp; omega)) _)))) rfl ?_
      exact ⟨rfl, by (repeat' (first | with_reducible exact Below.refl _ _ | with_reducible assumption | with_reducible refine gr_alloc ?_ _ | with_reducible refine gr_drew ?_ | with_reducible refine gr_drewN ?_ _ | with_reducible refine gr_trans ?_ (by assumption) | with_reducible refine gr_set ?_ ?_ _ | (simp; done) | omega | (simp; omega)))⟩

end Go.Proofs.Ytehbkmohfipmgaa
