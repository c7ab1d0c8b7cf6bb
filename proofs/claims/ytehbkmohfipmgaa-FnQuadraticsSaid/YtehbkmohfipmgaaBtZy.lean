/- Chapter 10: compositions by the program. -/
import Derived.Test.YtehbkmohfipmgaaBtZ12
import Derived.Deep.RegionHeld3
import Derived.Deep.DeepCutAuto
namespace Go.Proofs.Ytehbkmohfipmgaa
open Go.RowKit

theorem el_sm {D : Int} {t : Qd} (h : El D t) (hD : -2000 ≤ D) : Sm t := by
  obtain ⟨⟨a1, a2⟩, ⟨b1, b2⟩, _⟩ := el_bd h hD
  exact ⟨by omega, by omega, by omega⟩
theorem mul0_ex {n m : Int} (hm : 1 ≤ m) : (mul0 n m = true → ∃ l, n = m * l) ∧ (∀ l, n = m * l → mul0 n m = true) := by
  constructor
  · intro h
    rw [mul0_e hm] at h
    have : n % m = 0 := by simpa using h
    obtain ⟨l, hl⟩ := Int.dvd_of_emod_eq_zero this
    exact ⟨l, hl⟩
  · intro l hl
    rw [mul0_e hm]
    have : n % m = 0 := Int.emod_eq_zero_of_dvd ⟨l, hl⟩
    simpa using this
theorem cells33q {W : World} {i j : Nat} {a b c x y z : Int} (K : Arr3 W i a b c) (L : Arr3 W j x y z) :
    W.cell? ⟨i, 0, none⟩ = some (.int .i64 a) ∧ W.cell? ⟨i, 1, none⟩ = some (.int .i64 b) ∧ W.cell? ⟨i, 2, none⟩ = some (.int .i64 c) ∧ W.cell? ⟨j, 0, none⟩ = some (.int .i64 x) ∧ W.cell? ⟨j, 1, none⟩ = some (.int .i64 y) ∧ W.cell? ⟨j, 2, none⟩ = some (.int .i64 z) := ⟨K.c0, K.c1, K.c2, L.c0, L.c1, L.c2⟩
/-- What the found middle number leads to. -/
theorem comp_fin {D q0 q1 q2 u0 u1 u2 m : Int} {r : Qd} (hq : El D (q0, q1, q2)) (hr : El D r) (hD : -2000 ≤ D) (he : Eqv r (u0, u1, u2)) (hg : Int.gcd u0 q0 = 1) (hu : 1 ≤ u0 ∧ u0 ≤ 12000000) (k l : Int) (hm : m = q1 + 2 * q0 * k) (hm' : m = u1 + 2 * u0 * l) (hb : -1000000000 ≤ m ∧ m ≤ 1000000000) :
    Pos D (q0 * u0, m, thd (q0 * u0) m D) ∧ Sm (q0 * u0, m, thd (q0 * u0) m D) ∧ red (q0 * u0, m, thd (q0 * u0) m D) = cp (q0, q1, q2) r := by
  obtain ⟨⟨a1, a2⟩, _, _⟩ := el_bd hq hD
  have a1 : 1 ≤ q0 := a1
  have a2 : q0 ≤ 26 := a2
  obtain ⟨h1, h2, h3⟩ := unite_cpd (q := (q0, q1, q2)) (r := (u0, u1, u2)) a1 hu.1 hq.ds (he.dsq.trans hr.ds) hq.ng hg k l hm hm' hq.pr (hr.pr.eqv he)
  have hp := mulb (x := q0) (y := u0) (A := 26) (B := 12000000) (by omega) (by omega)
  refine ⟨h1, ⟨?_, hb.1, hb.2⟩, ((h2.right he.symm).cp hq.pr).symm⟩
  show q0 * u0 ≤ 1000000000
  omega

set_option maxRecDepth 100000 in
set_option maxHeartbeats 4000000 in
theorem comp_any (q r : Qd) (D : Int) (w : World) (hq : El D q) (hr : El D r) (hD : -2000 ≤ D) : Calls Try.prog 40 #[.agg #[.int .i64 q.1, .int .i64 q.2.1, .int .i64 q.2.2], .agg #[.int .i64 r.1, .int .i64 r.2.1, .int .i64 r.2.2]] w fun e w' => e = .returned (.agg #[.int .i64 ((cp q r).1), .int .i64 ((cp q r).2.1), .int .i64 ((cp q r).2.2)]) ∧ Below w.heap.size w w' := by
  obtain ⟨q0, q1, q2⟩ := q
  obtain ⟨⟨a1, a2⟩, ⟨b1, b2⟩, ⟨e1, e2⟩⟩ := el_bd hq hD
  have a1 : 1 ≤ q0 := a1
  have a2 : q0 ≤ 26 := a2
  have b1 : -26 ≤ q1 := b1
  have b2 : q1 ≤ 26 := b2
  have e2 : q2 ≤ 700 := e2
  have e1 : 1 ≤ q2 := e1
  obtain ⟨n, hn⟩ : ∃ n : Nat, (n : Int) = q0 := ⟨q0.toNat, by omega⟩
  have c1 := fun W => coprime_any r n D W hr hD (by omega) (by omega)
  rw [hn] at c1
  have hqd : dsq (q0, q1, q2) = D := hq.ds
  have hdq : dq q0 q1 q2 = D := by
    have h1 := mulb (x := q1) (y := q1) (A := 26) (B := 26) (by omega) (by omega)
    have h2 := mulb (x := q0) (y := q2) (A := 26) (B := 700) (by omega) (by omega)
    have h3 : 4 * q0 * q2 = 4 * (q0 * q2) := Int.mul_assoc _ _ _
    rw [dq_in (by omega) (by omega)]
    exact hqd
  have c2 := fun W => iQd_any q0 q1 q2 W
  rw [hdq] at c2
  have hD0 := hq.ng
  have HQ := hid hq; have HR := hid hr
  have HF := hid (fun u0 u1 u2 m k l he hg hu hm hm' hb => comp_fin (D := D) (q0 := q0) (q1 := q1) (q2 := q2) (u0 := u0) (u1 := u1) (u2 := u2) (m := m) (r := r) hq hr hD he hg hu k l hm hm' hb)
  generalize cp (q0, q1, q2) r = RS at HF ⊢
  obtain ⟨r0, r1, r2⟩ := r
  have C1 := hid c1; have C2 := hid c2
  have A0 := ((Arr3.new w q0 q1 q2 25).alloc (.cells #[.int .i64 r0, .int .i64 r1, .int .i64 r2] 25)).alloc (.cells #[.int .i64 0, .int .i64 0, .int .i64 0] 25)
  have R0 := (Arr3.new (w.alloc (.cells #[.int .i64 q0, .int .i64 q1, .int .i64 q2] 25)) r0 r1 r2 25).alloc (.cells #[.int .i64 0, .int .i64 0, .int .i64 0] 25)
  have B0 := Arr3.new ((w.alloc (.cells #[.int .i64 q0, .int .i64 q1, .int .i64 q2] 25)).alloc (.cells #[.int .i64 r0, .int .i64 r1, .int .i64 r2] 25)) 0 0 0 25
  have U0 := gr_alloc (gr_alloc (gr_alloc (Below.refl w.heap.size w) (.cells #[.int .i64 q0, .int .i64 q1, .int .i64 q2] 25)) (.cells #[.int .i64 r0, .int .i64 r1, .int .i64 r2] 25)) (.cells #[.int .i64 0, .int .i64 0, .int .i64 0] 25)
  simp only [World.size_alloc] at R0 B0
  clear c1 c2 hq hr hdq hqd hn
  dsimp only
  go_enter Try.func40, Try.ntmps40
  go_upto_region 1 with fail
  generalize hW : ((w.alloc (.cells #[.int .i64 q0, .int .i64 q1, .int .i64 q2] 25)).alloc (.cells #[.int .i64 r0, .int .i64 r1, .int .i64 r2] 25)).alloc (.cells #[.int .i64 0, .int .i64 0, .int .i64 0] 25) = W0 at A0 R0 B0 U0 ⊢
  clear hW
  obtain ⟨_, a0', a1', a2', _⟩ := id A0
  obtain ⟨_, r0', r1', r2', _⟩ := id R0
  go_wp2_with fail
  refine (C1.out _).mono ?_
  rintro e w1 ⟨⟨u0, u1, u2⟩, rfl, ⟨hE, hg, ⟨hu1, hu2⟩, ⟨hv1, hv2⟩⟩, hb1⟩
  have hE : Eqv (r0, r1, r2) (u0, u1, u2) := hE
  have hg : Int.gcd u0 q0 = 1 := hg
  have hu1 : 1 ≤ u0 := hu1
  have hu2 : u0 ≤ 12000000 := hu2
  have hv1 : -1000000000 ≤ u1 := hv1
  have hv2 : u1 ≤ 1000000000 := hv2
  obtain ⟨t0, ht0, l0, hl0⟩ := middle (q := (q0, q1, q2)) (r := (u0, u1, u2)) hu1 HQ.out.ds (hE.dsq.trans HR.out.ds) hg
  have ht0 : (t0 : Int) < u0 := ht0
  have hl0 : q1 + 2 * q0 * t0 = u1 + 2 * u0 * l0 := hl0
  have HE := hid hE; have HG := hid hg; have HL0 := hid hl0
  have A1' := A0.next hb1
  have A1 := (A0.next hb1).alloc (.cells #[.int .i64 u0, .int .i64 u1, .int .i64 u2] 25)
  have B1 := (B0.next hb1).alloc (.cells #[.int .i64 u0, .int .i64 u1, .int .i64 u2] 25)
  have K1 := Arr3.new w1 u0 u1 u2 25
  have U1 := gr_alloc (gr_trans U0 hb1) (.cells #[.int .i64 u0, .int .i64 u1, .int .i64 u2] 25)
  have hz1 := hb1.size
  have hB0 := B0.lt
  have hne : w.heap.size + 1 + 1 < w1.heap.size := by omega
  clear a0' a1' a2' r0' r1' r2' A0 R0 B0 U0 hb1 hz1 hB0 hE hg hl0
  obtain ⟨_, x0, x1, x2, _⟩ := id A1'
  go_wp2_with fail
  generalize hW : w1.alloc (.cells #[.int .i64 u0, .int .i64 u1, .int .i64 u2] 25) = W1 at A1 B1 K1 U1 ⊢
  generalize hkk : w1.heap.size = kk at K1 hne ⊢
  clear hW hkk x0 x1 x2 A1'
  have HA1 := hid A1; have HB1 := hid B1; have HK1 := hid K1; have HU1 := hid U1
  clear A1 B1 K1 U1
  go_loopw [6] (fun s wr => ∃ k : Nat, ∃ m : Int, s = .int .i64 m ∧ m = q1 + 2 * q0 * (k : Int) ∧ k ≤ t0 ∧ Arr3 wr w.heap.size q0 q1 q2 ∧ Arr3 wr kk u0 u1 u2 ∧ Arr3 wr (w.heap.size + 1 + 1) 0 0 0 ∧ Below w.heap.size w wr) (fun s _ => (1000000000 - intOf s).toNat)
  case atStart => exact ⟨0, q1, rfl, by simp, by omega, HA1.out, HK1.out, HB1.out, HU1.out⟩
  case round =>
    obtain ⟨k, m, rfl, hm, hk, hA, hK, hB, hU⟩ := hrel
    clear HA1 HB1 HK1 HU1
    have hqk : 0 ≤ q0 * (k : Int) ∧ q0 * (k : Int) ≤ 26 * 12000000 := ⟨Int.mul_nonneg (by omega) (by omega), Int.mul_le_mul a2 (by omega) (by omega) (by omega)⟩
    have e2k : 2 * q0 * (k : Int) = 2 * (q0 * (k : Int)) := Int.mul_assoc _ _ _
    have m1 : -26 ≤ m := by omega
    have m2 : m ≤ 700000000 := by omega
    have HM := hid hm
    clear hqk e2k hm
    obtain ⟨x1', x2'⟩ := mul0_ex (n := m - u1) (m := 2 * u0) (by omega)
    have c5 := fun W => isMultiple_any (m - u1) (2 * u0) W (by omega) (by omega)
    have HX1 := hid x1'; have HX2 := hid x2'
    clear x1' x2'
    generalize mul0 (m - u1) (2 * u0) = bb at c5 HX1 HX2
    have C5 := hid c5
    obtain ⟨_, y0, y1, y2, _⟩ := id hK
    obtain ⟨_, z0, z1, z2, _⟩ := id hA
    have HA := hid hA; have HK := hid hK; have HB := hid hB; have HU := hid hU
    clear c5 hA hK hB hU
    go_wp2_with fail
    refine (C5.out _).mono ?_
    rintro e w2 ⟨rfl, rfl⟩
    cases bb with
    | false =>
      have hne' : k ≠ t0 := fun e => by
        have h1 := HX2.out l0 (by have := HM.out; rw [e] at this; have h2 := HL0.out; have : m = u1 + 2 * u0 * l0 := by omega
                                  omega)
        cases h1
      have HN := hid hne'
      clear hne'
      go_wp2_with fail
      go_roundw
      case rel => exact ⟨k + 1, _, rfl, by rw [HM.out]; push_cast; rw [Int.mul_add]; omega, by have := HN.out; omega, HA.out, HK.out, HB.out, HU.out⟩
      case measure => simp [intOf]; omega
    | true =>
      obtain ⟨l, hl⟩ := HX1.out rfl
      obtain ⟨hp, hs, hrs⟩ := HF.out u0 u1 u2 m k l HE.out HG.out ⟨hu1, hu2⟩ HM.out (by omega) ⟨by omega, by omega⟩
      have hpu := mulb (x := q0) (y := u0) (A := 26) (B := 12000000) (by omega) (by omega)
      have hpu1 : 1 * 1 ≤ q0 * u0 := Int.mul_le_mul a1 hu1 (by omega) (by omega)
      have c6 := fun W => wdisc_any (q0 * u0) m D W ⟨by omega, by omega⟩ ⟨by omega, by omega⟩ ⟨by omega, by omega⟩
      have c7 := fun W => reduced_any (q0 * u0) m (thd (q0 * u0) m D) D W hp hD hs
      rw [hrs] at c7
      have HLc := hid hl
      clear hp hs hrs hl
      generalize thd (q0 * u0) m D = v2 at c6 c7
      obtain ⟨T, hT⟩ : ∃ T, T = q0 * u0 := ⟨_, rfl⟩
      rw [← hT] at c6 c7 hpu hpu1
      have hT' := hT.symm
      have C6 := hid c6; have C7 := hid c7
      have t1 : 1 ≤ T := by omega
      have t2 : T ≤ 1000000000 := by omega
      have hw : IntKind.i64.wrap T = T := by
        have := wr_in (x := T) ⟨by omega, by omega⟩
        simpa only [IntWalk.i64_left] using this
      clear hT c6 c7 hpu hpu1
      have hB := HB.out
      obtain ⟨_, b0', b1', b2', f0, f1, f2⟩ := id hB
      have hA := HA.out; have hK := HK.out; have hU := HU.out
      go_upto_region 5 with fail
      have HBB := hid hB
      clear hB
      go_region_held3 (fun W => W.cell? ⟨w.heap.size, 0, none⟩ = some (.int .i64 q0) ∧ W.cell? ⟨w.heap.size, 1, none⟩ = some (.int .i64 q1) ∧ W.cell? ⟨w.heap.size, 2, none⟩ = some (.int .i64 q2) ∧ W.cell? ⟨kk, 0, none⟩ = some (.int .i64 u0) ∧ W.cell? ⟨kk, 1, none⟩ = some (.int .i64 u1) ∧ W.cell? ⟨kk, 2, none⟩ = some (.int .i64 u2)) (refine cells33q ?_ ?_ <;> (repeat (first | with_reducible assumption | with_reducible exact Arr.box (by assumption) | with_reducible exact Box.new _ _ _ _ _ _ | with_reducible exact Arr.new _ _ _ _ _ _ | with_reducible refine Arr.drew ?_ | with_reducible refine Arr.drewN ?_ _ | with_reducible refine Arr.store4 ?_ | with_reducible refine Arr.alloc ?_ _ | with_reducible refine Box.drew ?_ | with_reducible refine Box.drewN ?_ _ | with_reducible refine Box.alloc ?_ _ | with_reducible refine Arr.next ?_ (by assumption) | with_reducible refine Box.next ?_ (by assumption) | refine Arr.oth ?_ (by first | (simp; done) | omega | (simp; omega)) _ | refine Box.oth ?_ (by first | (simp; done) | omega | (simp; omega)) _ | with_reducible exact Arr3.box (by assumption) | with_reducible exact Box3.new _ _ _ _ _ | with_reducible exact Arr3.new _ _ _ _ _ | with_reducible refine Arr3.drew ?_ | with_reducible refine Arr3.drewN ?_ _ | with_reducible refine Arr3.store3 ?_ | with_reducible refine Arr3.alloc ?_ _ | with_reducible refine Box3.drew ?_ | with_reducible refine Box3.drewN ?_ _ | with_reducible refine Box3.alloc ?_ _ | with_reducible refine Arr3.next ?_ (by assumption) | with_reducible refine Box3.next ?_ (by assumption) | refine Arr3.oth ?_ (by first | (simp; done) | omega | (simp; omega)) _ | refine Box3.oth ?_ (by first | (simp; done) | omega | (simp; omega)) _))) (first | (go_at_call 51; refine (C2.out _).mono ?_; rintro e v1 ⟨rfl, hv1⟩) | (go_at_call 50; refine (C6.out _).mono ?_; rintro e v3 ⟨rfl, hv3⟩) | (go_at_call 41; refine (C7.out _).mono ?_; rintro e v4 ⟨rfl, hv4⟩; have K4 := ((HBB.out.drew.next hv1).next hv3).next hv4; obtain ⟨_, b0', b1', b2', f0, f1, f2⟩ := id K4))
      all_goals (go_wp2; have K5 := ((HBB.out.drew.next hv1).next hv3).next hv4; refine bodyPost_ret (res_A31 (e := 2) rfl Try.underlying25 (by kernel_rfl) rfl (by (repeat (first | with_reducible assumption | with_reducible exact Arr.box (by assumption) | with_reducible exact Box.new _ _ _ _ _ _ | with_reducible exact Arr.new _ _ _ _ _ _ | with_reducible refine Arr.drew ?_ | with_reducible refine Arr.drewN ?_ _ | with_reducible refine Arr.store4 ?_ | with_reducible refine Arr.alloc ?_ _ | with_reducible refine Box.drew ?_ | with_reducible refine Box.drewN ?_ _ | with_reducible refine Box.alloc ?_ _ | with_reducible refine Arr.next ?_ (by assumption) | with_reducible refine Box.next ?_ (by assumption) | refine Arr.oth ?_ (by first | (simp; done) | omega | (simp; omega)) _ | refine Box.oth ?_ (by first | (simp; done) | omega | (simp; omega)) _ | with_reducible exact Arr3.box (by assumption) | with_reducible exact Box3.new _ _ _ _ _ | with_reducible exact Arr3.new _ _ _ _ _ | with_reducible refine Arr3.drew ?_ | with_reducible refine Arr3.drewN ?_ _ | with_reducible refine Arr3.store3 ?_ | with_reducible refine Arr3.alloc ?_ _ | with_reducible refine Box3.drew ?_ | with_reducible refine Box3.drewN ?_ _ | with_reducible refine Box3.alloc ?_ _ | with_reducible refine Arr3.next ?_ (by assumption) | with_reducible refine Box3.next ?_ (by assumption) | refine Arr3.oth ?_ (by first | (simp; done) | omega | (simp; omega)) _ | refine Box3.oth ?_ (by first | (simp; done) | omega | (simp; omega)) _)))) rfl ?_; exact ⟨rfl, by (repeat' (first | with_reducible exact Below.refl _ _ | with_reducible assumption | with_reducible refine gr_alloc ?_ _ | with_reducible refine gr_drew ?_ | with_reducible refine gr_drewN ?_ _ | with_reducible refine gr_trans ?_ (by assumption) | with_reducible refine gr_set ?_ ?_ _ | (simp; done) | omega | (simp; omega)))⟩)

end Go.Proofs.Ytehbkmohfipmgaa
