/- Chapter 10: reduction by the model; ReduceQuadratic. -/
import Derived.Test.YtehbkmohfipmgaaBtZ11
import Derived.Test.YtehbkmohfipmgaaBtZi3
import Derived.Test.YtehbkmohfipmgaaBtZi2
namespace Go.Proofs.Ytehbkmohfipmgaa
open Go.RowKit

theorem fl_pos {n m : Int} (_ : 1 ≤ m) (h : 0 ≤ n) : n.tdiv m = n / m := Int.tdiv_eq_ediv_of_nonneg h
theorem fl_dv {n m : Int} (h : n.tmod m = 0) (hm : 1 ≤ m) : n.tdiv m = n / m := by
  have h1 := Int.mul_tdiv_add_tmod n m
  rw [h] at h1
  have h2 : n = m * n.tdiv m := by omega
  have := Int.mul_ediv_cancel_left (n.tdiv m) (a := m) (by omega)
  rw [← h2] at this
  exact this.symm
theorem fl_neg {n m : Int} (h : n.tmod m ≠ 0) (hm : 1 ≤ m) (hn : n < 0) : n.tdiv m - 1 = n / m := by
  have h1 := Int.mul_tdiv_add_tmod n m
  have h2 := tmod_in n m hm
  have h3 : n.tmod m ≤ 0 := by
    have := Int.tmod_nonneg m (a := -n) (by omega)
    rw [Int.neg_tmod] at this
    omega
  have : (n.tmod m + m + m * (n.tdiv m - 1)) / m = (n.tmod m + m) / m + (n.tdiv m - 1) := Int.add_mul_ediv_left _ _ (by omega)
  have e0 : (n.tmod m + m) / m = 0 := Int.ediv_eq_zero_of_lt (by omega) (by omega)
  rw [e0] at this
  have e : n.tmod m + m + m * (n.tdiv m - 1) = n := by rw [Int.mul_sub]; omega
  rw [e] at this
  omega

set_option maxHeartbeats 1000000 in
theorem l01Floor_any (n m : Int) (w : World) (hm : 1 ≤ m ∧ m ≤ 1000000000000000) (hn : -1000000000000000 ≤ n ∧ n ≤ 1000000000000000) : Calls Try.prog 75 #[.int .i64 n, .int .i64 m] w fun e w' => e = .returned (.int .i64 (n / m)) ∧ w = w' := by
  obtain ⟨m1, m2⟩ := hm
  obtain ⟨n1, n2⟩ := hn
  obtain ⟨t1, t2⟩ := tmod_in n m m1
  have hd := Int.natAbs_tdiv_le_natAbs n m
  have d1 : -1000000000000000 ≤ n.tdiv m := by omega
  have d2 : n.tdiv m ≤ 1000000000000000 := by omega
  have hz : ¬ m = 0 := by omega
  clear hd
  have hmn : decide (m < 0) = false := by simp; omega
  cases h1 : (n.tmod m != 0) with
  | false =>
    have hE := hid (fl_dv (n := n) (m := m) (by simpa using h1) m1)
    go_enter Try.func75, Try.ntmps75
    go_wp2
    go_ret
    exact ⟨ret_int hE.out, rfl⟩
  | true =>
    cases h2 : decide (n < 0) with
    | false =>
      have hE := hid (fl_pos (n := n) (m := m) m1 (by simpa using h2))
      have h4 : (n % m != 0) = true := by
        rw [Int.tmod_eq_emod_of_nonneg (by simpa using h2)] at h1
        exact h1
      have h3 : 0 ≤ n := by simpa using h2
      clear h1
      go_enter Try.func75, Try.ntmps75
      go_wp2
      go_ret
      exact ⟨ret_int hE.out, rfl⟩
    | true =>
      have hE := hid (fl_neg (n := n) (m := m) (by simpa using h1) m1 (by simpa using h2))
      have h3 : n < 0 := by simpa using h2
      go_enter Try.func75, Try.ntmps75
      go_wp2
      go_ret
      exact ⟨ret_int hE.out, rfl⟩

theorem kq_bd {p q r D : Int} (h : Pos D (p, q, r)) (hD : -2000 ≤ D) (hs : Sm (p, q, r)) :
    (-2000000000 ≤ kq p q ∧ kq p q ≤ 2000000000) ∧ (-2000000000 ≤ 2 * kq p q * p ∧ 2 * kq p q * p ≤ 2000000000) ∧ (-2000000000 ≤ p * kq p q ∧ p * kq p q ≤ 2000000000) ∧ (-4000000000000000000 ≤ p * kq p q * kq p q ∧ p * kq p q * kq p q ≤ 4000000000000000000) ∧ (-2000000000000000000 ≤ q * kq p q ∧ q * kq p q ≤ 2000000000000000000) ∧ 1 ≤ r ∧ r ≤ 1000000000000002000 := by
  have hp : 1 ≤ p := h.1
  have he : q * q - 4 * p * r = D := h.2.1
  have s1 : p ≤ 1000000000 := hs.1
  have s2 : -1000000000 ≤ q := hs.2.1
  have s3 : q ≤ 1000000000 := hs.2.2
  have hb := cm_bd (p := p) (q := q) hp
  have hce := cm_eq p q
  have hr := pos_third he h.2.2 hp
  have hqq := mulb (A := 1000000000) (B := 1000000000) ⟨s2, s3⟩ ⟨s2, s3⟩
  have e1 : 2 * kq p q * p = 2 * p * kq p q := by grind
  have e2 : 2 * p * kq p q = 2 * (p * kq p q) := by grind
  have hk : -2000000000 ≤ kq p q ∧ kq p q ≤ 2000000000 := by
    unfold kq
    have h1 : (p - q) / (2 * p) ≤ 2000000000 := Int.ediv_le_of_le_mul (by omega) (by have : 2 * 1 ≤ 2 * p := by omega
                                                                                     have := Int.mul_le_mul_of_nonneg_left this (show (0 : Int) ≤ 2000000000 by decide)
                                                                                     omega)
    have h2 : -2000000000 ≤ (p - q) / (2 * p) := (Int.le_ediv_iff_mul_le (by omega)).2 (by omega)
    exact ⟨h2, h1⟩
  have h5 := mulb (x := p * kq p q) (y := kq p q) (A := 2000000000) (B := 2000000000) (by omega) hk
  have h6 := mulb (x := q) (y := kq p q) (A := 1000000000) (B := 2000000000) ⟨s2, s3⟩ hk
  have h7 : 4 * r ≤ 4 * p * r := by
    have := Int.mul_le_mul_of_nonneg_right (show 4 * 1 ≤ 4 * p by omega) (show 0 ≤ r by omega)
    omega
  refine ⟨hk, by omega, by omega, by omega, by omega, hr, by omega⟩

theorem Arr3.set33 {w : World} {k : Nat} {a b c x y z : Int} (h : Arr3 w k a b c) : Arr3 (((w.setCell ⟨k, 0, none⟩ (.int .i64 x)).setCell ⟨k, 1, none⟩ (.int .i64 y)).setCell ⟨k, 2, none⟩ (.int .i64 z)) k x y z := ((h.set0 x).set1 y).set2 z
theorem Box3.set33 {w : World} {k j : Nat} {u v x : Value} (h : Box3 w k) (hk : k ≠ j) : Box3 (((w.setCell ⟨j, 0, none⟩ u).setCell ⟨j, 1, none⟩ v).setCell ⟨j, 2, none⟩ x) k := ((h.oth hk u).oth hk v).oth hk x

set_option maxRecDepth 100000 in
set_option maxHeartbeats 4000000 in
theorem l10Reduce_any (p q r D : Int) (w : World) (h : Pos D (p, q, r)) (hD : -2000 ≤ D) (hs : Sm (p, q, r)) :
    Calls Try.prog 44 #[.agg #[.int .i64 p, .int .i64 q, .int .i64 r]] w fun e w' => e = .returned (.agg #[.int .i64 ((red (p, q, r)).1), .int .i64 ((red (p, q, r)).2.1), .int .i64 ((red (p, q, r)).2.2)]) ∧ Below w.heap.size w w' := by
  have hF := Fn.red h
  have HI := hid (show rdn ((p, q, r).1.toNat + 1) (p, q, r) = red (p, q, r) from rfl)
  obtain ⟨RS, hRS⟩ : ∃ RS, RS = red (p, q, r) := ⟨_, rfl⟩
  rw [← hRS] at HI ⊢
  clear hRS
  have HP := hid h; have HS := hid hs; have HF := hid hF
  have HA0 := hid ((Arr3.new w p q r 25).alloc (.cells #[.int .i64 0, .int .i64 0, .int .i64 0] 25))
  have B0 := Arr3.new (w.alloc (.cells #[.int .i64 p, .int .i64 q, .int .i64 r] 25)) 0 0 0 25
  have HU0 := hid (gr_alloc (gr_alloc (Below.refl w.heap.size w) (.cells #[.int .i64 p, .int .i64 q, .int .i64 r] 25)) (.cells #[.int .i64 0, .int .i64 0, .int .i64 0] 25))
  simp only [World.size_alloc] at B0
  have HB0 := hid B0
  clear h hs hF B0
  go_enter Try.func44, Try.ntmps44
  go_wp2_with fail
  go_loopg [] ((p, q, r).1.toNat + 1) (fun g wr => ∃ t : Qd, Arr3 wr w.heap.size t.1 t.2.1 t.2.2 ∧ Fn g t ∧ rdn g t = RS ∧ Pos D t ∧ Sm t ∧ Box3 wr (w.heap.size + 1) ∧ Below w.heap.size w wr)
  case atStart => exact ⟨(p, q, r), HA0.out, HF.out, HI.out, HP.out, HS.out, HB0.out.box, HU0.out⟩
  case round =>
    obtain ⟨t, hA, hF, hR, hP, hS, hB, hU⟩ := hrel
    obtain ⟨x, y, z⟩ := t
    have hA : Arr3 wr w.heap.size x y z := hA
    have hx1 : 1 ≤ x := hP.1
    have hx2 : x ≤ 1000000000 := hS.1
    have hy1 : -1000000000 ≤ y := hS.2.1
    have hy2 : y ≤ 1000000000 := hS.2.2
    have hb := kq_bd hP hD hS
    have c1 := fun W => l01Floor_any (x - y) (2 * x) W (by omega) (by omega)
    obtain ⟨g, rfl⟩ : ∃ g, gk = g + 1 := by
      cases gk with
      | zero => exact hF.elim
      | succ g => exact ⟨g, rfl⟩
    have hlast : rdq (cen (x, y, z)) = true → Hid (cen (x, y, z) = RS) := fun e => hid (by rw [← hR]; exact (rdn_done e).symm)
    have hnext : rdq (cen (x, y, z)) = false → Hid (Fn g (swp (cen (x, y, z))) ∧ rdn g (swp (cen (x, y, z))) = RS) := fun e => by
      obtain ⟨x, y⟩ := rdn_step e hF
      exact hid ⟨x, by rw [← y]; exact hR⟩
    have HL := hid hlast; have HN := hid hnext
    have HPn := hid hP.cen.swp; have HSn := hid (Sm.step hP hD hS)
    have hcz := cn_bd hP hD hx2
    have hcm := cm_bd (p := x) (q := y) hx1
    have hce : cm x y = y + 2 * kq x y * x := by rw [cm_eq]; grind
    have hcn : cn x y z = x * kq x y * kq x y + y * kq x y + z := rfl
    have hkq : (x - y) / (2 * x) = kq x y := rfl
    have hcen : cen (x, y, z) = (x, cm x y, cn x y z) := rfl
    rw [hcen] at HL HN HPn HSn
    clear hcen hP hS hF hR hlast hnext
    rw [hkq] at c1
    generalize cm x y = m at HL HN HPn HSn hcm hce
    generalize cn x y z = n at HL HN HPn HSn hcn hcz
    obtain ⟨⟨k1, k2⟩, ⟨l1, l2⟩, ⟨o1, o2⟩, ⟨p1, p2⟩, ⟨q1, q2⟩, z1, z2⟩ := hb
    generalize kq x y = k at *
    generalize hM1 : 2 * k * x = M1 at *
    generalize hM2 : x * k = M2 at *
    generalize hM3 : M2 * k = M3 at *
    generalize hM4 : y * k = M4 at *
    have e5 : y + M1 = m := hce.symm
    have e6 : M3 + M4 + z = n := hcn.symm
    clear hce hcn hkq
    have C1 := hid c1
    obtain ⟨_, a0, a1, a2, g0, g1, g2⟩ := id hA
    have HUx := hid hU
    obtain ⟨b0, b1, b2, hBB⟩ := id hB
    obtain ⟨_, f0, f1, f2, i0, i1, i2⟩ := id hBB
    have HA := hid hA; have HBB := hid hBB
    clear c1 hA hB hU hBB
    go_wp2_with fail
    refine (C1.out _).mono ?_
    rintro e w2 ⟨rfl, rfl⟩
    have hr : rdq (x, m, n) = (decide (x < n) || ((x == n) && decide (0 ≤ m))) := by rw [beq_dec]; rfl
    cases h1 : decide (x < n) with
    | true =>
      have h1' : x < n := by simpa using h1
      have hL := HL.out (by rw [hr, h1]; rfl)
      clear hr
      go_wp2_with fail
      have hBx := HBB.out.box
      refine bodyPost_ret (res_A31 (e := 2) rfl Try.underlying25 (by kernel_rfl) rfl (by (repeat (first | with_reducible assumption | with_reducible exact Arr.box (by assumption) | with_reducible exact Box.new _ _ _ _ _ _ | with_reducible exact Arr.new _ _ _ _ _ _ | with_reducible refine Arr.drew ?_ | with_reducible refine Arr.drewN ?_ _ | with_reducible refine Arr.store4 ?_ | with_reducible refine Arr.alloc ?_ _ | with_reducible refine Box.drew ?_ | with_reducible refine Box.drewN ?_ _ | with_reducible refine Box.alloc ?_ _ | with_reducible refine Arr.next ?_ (by assumption) | with_reducible refine Box.next ?_ (by assumption) | refine Arr.oth ?_ (by first | (simp; done) | omega | (simp; omega)) _ | refine Box.oth ?_ (by first | (simp; done) | omega | (simp; omega)) _ | with_reducible exact Arr3.box (by assumption) | with_reducible exact Box3.new _ _ _ _ _ | with_reducible exact Arr3.new _ _ _ _ _ | with_reducible refine Arr3.drew ?_ | with_reducible refine Arr3.drewN ?_ _ | with_reducible refine Arr3.store3 ?_ | with_reducible refine Arr3.alloc ?_ _ | with_reducible refine Box3.drew ?_ | with_reducible refine Box3.drewN ?_ _ | with_reducible refine Box3.alloc ?_ _ | with_reducible refine Arr3.next ?_ (by assumption) | with_reducible refine Box3.next ?_ (by assumption) | refine Arr3.oth ?_ (by first | (simp; done) | omega | (simp; omega)) _ | refine Box3.oth ?_ (by first | (simp; done) | omega | (simp; omega)) _)))) rfl ?_
      rw [← hL.out]
      have hU := HUx.out
      exact ⟨rfl, by (repeat' (first | with_reducible exact Below.refl _ _ | with_reducible assumption | with_reducible refine gr_alloc ?_ _ | with_reducible refine gr_drew ?_ | with_reducible refine gr_drewN ?_ _ | with_reducible refine gr_trans ?_ (by assumption) | with_reducible refine gr_set ?_ ?_ _ | (simp; done) | omega | (simp; omega)))⟩
    | false =>
      have h1' : n ≤ x := by simpa using h1
      cases h2 : (x == n) with
      | false =>
        have hNn := HN.out (by rw [hr, h1, h2]; rfl)
        clear hr
        go_wp2_with fail
        go_roundg g
        case measure => omega
        case rel =>
          have hU := HUx.out
          refine ⟨swp (x, m, n), ?_, hNn.out.1, hNn.out.2, HPn.out, HSn.out, ?_, by (repeat' (first | with_reducible exact Below.refl _ _ | with_reducible assumption | with_reducible refine gr_alloc ?_ _ | with_reducible refine gr_drew ?_ | with_reducible refine gr_drewN ?_ _ | with_reducible refine gr_trans ?_ (by assumption) | with_reducible refine gr_set ?_ ?_ _ | (simp; done) | omega | (simp; omega)))⟩
          · exact Arr3.set33 (Arr3.set33 HA.out)
          · exact Box3.set33 (Box3.set33 HBB.out.box (by omega)) (by omega)
      | true =>
        cases h3 : decide (0 ≤ m) with
        | true =>
          have h3' : 0 ≤ m := by simpa using h3
          have hL := HL.out (by rw [hr, h1, h2, h3]; rfl)
          clear hr
          go_wp2_with fail
          have hBx := HBB.out.box
          refine bodyPost_ret (res_A31 (e := 2) rfl Try.underlying25 (by kernel_rfl) rfl (by (repeat (first | with_reducible assumption | with_reducible exact Arr.box (by assumption) | with_reducible exact Box.new _ _ _ _ _ _ | with_reducible exact Arr.new _ _ _ _ _ _ | with_reducible refine Arr.drew ?_ | with_reducible refine Arr.drewN ?_ _ | with_reducible refine Arr.store4 ?_ | with_reducible refine Arr.alloc ?_ _ | with_reducible refine Box.drew ?_ | with_reducible refine Box.drewN ?_ _ | with_reducible refine Box.alloc ?_ _ | with_reducible refine Arr.next ?_ (by assumption) | with_reducible refine Box.next ?_ (by assumption) | refine Arr.oth ?_ (by first | (simp; done) | omega | (simp; omega)) _ | refine Box.oth ?_ (by first | (simp; done) | omega | (simp; omega)) _ | with_reducible exact Arr3.box (by assumption) | with_reducible exact Box3.new _ _ _ _ _ | with_reducible exact Arr3.new _ _ _ _ _ | with_reducible refine Arr3.drew ?_ | with_reducible refine Arr3.drewN ?_ _ | with_reducible refine Arr3.store3 ?_ | with_reducible refine Arr3.alloc ?_ _ | with_reducible refine Box3.drew ?_ | with_reducible refine Box3.drewN ?_ _ | with_reducible refine Box3.alloc ?_ _ | with_reducible refine Arr3.next ?_ (by assumption) | with_reducible refine Box3.next ?_ (by assumption) | refine Arr3.oth ?_ (by first | (simp; done) | omega | (simp; omega)) _ | refine Box3.oth ?_ (by first | (simp; done) | omega | (simp; omega)) _)))) rfl ?_
          rw [← hL.out]
          have hU := HUx.out
          exact ⟨rfl, by (repeat' (first | with_reducible exact Below.refl _ _ | with_reducible assumption | with_reducible refine gr_alloc ?_ _ | with_reducible refine gr_drew ?_ | with_reducible refine gr_drewN ?_ _ | with_reducible refine gr_trans ?_ (by assumption) | with_reducible refine gr_set ?_ ?_ _ | (simp; done) | omega | (simp; omega)))⟩
        | false =>
          have h3' : m < 0 := by simpa using h3
          have hNn := HN.out (by rw [hr, h1, h2, h3]; rfl)
          clear hr
          go_wp2_with fail
          go_roundg g
          case measure => omega
          case rel =>
            have hU := HUx.out
            refine ⟨swp (x, m, n), ?_, hNn.out.1, hNn.out.2, HPn.out, HSn.out, ?_, by (repeat' (first | with_reducible exact Below.refl _ _ | with_reducible assumption | with_reducible refine gr_alloc ?_ _ | with_reducible refine gr_drew ?_ | with_reducible refine gr_drewN ?_ _ | with_reducible refine gr_trans ?_ (by assumption) | with_reducible refine gr_set ?_ ?_ _ | (simp; done) | omega | (simp; omega)))⟩
            · exact Arr3.set33 (Arr3.set33 HA.out)
            · exact Box3.set33 (Box3.set33 HBB.out.box (by omega)) (by omega)

end Go.Proofs.Ytehbkmohfipmgaa
