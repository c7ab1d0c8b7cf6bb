/- Chapter 10: centered forms and reduction by the program. -/
import Derived.Test.YtofoahdnkcbhbaaZj
import Derived.Deep.RegionHeld3
import Derived.Deep.DeepCutAuto
import Derived.Deep.LoopGhost
namespace Go.Proofs.Ytofoahdnkcbhbaa
open Go.RowKit

set_option maxRecDepth 100000 in
set_option maxHeartbeats 2000000 in
theorem centered_any (p q r D : Int) (w : World) (h : Pos D (p, q, r)) (hD : -2000 ≤ D) (hs : Sm (p, q, r)) :
    Calls Try.prog 73 #[.agg #[.int .i64 p, .int .i64 q, .int .i64 r]] w fun e w' => e = .returned (.agg #[.int .i64 p, .int .i64 (cm p q), .int .i64 (cn p q r)]) ∧ Below w.heap.size w w' := by
  have hp : 1 ≤ p := h.1
  have he : q * q - 4 * p * r = D := h.2.1
  have hD0 := h.2.2
  obtain ⟨s1, s2, s3⟩ := hs
  have s1 : p ≤ 1000000000 := s1
  have s2 : -1000000000 ≤ q := s2
  have s3 : q ≤ 1000000000 := s3
  have hqq := mulb (A := 1000000000) (B := 1000000000) ⟨s2, s3⟩ ⟨s2, s3⟩
  have hdq : dq p q r = D := by rw [dq_in (by omega) (by omega)]; exact he
  have hb := cm_bd (p := p) (q := q) hp
  have c1 := fun W => restBy_any (p - q) (2 * p) W (by omega) (by omega)
  have c2 := fun W => iQd_any p q r W
  have c3 := fun W => wdisc_any p (cm p q) D W ⟨hp, by omega⟩ ⟨by omega, by omega⟩ ⟨by omega, by omega⟩
  have hm : cm p q = p - (p - q) % (2 * p) := rfl
  have m1 := Int.emod_nonneg (p - q) (b := 2 * p) (by omega)
  have m2 := Int.emod_lt_of_pos (p - q) (b := 2 * p) (by omega)
  rw [hdq] at c2
  rw [thd_cm hp he] at c3
  generalize (p - q) % (2 * p) = x at c1 hm m1 m2
  generalize cm p q = m at c3 hm ⊢
  generalize cn p q r = z at c3 ⊢
  have C1 := hid c1; have C2 := hid c2; have C3 := hid c3; have HM := hid hm
  clear c1 c2 c3 hm hb hdq hqq he h
  have A0 := (Arr3.new w p q r 25).alloc (.cells #[.int .i64 0, .int .i64 0, .int .i64 0] 25)
  have B0 := Arr3.new (w.alloc (.cells #[.int .i64 p, .int .i64 q, .int .i64 r] 25)) 0 0 0 25
  have U0 := gr_alloc (gr_alloc (Below.refl w.heap.size w) (.cells #[.int .i64 p, .int .i64 q, .int .i64 r] 25)) (.cells #[.int .i64 0, .int .i64 0, .int .i64 0] 25)
  simp only [World.size_alloc] at B0
  go_enter Try.func73, Try.ntmps73
  go_upto_region 1 with fail
  generalize (w.alloc (.cells #[.int .i64 p, .int .i64 q, .int .i64 r] 25)).alloc (.cells #[.int .i64 0, .int .i64 0, .int .i64 0] 25) = W0 at A0 B0 U0 ⊢
  obtain ⟨_, a0, a1, a2, _⟩ := id A0
  go_quiet ((go_at_call 78; exact quiet_s (C1.out _)))
  go_upto_region 2 with fail
  generalize hWn : World.drewN _ _ = W1
  have A1 := hWn ▸ A0.drewN _
  have B1 := hWn ▸ B0.drewN _
  have U1 := hWn ▸ gr_drewN U0 _
  clear hWn a0 a1 a2 A0 B0 U0
  obtain ⟨_, a0, a1, a2, _⟩ := id A1
  obtain ⟨hl, b0, b1, b2, f0, f1, f2⟩ := id B1
  have hm := HM.out
  rw [← hm]
  clear hm
  go_region_held3 (fun W => W.cell? ⟨w.heap.size, 0, none⟩ = some (.int .i64 p) ∧ W.cell? ⟨w.heap.size, 1, none⟩ = some (.int .i64 q) ∧ W.cell? ⟨w.heap.size, 2, none⟩ = some (.int .i64 r)) (refine cells3 ?_ <;> (repeat (first | with_reducible assumption | with_reducible exact Arr.box (by assumption) | with_reducible exact Box.new _ _ _ _ _ _ | with_reducible exact Arr.new _ _ _ _ _ _ | with_reducible refine Arr.drew ?_ | with_reducible refine Arr.drewN ?_ _ | with_reducible refine Arr.store4 ?_ | with_reducible refine Arr.alloc ?_ _ | with_reducible refine Box.drew ?_ | with_reducible refine Box.drewN ?_ _ | with_reducible refine Box.alloc ?_ _ | with_reducible refine Arr.next ?_ (by assumption) | with_reducible refine Box.next ?_ (by assumption) | refine Arr.oth ?_ (by first | (simp; done) | omega | (simp; omega)) _ | refine Box.oth ?_ (by first | (simp; done) | omega | (simp; omega)) _ | with_reducible exact Arr3.box (by assumption) | with_reducible exact Box3.new _ _ _ _ _ | with_reducible exact Arr3.new _ _ _ _ _ | with_reducible refine Arr3.drew ?_ | with_reducible refine Arr3.drewN ?_ _ | with_reducible refine Arr3.store3 ?_ | with_reducible refine Arr3.alloc ?_ _ | with_reducible refine Box3.drew ?_ | with_reducible refine Box3.drewN ?_ _ | with_reducible refine Box3.alloc ?_ _ | with_reducible refine Arr3.next ?_ (by assumption) | with_reducible refine Box3.next ?_ (by assumption) | refine Arr3.oth ?_ (by first | (simp; done) | omega | (simp; omega)) _ | refine Box3.oth ?_ (by first | (simp; done) | omega | (simp; omega)) _))) (first | (go_at_call 51; refine (C2.out _).mono ?_; rintro e v1 ⟨rfl, hv1⟩) | (go_at_call 50; refine (C3.out _).mono ?_; rintro e v2 ⟨rfl, hv2⟩; have K2 := (B1.drew.next hv1).next hv2; obtain ⟨_, b0, b1, b2, f0, f1, f2⟩ := id K2))
  all_goals (go_wp2; refine bodyPost_ret (res_A31 (e := 2) rfl Try.underlying25 (by kernel_rfl) rfl (by (repeat (first | with_reducible assumption | with_reducible exact Arr.box (by assumption) | with_reducible exact Box.new _ _ _ _ _ _ | with_reducible exact Arr.new _ _ _ _ _ _ | with_reducible refine Arr.drew ?_ | with_reducible refine Arr.drewN ?_ _ | with_reducible refine Arr.store4 ?_ | with_reducible refine Arr.alloc ?_ _ | with_reducible refine Box.drew ?_ | with_reducible refine Box.drewN ?_ _ | with_reducible refine Box.alloc ?_ _ | with_reducible refine Arr.next ?_ (by assumption) | with_reducible refine Box.next ?_ (by assumption) | refine Arr.oth ?_ (by first | (simp; done) | omega | (simp; omega)) _ | refine Box.oth ?_ (by first | (simp; done) | omega | (simp; omega)) _ | with_reducible exact Arr3.box (by assumption) | with_reducible exact Box3.new _ _ _ _ _ | with_reducible exact Arr3.new _ _ _ _ _ | with_reducible refine Arr3.drew ?_ | with_reducible refine Arr3.drewN ?_ _ | with_reducible refine Arr3.store3 ?_ | with_reducible refine Arr3.alloc ?_ _ | with_reducible refine Box3.drew ?_ | with_reducible refine Box3.drewN ?_ _ | with_reducible refine Box3.alloc ?_ _ | with_reducible refine Arr3.next ?_ (by assumption) | with_reducible refine Box3.next ?_ (by assumption) | refine Arr3.oth ?_ (by first | (simp; done) | omega | (simp; omega)) _ | refine Box3.oth ?_ (by first | (simp; done) | omega | (simp; omega)) _)))) rfl ?_; exact ⟨rfl, by (repeat' (first | with_reducible exact Below.refl _ _ | with_reducible assumption | with_reducible refine gr_alloc ?_ _ | with_reducible refine gr_drew ?_ | with_reducible refine gr_drewN ?_ _ | with_reducible refine gr_trans ?_ (by assumption) | with_reducible refine gr_set ?_ ?_ _ | (simp; done) | omega | (simp; omega)))⟩)

set_option maxRecDepth 100000 in
set_option maxHeartbeats 2000000 in
theorem reduced_any (p q r D : Int) (w : World) (h : Pos D (p, q, r)) (hD : -2000 ≤ D) (hs : Sm (p, q, r)) :
    Calls Try.prog 46 #[.agg #[.int .i64 p, .int .i64 q, .int .i64 r]] w fun e w' => e = .returned (.agg #[.int .i64 ((red (p, q, r)).1), .int .i64 ((red (p, q, r)).2.1), .int .i64 ((red (p, q, r)).2.2)]) ∧ Below w.heap.size w w' := by
  have c1 := fun W => centered_any p q r D W h hD hs
  have hF := Fn.red h
  have HI := hid (show rdn ((p, q, r).1.toNat + 1) (p, q, r) = red (p, q, r) from rfl)
  obtain ⟨RS, hRS⟩ : ∃ RS, RS = red (p, q, r) := ⟨_, rfl⟩
  rw [← hRS] at HI ⊢
  clear hRS
  have C1 := hid c1; have HP := hid h; have HS := hid hs; have HF := hid hF
  have A0 := (Arr3.new w p q r 25).alloc (.cells #[.int .i64 0, .int .i64 0, .int .i64 0] 25)
  have B0 := Arr3.new (w.alloc (.cells #[.int .i64 p, .int .i64 q, .int .i64 r] 25)) 0 0 0 25
  have U0 := gr_alloc (gr_alloc (Below.refl w.heap.size w) (.cells #[.int .i64 p, .int .i64 q, .int .i64 r] 25)) (.cells #[.int .i64 0, .int .i64 0, .int .i64 0] 25)
  simp only [World.size_alloc] at B0
  clear c1 h hs hF
  go_enter Try.func46, Try.ntmps46
  go_wp2_with fail
  refine (C1.out _).mono ?_
  rintro e w1 ⟨rfl, hb1⟩
  have B1 := (B0.next hb1).box
  have U1 := gr_trans U0 hb1
  have hz := B0.lt
  have hz1 := hb1.size
  have K1 := Arr3.new w1 p (cm p q) (cn p q r) 25
  have B2 := B1.alloc (.cells #[.int .i64 p, .int .i64 (cm p q), .int .i64 (cn p q r)] 25)
  have HB2 := hid B2
  have HK1 := hid K1
  have HU2 := hid (gr_alloc U1 (.cells #[.int .i64 p, .int .i64 (cm p q), .int .i64 (cn p q r)] 25))
  have hne : w.heap.size + 1 < w1.heap.size := by simp at hz hz1; omega
  have hnw : w.heap.size < w1.heap.size := by omega
  clear A0 B0 U0 B1 U1 K1 B2 hb1 hz hz1
  go_wp2_with fail
  generalize hk3 : w1.heap.size = k3 at *
  go_loopg [] ((p, q, r).1.toNat + 1) (fun g wr => ∃ t : Qd, Arr3 wr k3 (cen t).1 (cen t).2.1 (cen t).2.2 ∧ Fn g t ∧ rdn g t = RS ∧ Pos D t ∧ Sm t ∧ Box3 wr (w.heap.size + 1) ∧ Below w.heap.size w wr)
  case atStart => exact ⟨(p, q, r), HK1.out, HF.out, HI.out, HP.out, HS.out, HB2.out, HU2.out⟩
  case round =>
    obtain ⟨t, hA, hF, hR, hP, hS, hB, hU⟩ := hrel
    have HF2 := hid hF; have HR := hid hR; have HP2 := hid hP; have HS2 := hid hS
    have c3 := fun W => isReduced_any (cen t).1 (cen t).2.1 (cen t).2.2 W
    obtain ⟨g, rfl⟩ : ∃ g, gk = g + 1 := by
      cases gk with
      | zero => exact hF.elim
      | succ g => exact ⟨g, rfl⟩
    have c4 := fun W => centered_any (cen t).2.2 (-(cen t).2.1) (cen t).1 D W hP.cen.swp hD (Sm.step hP hD hS)
    obtain ⟨_, a0, a1, a2, g0, g1, g2⟩ := id hA
    have HA := hid hA; have HBx := hid hB; have HUx := hid hU
    have hbn : -9000000000000000000 ≤ (cen t).2.1 ∧ (cen t).2.1 ≤ 9000000000000000000 := by
      obtain ⟨s1, s2, s3⟩ := Sm.step hP hD hS
      have : -1000000000 ≤ -(cen t).2.1 := s2
      have : -(cen t).2.1 ≤ 1000000000 := s3
      omega
    obtain ⟨n1, n2⟩ := hbn
    have hlast : rdq (cen t) = true → Hid (cen t = RS) := fun e => hid (by rw [← hR]; exact (rdn_done e).symm)
    have hnext : rdq (cen t) = false → Hid (Fn g (swp (cen t)) ∧ rdn g (swp (cen t)) = RS) := fun e => by
      obtain ⟨x, y⟩ := rdn_step e hF
      exact hid ⟨x, by rw [← y]; exact hR⟩
    have HL := hid hlast; have HN := hid hnext
    have hrd : rdb (cen t).1 (cen t).2.1 (cen t).2.2 = rdq (cen t) := rfl
    rw [hrd] at c3
    generalize rdq (cen t) = bb at c3 HL HN
    have HX := hid (show (cen (swp (cen t))).1 = (cen t).2.2 ∧ (cen (swp (cen t))).2.1 = cm (cen t).2.2 (-(cen t).2.1) ∧ (cen (swp (cen t))).2.2 = cn (cen t).2.2 (-(cen t).2.1) (cen t).1 from ⟨rfl, rfl, rfl⟩)
    have HPn := hid hP.cen.swp; have HSn := hid (Sm.step hP hD hS)
    clear hF hR hP hS hA hB hU hlast hnext hrd
    generalize hcn1 : cm (cen t).2.2 (-(cen t).2.1) = y1 at c4 HX
    generalize hcn2 : cn (cen t).2.2 (-(cen t).2.1) (cen t).1 = y2 at c4 HX
    obtain ⟨u, hu⟩ : ∃ u, u = cen t := ⟨_, rfl⟩
    rw [← hu] at *
    have HUU := hid hu
    clear hu hcn1 hcn2
    obtain ⟨u0, u1, u2⟩ := u
    (try dsimp only at *)
    have C3 := hid c3; have C4 := hid c4
    clear c3 c4
    go_wp2_with fail
    refine (C3.out _).mono ?_
    rintro e w2 ⟨rfl, hb2⟩
    have A2 := HA.out.next hb2
    have B2 := HBx.out.next hb2
    have U2 := gr_trans HUx.out hb2
    clear a0 a1 a2 g0 g1 g2
    obtain ⟨_, a0, a1, a2, g0, g1, g2⟩ := id A2
    cases bb with
    | true =>
      have hL := HL.out rfl
      obtain ⟨x0, x1, x2, X⟩ := id B2
      obtain ⟨_, y0, y1, y2, f0, f1, f2⟩ := id X
      go_wp2_with fail
      refine bodyPost_ret (res_A31 (e := 2) rfl Try.underlying25 (by kernel_rfl) rfl (by (repeat (first | with_reducible assumption | with_reducible exact Arr.box (by assumption) | with_reducible exact Box.new _ _ _ _ _ _ | with_reducible exact Arr.new _ _ _ _ _ _ | with_reducible refine Arr.drew ?_ | with_reducible refine Arr.drewN ?_ _ | with_reducible refine Arr.store4 ?_ | with_reducible refine Arr.alloc ?_ _ | with_reducible refine Box.drew ?_ | with_reducible refine Box.drewN ?_ _ | with_reducible refine Box.alloc ?_ _ | with_reducible refine Arr.next ?_ (by assumption) | with_reducible refine Box.next ?_ (by assumption) | refine Arr.oth ?_ (by first | (simp; done) | omega | (simp; omega)) _ | refine Box.oth ?_ (by first | (simp; done) | omega | (simp; omega)) _ | with_reducible exact Arr3.box (by assumption) | with_reducible exact Box3.new _ _ _ _ _ | with_reducible exact Arr3.new _ _ _ _ _ | with_reducible refine Arr3.drew ?_ | with_reducible refine Arr3.drewN ?_ _ | with_reducible refine Arr3.store3 ?_ | with_reducible refine Arr3.alloc ?_ _ | with_reducible refine Box3.drew ?_ | with_reducible refine Box3.drewN ?_ _ | with_reducible refine Box3.alloc ?_ _ | with_reducible refine Arr3.next ?_ (by assumption) | with_reducible refine Box3.next ?_ (by assumption) | refine Arr3.oth ?_ (by first | (simp; done) | omega | (simp; omega)) _ | refine Box3.oth ?_ (by first | (simp; done) | omega | (simp; omega)) _)))) rfl ?_
      rw [← hL.out]
      exact ⟨rfl, by (repeat' (first | with_reducible exact Below.refl _ _ | with_reducible assumption | with_reducible refine gr_alloc ?_ _ | with_reducible refine gr_drew ?_ | with_reducible refine gr_drewN ?_ _ | with_reducible refine gr_trans ?_ (by assumption) | with_reducible refine gr_set ?_ ?_ _ | (simp; done) | omega | (simp; omega)))⟩
    | false =>
      have hNn := HN.out rfl
      go_wp2_with fail
      refine (C4.out _).mono ?_
      rintro e w3 ⟨rfl, hb3⟩
      have A3 := A2.next hb3
      have B3 := B2.next hb3
      have U3 := gr_trans U2 hb3
      clear a0 a1 a2 g0 g1 g2
      obtain ⟨_, a0, a1, a2, g0, g1, g2⟩ := id A3
      go_wp2_with fail
      go_roundg g
      case measure => omega
      case rel =>
        refine ⟨swp (cen t), ?_, ?_, hNn.out.2, HPn.out, HSn.out, ?_, ?_⟩
        · obtain ⟨h1, h2, h3⟩ := HX.out
          rw [h1, h2, h3]
          exact ((A3.set0 _).set1 _).set2 _
        · exact hNn.out.1
        · exact ((B3.oth (by show _ ≠ k3; omega) _).oth (by show _ ≠ k3; omega) _).oth (by show _ ≠ k3; omega) _
        · exact gr_set (gr_set (gr_set U3 (by show _ ≤ k3; omega) _) (by show _ ≤ k3; omega) _) (by show _ ≤ k3; omega) _

end Go.Proofs.Ytofoahdnkcbhbaa
