/- Chapter 2: MatricesBetween: the program. -/
import Derived.Test.YtikmjefbjejbkaaBbAy
import Derived.Test.YtikmjefbjejbkaaBbSo5
namespace Go.Proofs.Ytikmjefbjejbkaa
open Go.RowKit

set_option maxRecDepth 100000 in
set_option maxHeartbeats 4000000 in
theorem iMatBetween_any (a b c d p q r s : Int) (w : World) : Calls Try.prog 13 #[.agg #[.int .i64 a, .int .i64 b, .int .i64 c, .int .i64 d], .agg #[.int .i64 p, .int .i64 q, .int .i64 r, .int .i64 s]] w (MbOut a b c d p q r s w) := by
  have A0 := (Arr.new w a b c d 26).alloc (.cells #[.int .i64 p, .int .i64 q, .int .i64 r, .int .i64 s] 26)
  have P0 := Arr.new (w.alloc (.cells #[.int .i64 a, .int .i64 b, .int .i64 c, .int .i64 d] 26)) p q r s 26
  have U0 := gr_alloc (gr_alloc (Below.refl w.heap.size w) (.cells #[.int .i64 a, .int .i64 b, .int .i64 c, .int .i64 d] 26)) (.cells #[.int .i64 p, .int .i64 q, .int .i64 r, .int .i64 s] 26)
  simp only [World.size_alloc] at P0
  go_enter Try.func13, Try.ntmps13
  go_upto_region 1 with fail
  generalize (w.alloc (.cells #[.int .i64 a, .int .i64 b, .int .i64 c, .int .i64 d] 26)).alloc (.cells #[.int .i64 p, .int .i64 q, .int .i64 r, .int .i64 s] 26) = W0 at A0 P0 U0 ⊢
  obtain ⟨_, a0, a1, a2, a3, _⟩ := id A0
  obtain ⟨_, p0, p1, p2, p3, _⟩ := id P0
  go_wp2_with fail
  refine (iCheck2_any _ a b c d p q r s _ (Two4.new _ _ _ _ _ _ _ _ _ _)).mono ?_
  rintro e w1 ⟨rfl, hb1⟩
  have hbb := (gr_alloc (Below.refl W0.heap.size W0) (.cells #[.int .i64 a, .int .i64 b, .int .i64 c, .int .i64 d, .int .i64 p, .int .i64 q, .int .i64 r, .int .i64 s] 26)).trans (hb1.mono (by simp))
  have A1 := A0.next hbb; have P1 := P0.next hbb; have U1 := gr_trans U0 hbb
  clear a0 a1 a2 a3 p0 p1 p2 p3 A0 P0 U0 hb1 hbb
  unfold MbOut
  by_cases hk : rcd2 a b c d p q r s = 0
  · obtain ⟨hk1, hk2⟩ := rcd2_0 hk
    have HW1 := hid (fun W => iWN_any a b c d hk1 W)
    have HW2 := hid (fun W => iWN_any p q r s hk2 W)
    have HC : Hid (mbc a b c d p q r s = if alM (mbt (a, b, c, d) (p, q, r, s)) then 0 else 3) := hid (by unfold mbc; rw [if_pos hk])
    have HNE := hid (nwy_ne hk2)
    have HNE1 := hid (nwy_ne hk1)
    have HWX : Hid (∀ v ∈ nwy p q r s, ∃ u ∈ Rd.wus (cls p q r s).1 (nfm p q r s), v = Rd.wrF (Rd.mz (cly p q r s) u)) := hid (fun v hv => way_ex hk2 hv)
    have HIV : Hid (∀ u ∈ Rd.wus (cls p q r s).1 (nfm p q r s), ∀ W, Calls Try.prog 54 #[vF (Rd.wrF (Rd.mz (cly p q r s) u))] W fun e w' => e = .returned (.tuple #[vF (Rd.wrF (Rd.ivz (Rd.mz (cly p q r s) u))), .bool true]) ∧ Below W.heap.size W w') := hid (fun u hu W => iInvX_any _ (Rd.dt2_mz (cly_spec hk2).1 (Rd.wus_iff.1 hu).2.1) W)
    have HPM := hid (fun (e : nfm a b c d = nfm p q r s) u0 h0 => mbt_perm hk1 hk2 e (u0 := u0) h0)
    have HNL := hid (fun (e : nfm a b c d ≠ nfm p q r s) => mbt_nil hk1 hk2 e)
    have HBT := hid (fun (e : nfm a b c d = nfm p q r s) u0 h0 xs ha hp => btw_eq hk1 hk2 (btw_of hk1 hk2 e (u0 := u0) h0 (xs := xs) ha hp))
    have HLN := hid (nwy_len a b c d)
    rw [hk]
    clear hk hk1 hk2
    obtain ⟨_, a0, a1, a2, a3, _⟩ := id A1
    go_wp2_with fail
    refine (HW1.out _).mono ?_
    rintro e w2 ⟨v2, rfl, hr2, hb2⟩
    obtain ⟨gv, cv, rfl, hr2d, hr2g⟩ := units_at2 hr2 HNE1.out
    have P2 := P1.next hb2; have U2 := gr_trans U1 hb2
    clear a0 a1 a2 a3 A1 P1 U1 hb2 hr2 HW1
    generalize nfm a b c d = N at HPM HNL HBT ⊢
    generalize nwy a b c d = L at HPM HBT HLN HNE1 hr2d ⊢
    have HNX : ∃ n0 n1 n2 n3, N = (n0, n1, n2, n3) := ⟨N.1, N.2.1, N.2.2.1, N.2.2.2, rfl⟩
    obtain ⟨n0, n1, n2, n3, rfl⟩ := HNX
    unfold vF
    dsimp only
    have N2 := Arr.new w2 n0 n1 n2 n3 26
    have P3 := P2.alloc (.cells #[.int .i64 n0, .int .i64 n1, .int .i64 n2, .int .i64 n3] 26)
    have U3 := gr_alloc U2 (.cells #[.int .i64 n0, .int .i64 n1, .int .i64 n2, .int .i64 n3] 26)
    have L3 := hr2d.next (gr_alloc (Below.refl _ w2) (.cells #[.int .i64 n0, .int .i64 n1, .int .i64 n2, .int .i64 n3] 26)) hr2d.lt
    have HGV := hr2g
    clear P2 U2 hr2d hr2g
    go_upto_region 5 with fail
    generalize hj : w2.heap.size = j at *
    generalize w2.alloc (.cells #[.int .i64 n0, .int .i64 n1, .int .i64 n2, .int .i64 n3] 26) = W3 at N2 P3 U3 L3 ⊢
    clear hj
    obtain ⟨_, p0, p1, p2, p3, _⟩ := id P3
    go_wp2_with fail
    refine (HW2.out _).mono ?_
    rintro e w4 ⟨v4, rfl, hr4, hb4⟩
    obtain ⟨q0, hq0⟩ : ∃ q0, (nwy p q r s)[0]? = some q0 := by
      have := List.length_pos_iff.2 HNE.out
      exact ⟨_, List.getElem?_eq_getElem this⟩
    obtain ⟨u0, hu0, hqe⟩ := HWX.out q0 (List.mem_of_getElem? hq0)
    obtain ⟨gw, cw, rfl, hr4d, _⟩ := units_at2 hr4 HNE.out
    obtain ⟨F4, hn1, hn2, hn3, hn4, hn5⟩ := first_atW hr4 hq0
    have HI0 := hid (HIV.out u0 hu0)
    have HP0 := hid (fun e => HPM.out e u0 hu0)
    have HB0 := hid (fun e => HBT.out e u0 hu0)
    rw [hqe] at F4
    clear HIV HPM HBT HWX hqe hq0 HNE hr4 hr4d
    have N4 := N2.next hb4; have U4 := gr_trans U3 hb4
    have L4 := L3.next hb4 L3.lt
    clear p0 p1 p2 p3 P3 N2 U3 L3 hb4 HW2
    generalize nfm p q r s = M at HP0 HB0 HNL hu0 ⊢
    clear hu0
    generalize Rd.mz (cly p q r s) u0 = X at HI0 HP0 HB0 F4
    generalize (nwy p q r s).length = n4 at hn1 hn2 hn3 hn4 ⊢
    obtain ⟨m0, m1, m2, m3⟩ := M
    unfold vF
    dsimp only
    have N5 := N4.alloc (.cells #[.int .i64 m0, .int .i64 m1, .int .i64 m2, .int .i64 m3] 26)
    have M5 := Arr.new w4 m0 m1 m2 m3 26
    have U5 := gr_alloc U4 (.cells #[.int .i64 m0, .int .i64 m1, .int .i64 m2, .int .i64 m3] 26)
    have L5 := L4.next (gr_alloc (Below.refl _ w4) (.cells #[.int .i64 m0, .int .i64 m1, .int .i64 m2, .int .i64 m3] 26)) L4.lt
    have F5 := F4.alloc (.cells #[.int .i64 m0, .int .i64 m1, .int .i64 m2, .int .i64 m3] 26)
    clear N4 U4 L4 F4
    go_upto_region 6 with fail
    generalize hj : w4.heap.size = j2 at *
    generalize w4.alloc (.cells #[.int .i64 m0, .int .i64 m1, .int .i64 m2, .int .i64 m3] 26) = W5 at N5 M5 U5 L5 F5 ⊢
    clear hj
    obtain ⟨_, c0, c1, c2, c3, _⟩ := id N5
    obtain ⟨_, d0, d1, d2, d3, _⟩ := id M5
    have heq := fun W => eqForm_run n0 n1 n2 n3 m0 m1 m2 m3 W
    have hqb : ((n0, n1, n2, n3) : Red.F4) = (m0, m1, m2, m3) ↔ (n0 == m0 && n1 == m1 && n2 == m2 && n3 == m3) = true := by
      simp only [Prod.mk.injEq, Bool.and_eq_true, beq_iff_eq, and_assoc]
    generalize (n0 == m0 && n1 == m1 && n2 == m2 && n3 == m3) = eb at heq hqb
    have HQ := hid hqb
    clear hqb
    cases eb with
    | false =>
      go_wp2_with fail
      go_ret2
      have hne := HNL.out (fun e => by have := HQ.out.1 e; cases this)
      have hrc : mbc a b c d p q r s = 0 := by rw [HC.out, hne]; rfl
      unfold MbOut
      rw [hrc, hne]
      exact ⟨.slice none 0 0, rfl, .inl ⟨rfl, rfl⟩, by (repeat' (first | with_reducible exact Below.refl _ _ | with_reducible assumption | with_reducible refine gr_alloc ?_ _ | with_reducible refine gr_drew ?_ | with_reducible refine gr_drewN ?_ _ | with_reducible refine gr_trans ?_ (by assumption) | with_reducible refine gr_set ?_ ?_ _ | (simp; done) | omega | (simp; omega)))⟩
    | true =>
      have heqf := HQ.out.2 rfl
      have HP1 := hid (HP0.out heqf)
      have HB1 := hid (HB0.out heqf)
      clear HP0 HB0 HNL HQ heqf
      obtain ⟨Y, hY⟩ : ∃ Y, Y = Rd.wrF (Rd.ivz X) := ⟨_, rfl⟩
      rw [← hY] at HI0 HP1 HB1
      clear hY
      generalize Rd.wrF X = Z at HI0 F5
      obtain ⟨z0, z1, z2, z3⟩ := Z
      obtain ⟨y0, y1, y2, y3⟩ := Y
      unfold vF at HI0
      dsimp only at HI0 F5
      obtain ⟨_, f0, f1, f2, f3⟩ := id F5
      go_wp2_with fail
      refine (HI0.out _).mono ?_
      rintro e w6 ⟨rfl, hb6⟩
      have U6 := gr_alloc (gr_trans U5 hb6) (.cells #[.int .i64 y0, .int .i64 y1, .int .i64 y2, .int .i64 y3] 44)
      have Y6 := Arr.new w6 y0 y1 y2 y3 44
      have L6 := (L5.next hb6 L5.lt).next (gr_alloc (Below.refl _ w6) (.cells #[.int .i64 y0, .int .i64 y1, .int .i64 y2, .int .i64 y3] 44)) (L5.next hb6 L5.lt).lt
      clear c0 c1 c2 c3 d0 d1 d2 d3 f0 f1 f2 f3 N5 M5 U5 L5 F5 hb6 HI0 heq
      go_upto_region 9 with fail
      generalize w6.heap.size = jy at *
      generalize w6.alloc (.cells #[.int .i64 y0, .int .i64 y1, .int .i64 y2, .int .i64 y3] 44) = W6 at U6 Y6 L6 ⊢
      have hL1 := L6.le
      have hL2 := L6.mx
      unfold maxLen at hL2
      generalize hn : L.length = n at hL1 ⊢
      have HN := hid hn
      clear hn
      go_wp2_with fail
      go_loopw [13, 46] (fun s13 s46 wr => ∃ k : Nat, s46 = .int .i64 ((k : Int)) ∧ k ≤ n ∧ RowM W6.heap.size wr s13 ((L.take k).map fun v => Rd.mm v (y0, y1, y2, y3)) ∧ Hid (alM ((L.take k).map fun v => Rd.mm v (y0, y1, y2, y3)) = true) ∧ Below W6.heap.size W6 wr) (fun _ s46 _ => n - (intOf s46).toNat)
      case atStart => exact ⟨0, rfl, Nat.zero_le _, RowM.nil _ _, hid rfl, Below.refl _ _⟩
      case round =>
        obtain ⟨k, rfl, hk, hR, hal, hB⟩ := hrel
        obtain ⟨av, cx, rfl⟩ := hR.val
        by_cases hlt : k < n
        · obtain ⟨q, hq⟩ : ∃ q, L[k]? = some q := ⟨_, List.getElem?_eq_getElem (by have := HN.out; omega)⟩
          have HT : Hid ((L.take (k + 1)).map (fun v => Rd.mm v (y0, y1, y2, y3)) = (L.take k).map (fun v => Rd.mm v (y0, y1, y2, y3)) ++ [Rd.mm q (y0, y1, y2, y3)]) := hid (by rw [List.take_add_one, hq]; simp)
          have HF : Hid (isF (Rd.mm q (y0, y1, y2, y3)).1 (Rd.mm q (y0, y1, y2, y3)).2.1 (Rd.mm q (y0, y1, y2, y3)).2.2.1 (Rd.mm q (y0, y1, y2, y3)).2.2.2 = false → alM (L.map fun v => Rd.mm v (y0, y1, y2, y3)) = false) := hid (fun h => by
            unfold alM
            rw [List.all_eq_false]
            exact ⟨_, List.mem_map.2 ⟨q, List.mem_of_getElem? hq, rfl⟩, by rw [h]; decide⟩)
          have X0 := (L6.next hB L6.lt).at4 k q hq
          have HMP := hid (fun W => iMpF_any q (y0, y1, y2, y3) W)
          have Y7 := Y6.next hB
          generalize Rd.mm q (y0, y1, y2, y3) = G at HT HF HMP
          clear hq
          obtain ⟨x0, x1, x2, x3⟩ := q
          obtain ⟨g0, g1, g2, g3⟩ := G
          unfold vF at HMP
          dsimp only at X0 HT HF HMP
          obtain ⟨_, c0, c1, c2, c3⟩ := id X0
          have e2 : decide ((k : Int) < (n : Int)) = true := by simp; omega
          have hk0 : (0 : Int) ≤ (k : Int) := by omega
          have hkn : (k : Int) < (n : Int) := by omega
          have hll : ((L.take k).map fun v => Rd.mm v (y0, y1, y2, y3)).length = k := by rw [List.length_map, List.length_take]; have := HN.out; omega
          have HLL := hid hll
          have HLL2 : Hid (k ≤ 81) := hid (by have := HN.out; have := HLN.out; omega)
          clear hll
          generalize ((L.take k).map fun v => Rd.mm v (y0, y1, y2, y3)) = K at hR hal HT HLL ⊢
          have X8 := Arr.new wr x0 x1 x2 x3 44
          have Y8 := Y7.alloc (.cells #[.int .i64 x0, .int .i64 x1, .int .i64 x2, .int .i64 x3] 44)
          have R8 := hR.next (gr_alloc (Below.refl _ wr) (.cells #[.int .i64 x0, .int .i64 x1, .int .i64 x2, .int .i64 x3] 44))
          have B8 := gr_alloc hB (.cells #[.int .i64 x0, .int .i64 x1, .int .i64 x2, .int .i64 x3] 44)
          go_upto_region 13 with fail
          generalize wr.heap.size = jx at *
          generalize wr.alloc (.cells #[.int .i64 x0, .int .i64 x1, .int .i64 x2, .int .i64 x3] 44) = W8 at X8 Y8 R8 B8 ⊢
          clear c0 c1 c2 c3 X0 Y7 hR hB
          obtain ⟨_, c0, c1, c2, c3, _⟩ := id X8
          obtain ⟨_, d0, d1, d2, d3, _⟩ := id Y8
          go_wp2_with fail
          refine (HMP.out _).mono ?_
          rintro e w9 ⟨rfl, hb9⟩
          have G9 := Arr.new w9 g0 g1 g2 g3 44
          have R9 := (R8.next hb9).next (gr_alloc (Below.refl _ w9) (.cells #[.int .i64 g0, .int .i64 g1, .int .i64 g2, .int .i64 g3] 44))
          have B9 := gr_alloc (gr_trans B8 hb9) (.cells #[.int .i64 g0, .int .i64 g1, .int .i64 g2, .int .i64 g3] 44)
          clear c0 c1 c2 c3 d0 d1 d2 d3 X8 Y8 R8 B8 hb9 HMP
          go_upto_region 14 with fail
          generalize w9.heap.size = jg at *
          generalize w9.alloc (.cells #[.int .i64 g0, .int .i64 g1, .int .i64 g2, .int .i64 g3] 44) = W9 at G9 R9 B9 ⊢
          obtain ⟨_, c0, c1, c2, c3, _⟩ := id G9
          go_wp2_with fail
          refine (iIsMatrix_any g0 g1 g2 g3 _).mono ?_
          rintro e w10 ⟨rfl, hb10⟩
          have G10 := G9.next hb10
          have R10 := hid (R9.next hb10)
          have B10 := hid (gr_trans B9 hb10)
          clear c0 c1 c2 c3 G9 R9 B9 hb10
          cases hz : isF g0 g1 g2 g3
          · go_wp2_with fail
            go_ret2
            have hrc : mbc a b c d p q r s = 3 := by rw [HC.out, alM_perm HP1.out, HF.out hz]; rfl
            unfold MbOut
            rw [hrc]
            exact ⟨.slice none 0 0, rfl, .inl ⟨rfl, rfl⟩, U6.trans (B10.out.mono U6.size)⟩
          · obtain ⟨_, c0, c1, c2, c3, _⟩ := id G10
            have hs10 := B10.out.size
            go_wp2_with (at_builtin; refine app_m rfl _ _ rfl W6.heap.size rfl R10.out rfl (by have := HLL.out; have := HLL2.out; omega) hs10 ?_)
            intro v' w11 hrow hgrow
            have B11 := RowM.grown (W := W6) (RowM.next R10.out (gr_alloc (Below.refl _ _) _)) (gr_alloc B10.out _) hgrow (Nat.le_refl _)
            go_wp2_with fail
            refine ⟨⟨k + 1, by go_num, by omega, by rw [HT.out]; exact hrow, hid ?_, B11⟩, ?_⟩
            · rw [HT.out]
              have := hal.out
              unfold alM at this ⊢
              rw [List.all_append, this]
              simp [hz]
            · simp only [intOf]
              omega
        · have e2 : decide ((k : Int) < (n : Int)) = false := by simp; omega
          have hkn : k = L.length := by have := HN.out; omega
          subst hkn
          rw [List.take_of_length_le (Nat.le_refl _)] at hR hal ⊢
          have hne : (L.map fun v => Rd.mm v (y0, y1, y2, y3)) ≠ [] := fun e => HNE1.out (List.map_eq_nil_iff.1 e)
          have hll : (L.map fun v => Rd.mm v (y0, y1, y2, y3)).length ≤ 1000 := by rw [List.length_map]; have := HLN.out; omega
          generalize (L.map fun v => Rd.mm v (y0, y1, y2, y3)) = K at hR hal hne hll HP1 HB1 ⊢
          obtain ⟨gr, cr, hge, _, _⟩ := units_at2 hR hne
          rw [hge] at hR ⊢
          have HS := hid (sortM_any hR hll)
          have HB2 := hid hB
          clear hge hR hne hll hB
          generalize hKl : K.length = kl at HS ⊢
          have HKL := hid hKl
          clear hKl
          go_wp2_with fail
          refine HS.out.mono ?_
          rintro e w12 ⟨rfl, ys, hp, ha, hr, hb⟩
          have hys : ys = mbt (a, b, c, d) (p, q, r, s) := HB1.out ys ha hp
          have hrc : mbc a b c d p q r s = 0 := by rw [HC.out, ← hys, alM_perm hp, hal.out]; rfl
          have hyl : ys.length = kl := by rw [hp.length_eq]; exact HKL.out
          have HYS := hid hys; have HRC := hid hrc; have HYL := hid hyl; have HR := hid hr; have HBX := hid hb
          clear hys hrc hyl hr hb hp ha
          go_wp2_with fail
          go_ret2
          unfold MbOut FlsOut
          have ho := (HR.out.base (B' := w.heap.size) U6.size).out
          refine ⟨_, by rw [HRC.out]; rfl, ?_, U6.trans ((HB2.out.trans HBX.out).mono U6.size)⟩
          rw [HRC.out, if_pos rfl, ← HYS.out]
          exact ho
  · have HK := hid hk
    have hk' : (rcd2 a b c d p q r s == 0) = false := by simpa using hk
    have HC : Hid (mbc a b c d p q r s = rcd2 a b c d p q r s) := hid (by unfold mbc; rw [if_neg hk])
    clear hk
    go_wp2_with fail
    go_ret2
    unfold MbOut
    refine ⟨.slice none 0 0, by rw [HC.out]; rfl, ?_, by (repeat' (first | with_reducible exact Below.refl _ _ | with_reducible assumption | with_reducible refine gr_alloc ?_ _ | with_reducible refine gr_drew ?_ | with_reducible refine gr_drewN ?_ _ | with_reducible refine gr_trans ?_ (by assumption) | with_reducible refine gr_set ?_ ?_ _ | (simp; done) | omega | (simp; omega)))⟩
    rw [HC.out, if_neg HK.out]
    exact .inl ⟨rfl, rfl⟩

end Go.Proofs.Ytikmjefbjejbkaa
