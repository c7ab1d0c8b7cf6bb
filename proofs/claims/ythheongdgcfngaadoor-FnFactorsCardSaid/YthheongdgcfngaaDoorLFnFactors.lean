/- FnFactors: factors lead back, rational roots are places with the value 0, and forms are irreducible exactly without them, at every code. One condition, tied to the program's text: the package's error for forms without factors is laid. -/
import Derived.Test.YthheongdgcfngaaDoorFq2
import Derived.Test.YthheongdgcfngaaDoorFd
import Derived.Test.YthheongdgcfngaaDoorFh
namespace Go.Proofs.YthheongdgcfngaaDoor
open Go.ChangeShapes Go.WideShapes Go.ChangeAt Go.RowKit

set_option maxHeartbeats 400000 in
theorem big_any (a : Option Addr) (len cap : Nat) (w : World) :
    Calls Tryd.prog 5 #[.slice a len cap] w fun e w' => e = .returned (.bool (decide (4096 < (len : Int)))) ∧ w = w' := by
  go_enter Tryd.func5, Tryd.ntmps5
  go_wp2
  go_ret
  exact ⟨rfl, rfl⟩

theorem RdP.rdn {w : World} {v : Value} {L : List Int} (h : RdP w v L) {n : Nat} {g : Nat → Int} (hn : n = L.length) (hg : g = fun i => L.getD i 0) : Rd w v n g := by
  subst hn; subst hg
  obtain ⟨b, cap, rfl, h1, h2, h3, h4⟩ := h
  exact .inr ⟨b, cap, rfl, h1, h2, h3, h4⟩
theorem own_rdP {w : World} {B : Nat} {v : Value} {L : List Int} (h : w.ownsRow B 2 1 v L.length (L.map (Value.int .i64))) (hL : L ≠ []) : RdP w v L := by
  obtain ⟨b, cap, rfl, h1, _, h3, h4⟩ := RB.own h hL
  exact h1.rdP h3 h4
theorem take_s {L : List Int} {i : Nat} (h : i < L.length) : L.take (i + 1) = L.take i ++ [L.getD i 0] := by
  rw [List.take_succ_eq_append_getElem h]; simp [List.getD, h]
def bgw (sg n : Int) (L : List Int) : List Int := (bgn sg n L).map wrap64
theorem bgw_len (sg n : Int) (L : List Int) : (bgw sg n L).length = L.length := by simp [bgw, bgn]
theorem bgw_get {sg n : Int} {L : List Int} {i : Nat} (h : i < L.length) : (bgw sg n L).getD i 0 = wrap64 (wrap64 (sg * n) * L.getD i 0) := by
  unfold bgw; rw [getD_mapw, wr_ml]
  simp [bgn, List.getD, h]
theorem bgw_s {w : World} {B : Nat} {v : Value} {sg n : Int} {L : List Int} {i : Nat} (h : i < L.length) {z : Int} (hz : z = wrap64 (wrap64 (sg * n) * L.getD i 0)) (hO : w.ownsRow B 2 1 v (i + 1) (((bgw sg n L).take i).map (Value.int .i64) ++ [.int .i64 z])) :
    w.ownsRow B 2 1 v (i + 1) (((bgw sg n L).take (i + 1)).map (Value.int .i64)) := by
  rw [take_s (by rw [bgw_len]; exact h), List.map_append, bgw_get h, ← hz]; exact hO
theorem wr_form {a b c d : Int} (h : isF a b c d = true) : [a, b, c, d].map wrap64 = [a, b, c, d] := by
  obtain ⟨ha, hb, hc, hd⟩ := isF_t h
  simp only [List.map_cons, List.map_nil, wr_in (show -9000000000000000000 ≤ a ∧ a ≤ 9000000000000000000 by omega), wr_in (show -9000000000000000000 ≤ b ∧ b ≤ 9000000000000000000 by omega), wr_in (show -9000000000000000000 ≤ c ∧ c ≤ 9000000000000000000 by omega), wr_in (show -9000000000000000000 ≤ d ∧ d ≤ 9000000000000000000 by omega)]
/-- A slice that reads as a list, modulo 2^64; its length told. -/
def RdW (w : World) (v : Value) (m : Nat) (M : List Int) : Prop := ∃ b cap, v = .slice (some ⟨b, 0, none⟩) m cap ∧ M.length = m ∧ m ≤ cap ∧ cap ≤ maxLen ∧ b < w.heap.size ∧ ∀ j, j < m → w.cell? ⟨b, j, none⟩ = some (.int .i64 (wrap64 (M.getD j 0)))
theorem RdP.toW {w : World} {v : Value} {M : List Int} {m : Nat} (h : RdP w v (M.map wrap64)) (hm : M.length = m) : RdW w v m M := by
  obtain ⟨b, cap, rfl, h1, h2, h3, h4⟩ := h
  subst hm
  simp only [List.length_map] at h1 h4 ⊢
  exact ⟨b, cap, rfl, rfl, h1, h2, h3, fun j hj => by have := h4 j hj; rwa [getD_mapw] at this⟩
theorem RdW.rd {w : World} {v : Value} {M : List Int} {m : Nat} (h : RdW w v m M) {g : Nat → Int} (hg : ∀ j, j < m → g j = wrap64 (M.getD j 0)) : Rd w v m g := by
  obtain ⟨b, cap, rfl, h0, h1, h2, h3, h4⟩ := h
  exact .inr ⟨b, cap, rfl, h1, h2, h3, fun j hj => by rw [hg j hj]; exact h4 j hj⟩
theorem RdW.next {w w' : World} {v : Value} {M : List Int} {m : Nat} (h : RdW w v m M) (hb : Below w.heap.size w w') : RdW w' v m M := by
  obtain ⟨b, cap, rfl, h0, h1, h2, h3, h4⟩ := h
  exact ⟨b, cap, rfl, h0, h1, h2, Nat.lt_of_lt_of_le h3 hb.size, fun j hj => (hb.cell (p := ⟨b, j, none⟩) h3).trans (h4 j hj)⟩
theorem getD_set1 (L : List Int) (j : Nat) (u : Int) : (L.set j u).getD (j + 1) 0 = L.getD (j + 1) 0 := by simp [List.getD]
theorem RB.mk {w : World} {b : Nat} {L : List Int} (h : RB w b L) (n : Nat) (hn : L.length = n) (hm : n ≤ maxLen) : RdP w (.slice (some ⟨b, 0, none⟩) n n) L := by
  subst hn; exact h.rdP (Nat.le_refl _) hm
theorem rowsC_nil (w : World) (s : Nat) (G : Nat → Nat → Int) (T : Nat → Nat) : RowsC 0 0 w (.slice none 0 0) s 0 G T :=
  ⟨none, 0, rfl, Nat.le_refl _, by unfold maxLen; omega, Nat.zero_le _, fun h => absurd h (Nat.lt_irrefl 0), fun i hi => absurd hi (Nat.not_lt_zero i), fun i j _ hj => absurd hj (Nat.not_lt_zero j)⟩
theorem RB.mk0 (w : World) (n : Nat) (x y : Int) (L : List Int) (hn : n = L.length + 1) : RB (w.alloc (.cells (madeCells #[.int .i64 0] n) 2)) w.heap.size ((nx x y L 0).map wrap64) := by
  have h := RB.made w n
  have e : outL [] n = (nx x y L 0).map wrap64 := by
    rw [nx_0, List.map_replicate, wr_0, ← hn]; simp [outL]
  rw [← e]; exact h

set_option maxRecDepth 1000000 in
set_option maxHeartbeats 8000000 in
theorem FnFactors_walk (w : World) (a0 : Option Addr) (len0 cap0 : Nat) (z0 : List Int) (hR : IsRow .u8 w a0 len0 cap0 z0) (pv : Value) (hg : Sen w pv) :
    Calls Tryd.prog 4 #[.slice a0 len0 cap0] w fun e w' => e = .returned (.bool true) ∧ Below w.heap.size w w' := by
  have HR := hid hR
  clear hR
  by_cases hb : 4096 < (len0 : Int)
  · go_enter Tryd.func4, Tryd.ntmps4
    go_wp2_with (go_at_call 5; refine (big_any _ _ _ _).mono ?_; rintro e w1 ⟨rfl, rfl⟩)
    go_ret
    exact ⟨rfl, Below.refl _ _⟩
  have hlen : len0 ≤ 9223372036854775807 := by omega
  have hb' : decide (4096 < (len0 : Int)) = false := decide_eq_false hb
  have HB := hid hb'
  clear hb
  go_enter Tryd.func4, Tryd.ntmps4
  go_wp2_with (go_at_call 5; refine (big_any _ _ _ _).mono ?_; rintro e w1 ⟨rfl, rfl⟩)
  refine (drawFF_any a0 len0 cap0 z0 _ HR.out hlen).mono ?_
  rintro e w1 ⟨p, q, r, s, rfl, U1⟩
  have M2 := Arr.new w1 p q r s 25
  have U2 := gr_alloc U1 (.cells #[.int .i64 p, .int .i64 q, .int .i64 r, .int .i64 s] 25)
  have G2 := (hg.next U1).alloc (.cells #[.int .i64 p, .int .i64 q, .int .i64 r, .int .i64 s] 25)
  have h1 := fun W hg => iFactorForm_any p q r s pv W hg
  have h2 := fun W => sFactorForm_any p q r s W
  have q1 : rrc p q r s = 0 → mulAll (fac p q r s).1 (bgn (fsg (fac p q r s).2) (cnt p q r s) (frs (fac p q r s).2)) = [p, q, r, s] ∧ (fac p q r s).1.length + (frs (fac p q r s).2).length = 4 ∧ 1 ≤ (frs (fac p q r s).2).length ∧ [p, q, r, s].map wrap64 = [p, q, r, s] :=
    fun h => ⟨fac_all h, (fac_ln h).1, (fac_ln h).2.1, wr_form (rrc_t h).1⟩
  unfold FfOut at h1
  unfold FfM at h2
  generalize rrc p q r s = k at h1 h2 q1
  generalize fsg (fac p q r s).2 = sg at h1 h2 q1
  generalize cnt p q r s = n at h1 h2 q1
  generalize frs (fac p q r s).2 = L at h1 h2 q1
  generalize (fac p q r s).1 = R at h1 h2 q1
  have H1 := hid h1; have H2 := hid h2; have Q1 := hid q1
  clear h1 h2 q1 hg U1
  obtain ⟨_, m0, m1, m2, m3, _⟩ := id M2
  go_wp2_with fail
  refine (H1.out _ G2).mono ?_
  rintro e w3 ⟨hb3, hor⟩
  clear m0 m1 m2 m3
  have M3 := M2.next hb3
  have U3 := gr_trans U2 hb3
  have G3 := G2.next hb3
  clear M2 U2 G2 hb3 H1
  by_cases hk : k = 0
  · obtain ⟨_, vr, bp, cp, TP, rfl, hW, hWb, hWc, hWm, hWl, hWs⟩ := hor.resolve_left (fun h => h.1 hk)
    obtain ⟨hq1, hq2, hq3, hq4⟩ := Q1.out hk
    obtain ⟨TW, W3, _, _⟩ := hW.toC hWb hWs
    obtain ⟨vra, vrc, rfl⟩ := hW.form
    have HQ := hid hq1; have HQ4 := hid hq4
    clear hor hW hWs Q1 hq1 hq4
    subst hk
    obtain ⟨_, m0, m1, m2, m3, _⟩ := id M3
    go_wp2_with fail
    refine (H2.out _).mono ?_
    rintro e w4 ⟨hb4, hor⟩
    obtain ⟨_, vs, bs, cs, TS, rfl, hV, hVb, hVc, hVm⟩ := hor.resolve_left (fun h => h.1 rfl)
    have V4 := hV.rd
    obtain ⟨vsa, vsc, rfl, _⟩ := id V4
    clear m0 m1 m2 m3 hor hV H2
    have M4 := M3.next hb4
    have U4 := gr_trans U3 hb4
    have G4 := G3.next hb4
    have W4 := W3.next hb4
    have B4 := hWb.next hb4
    clear M3 U3 G3 W3 hWb hb4
    have HM4 := hid M4; have HU4 := hid U4; have HG4 := hid G4; have HW4 := hid W4; have HB4 := hid B4; have HV4 := hid V4; have HVb := hid hVb
    clear M4 U4 G4 W4 B4 V4 hVb
    go_wp2_with fail
    refine (rows5M_any _ _ _ _ 2 R.length _ TW _ _ (by omega) HW4.out HV4.out).mono ?_
    rintro e w5 ⟨rfl, hb5⟩
    have HK5 := hid hb5
    clear hb5 HV4
    go_wp2_with fail
    refine (likeI_any _ _ L.length _ _ ((HB4.out.next HK5.out).rd hWc hWm) ((HVb.out.next HK5.out).rd hVc hVm)).mono ?_
    rintro e w6 ⟨rfl, hb6⟩
    have HK6 := hid (gr_trans HK5.out hb6)
    have M6 := HM4.out.next HK6.out
    have U6 := gr_trans HU4.out HK6.out
    have G6 := HG4.out.next HK6.out
    have W6 := HW4.out.next HK6.out
    have B6 := HB4.out.next HK6.out
    clear hb6 HK5 HK6 HM4 HU4 HG4 HW4 HB4 HVb hVc hVm
    go_upto_if 80 with (fail)
    go_cut [] (fun wx => Below w.heap.size w wx ∧ Sen wx pv)
    case first =>
      have HM6 := hid M6; have HU6 := hid U6; have HG6 := hid G6; have HW6 := hid W6; have HB6 := hid B6
      clear M6 U6 G6 W6 B6
      have O0 := hid (owns_empty w6 w6.heap.size 2 1 (Nat.le_refl _))
      have K0 := hid (gr_alloc (Below.refl w6.heap.size w6) (.cells #[] 2))
      have hlW := hid (bgw_len sg n L)
      have hLne : L ≠ [] := fun e => by rw [e] at hq3; simp at hq3
      have hbp := HB6.out.lt
      unfold maxLen at hWm
      go_wp2_with fail
      go_loopw [14, 15] (fun s14 s15 wr => ∃ i : Nat, i ≤ L.length ∧ s15 = .int .i64 ((i : Int)) ∧ wr.ownsRow w6.heap.size 2 1 s14 i (((bgw sg n L).take i).map (Value.int .i64)) ∧ Below w6.heap.size w6 wr) (fun _ s15 _ => L.length - (intOf s15).toNat)
      case atStart => exact ⟨0, Nat.zero_le _, rfl, by simpa using O0.out, K0.out⟩
      case round =>
        obtain ⟨i, hi, rfl, hO, hK⟩ := hrel
        have HO := hid hO; have HK := hid hK
        have hv := hK.size
        clear hO hK
        by_cases hlt : i < L.length
        · have ci : wr.cell? ⟨bp, i, none⟩ = some (.int .i64 (L.getD i 0)) := (HK.out.cell (p := ⟨bp, i, none⟩) hbp).trans (HB6.out.cl.2 i hlt).1
          obtain ⟨c1, hc1⟩ : ∃ c, wrap64 (sg * n) = c := ⟨_, rfl⟩
          obtain ⟨z, hz⟩ : ∃ c, wrap64 (c1 * L.getD i 0) = c := ⟨_, rfl⟩
          have HZ := hid (show z = wrap64 (wrap64 (sg * n) * L.getD i 0) by rw [hc1, hz])
          generalize L.getD i 0 = l at ci hz
          go_wp2_with (at_builtin; refine app_i64 rfl _ _ rfl w6.heap.size rfl HO.out rfl (by omega) (by omega) ?_)
          intro y1 W1 O1 hg1
          rw [← List.map_take] at O1
          have HO1 := hid (bgw_s hlt HZ.out O1)
          have HK1 := hid (gr_own (gr_alloc HK.out _) hg1 (fun j hj => (HO.out.lt j hj).1))
          clear O1 hg1 ci hz hc1
          go_wp2_with fail
          go_roundw
          case rel => exact ⟨i + 1, by omega, by go_num, HO1.out, HK1.out⟩
          case measure => simp [intOf]; omega
        · have e : i = L.length := by omega
          subst e
          have ho := HO.out
          rw [List.take_of_length_le (by rw [hlW.out]; exact Nat.le_refl _)] at ho
          have hrd := own_rdP (L := bgw sg n L) (by rw [hlW.out]; exact ho) (fun e => hLne (List.length_eq_zero_iff.1 (by rw [← hlW.out, e]; rfl)))
          have HRd := hid (RdP.toW (M := bgn sg n L) (m := L.length) hrd (by simp [bgn]))
          obtain ⟨wa, hwa⟩ : ∃ wa, wa = wr := ⟨_, rfl⟩
          subst hwa
          clear ho hrd HO hlt
          go_wp2_with fail
          go_loopw [14, 16] (fun s14 s16 wr => ∃ i m : Nat, i ≤ R.length ∧ Hid (m = L.length + i) ∧ s16 = .int .i64 ((i : Int)) ∧ RdW wr s14 m (mulAll (R.take i) (bgn sg n L)) ∧ Below w6.heap.size w6 wr) (fun _ s16 _ => R.length - (intOf s16).toNat)
          case atStart => exact ⟨0, L.length, Nat.zero_le _, hid rfl, rfl, HRd.out, HK.out⟩
          case round =>
            obtain ⟨i, m, hi, hm, rfl, hRd, hK⟩ := hrel
            obtain ⟨wb, hwb⟩ : ∃ wb, wb = wr := ⟨_, rfl⟩
            subst hwb
            have HRd := hid hRd; have HK := hid hK
            have hv := hK.size
            clear hRd hK
            by_cases hlt : i < R.length
            · obtain ⟨a1, cap1, e1, _, _, hC, ha, hr, _⟩ := HW6.out
              cases e1
              obtain ⟨g, rfl, hgB, hg, hcell⟩ := ha (by omega)
              obtain ⟨hTB, hTC, hcl⟩ := hr i hlt
              have hm3 : m ≤ 3 := by have := hm.out; omega
              have hgs : g < w6.heap.size := by omega
              have hts : TW i < w6.heap.size := by omega
              have c0 := (HK.out.cell (p := ⟨g, i, none⟩) hgs).trans (hcell i hlt).1
              have r0 : wb.cell? ⟨TW i, 0, none⟩ = some (.int .i64 ((R.getD i []).getD 0 0)) := (HK.out.cell (p := ⟨TW i, 0, none⟩) hts).trans (hcl.2 0 (by omega)).1
              have r1 : wb.cell? ⟨TW i, 1, none⟩ = some (.int .i64 ((R.getD i []).getD 1 0)) := (HK.out.cell (p := ⟨TW i, 1, none⟩) hts).trans (hcl.2 1 (by omega)).1
              have HMT := hid (mulAll_take hlt (bgn sg n L))
              obtain ⟨b, cap, rfl, hMm, hlc, hcm, hb, hc⟩ := HRd.out
              have HMm := hid hMm; have HC := hid hc
              clear hcell hcl hMm hc HRd ha hr
              unfold maxLen at hcm
              generalize (R.getD i []).getD 0 0 = x at r0 HMT
              generalize (R.getD i []).getD 1 0 = y at r1 HMT
              generalize TW i = t at c0 r0 r1 hts
              generalize hMd : mulAll (R.take i) (bgn sg n L) = M at HMT HMm HC
              clear hMd
              have hmk := run_make_row' (P := Tryd.prog) 35 2 (.int .i64 0) 8 Tryd.underlying35 info_l64 rfl .i64 .i64 (m + 1) (by omega) (by omega) wb
              rw [show ((m + 1 : Nat) : Int) = (m : Int) + 1 from by omega] at hmk
              have R0 := hid (RB.mk0 wb (m + 1) x y M (by rw [HMm.out]))
              have U0 := hid (gr_alloc (Below.refl wb.heap.size wb) (.cells (madeCells #[Value.int .i64 0] (m + 1)) 2))
              go_wp2_with fail
              clear hmk
              generalize (wb.alloc (.cells (madeCells #[Value.int .i64 0] (m + 1)) 2)) = W0 at R0 U0 ⊢
              go_loopw [18] (fun s18 wr => ∃ j : Nat, j ≤ m ∧ s18 = .int .i64 ((j : Int)) ∧ RB wr wb.heap.size ((nx x y M j).map wrap64) ∧ Below wb.heap.size wb wr) (fun s18 _ => m - (intOf s18).toNat)
              case atStart => exact ⟨0, Nat.zero_le _, rfl, R0.out, U0.out⟩
              case round =>
                obtain ⟨j, hj, rfl, hR, hU⟩ := hrel
                have HRj := hid hR; have HU := hid hU
                have hsz := hU.size
                have hbl := hR.lt
                by_cases hjl : j < m
                · have d0 := (hU.cell (p := ⟨g, i, none⟩) (by show g < _; omega)).trans c0
                  have d1 := (hU.cell (p := ⟨t, 0, none⟩) (by show t < _; omega)).trans r0
                  have d2 := (hU.cell (p := ⟨t, 1, none⟩) (by show t < _; omega)).trans r1
                  have cl := (hU.cell (p := ⟨b, j, none⟩) hb).trans (HC.out j hjl)
                  obtain ⟨p0, f0⟩ := hR.cl.2 j (by rw [List.length_map, nx_len, HMm.out]; omega)
                  obtain ⟨p1, f1⟩ := hR.cl.2 (j + 1) (by rw [List.length_map, nx_len, HMm.out]; omega)
                  have HST := hid (fun u v => nx_s (x := x) (y := y) (L := M) (j := j) (by rw [HMm.out]; exact hjl) (u := u) (v := v))
                  simp only [getD_mapw] at p0 p1
                  obtain ⟨q0, hq0⟩ : ∃ q, q = wrap64 ((nx x y M j).getD j 0) := ⟨_, rfl⟩
                  obtain ⟨q1, hq1⟩ : ∃ q, q = wrap64 ((nx x y M j).getD (j + 1) 0) := ⟨_, rfl⟩
                  obtain ⟨l, hl⟩ : ∃ q, q = wrap64 (M.getD j 0) := ⟨_, rfl⟩
                  rw [← hq0] at p0
                  rw [← hq1] at p1
                  rw [← hl] at cl
                  have HST2 := hid (fun u v h1 h2 => HST.out u v (by rw [← hq0, ← hl]; exact h1) (by rw [← hq1, ← hl]; exact h2))
                  have hl2 := hid hl.symm; have hq2 := hid hq1.symm
                  have HST3 := hid (HST2.out _ _ rfl rfl)
                  clear hq0 hq1 hl HST HST2 hR hU
                  have C0 := hid c0; have C1 := hid r0; have C2 := hid r1; have CL := hid (HC.out j hjl)
                  clear c0 r0 r1
                  have e1 : (j : Int) < (m : Int) + 1 := by omega
                  have e2 : (j : Int) + 1 < (m : Int) + 1 := by omega
                  have e3 : (j : Int) < (m : Int) := by omega
                  have e4 : (i : Int) < (R.length : Int) := by omega
                  have e5 : IntKind.i64.wrap ((j : Int) + 1) = (j : Int) + 1 := i64d (by omega)
                  have e6 : (0 : Int) ≤ (j : Int) + 1 := by omega
                  have e7 : ((j : Int) + 1).toNat = j + 1 := by omega
                  go_wp2_with fail
                  go_still_tail 18, (by kernel_rfl)
                  go_wp2_with fail
                  clear d0 d1 d2 cl p0 f0 p1 f1
                  have X1 := (HRj.out.set j (wrap64 (q0 + wrap64 (y * l)))).next (gr_drew (Below.refl _ _))
                  have K1 := gr_drew (gr_set HU.out (Nat.le_refl _) (.int .i64 (wrap64 (q0 + wrap64 (y * l)))) (p := ⟨wb.heap.size, j, none⟩))
                  generalize (World.setCell wr ⟨wb.heap.size, j, none⟩ (.int .i64 (wrap64 (q0 + wrap64 (y * l))))).drew = W1 at X1 K1 ⊢
                  have hK1z := K1.size
                  have d0 := (K1.cell (p := ⟨g, i, none⟩) (by show g < _; omega)).trans C0.out
                  have d1 := (K1.cell (p := ⟨t, 0, none⟩) (by show t < _; omega)).trans C1.out
                  have d2 := (K1.cell (p := ⟨b, j, none⟩) hb).trans CL.out
                  rw [hl2.out] at d2
                  have hbl1 := X1.lt
                  obtain ⟨p1, f1⟩ := X1.cl.2 (j + 1) (by rw [List.length_set, List.length_map, nx_len, HMm.out]; omega)
                  simp only [getD_set1, getD_mapw] at p1
                  rw [hq2.out] at p1
                  have HX1 := hid X1; have HK1 := hid K1
                  clear X1 K1
                  go_still_tail 20, (by kernel_rfl)
                  go_wp2_with fail
                  have X2 := (HX1.out.set (j + 1) (wrap64 (q1 - wrap64 (x * l)))).next (gr_drew (Below.refl _ _))
                  have K2 := gr_drew (gr_set HK1.out (Nat.le_refl _) (.int .i64 (wrap64 (q1 - wrap64 (x * l)))) (p := ⟨wb.heap.size, j + 1, none⟩))
                  rw [HST3.out] at X2
                  go_roundw
                  case rel => exact ⟨j + 1, by omega, by go_num, X2, K2⟩
                  case measure => simp [intOf]; omega
                · have e : j = m := by omega
                  subst e
                  clear hjl
                  have HR2 := hid (show RB wr wb.heap.size ((mulL x y M).map wrap64) by rw [← nx_e, HMm.out]; exact HRj.out)
                  clear hR HRj
                  go_wp2_with fail
                  go_roundw
                  case rel => exact ⟨i + 1, j + 1, by omega, hid (by have := hm.out; omega), by go_num, by rw [HMT.out]; exact RdP.toW (HR2.out.mk (j + 1) (by rw [List.length_map, mulL_len, HMm.out]) (by unfold maxLen; omega)) (by rw [mulL_len, HMm.out]), HK.out.trans (HU.out.mono hv)⟩
                  case measure => simp [intOf]; omega
            · have e : i = R.length := by omega
              subst e
              have hRd := HRd.out
              rw [List.take_length, HQ.out] at hRd
              obtain ⟨b, cap, rfl, hMm, hlc, hcm, hb, hc⟩ := hRd
              have hm4 : 4 = m := hMm
              subst hm4
              have HA := hid (show Rd wb (.slice (some ⟨b, 0, none⟩) 4 cap) 4 (fun j => [p, q, r, s].getD j 0) from .inr ⟨b, cap, rfl, hlc, hcm, hb, fun j hj => by rw [hc j hj, ← getD_mapw, HQ4.out]⟩)
              have M7 := HM6.out.next HK.out
              have U7 := hid (HU6.out.trans (HK.out.mono HU6.out.size))
              have G7 := hid (HG6.out.next HK.out)
              have N7 := hid ((RdP.arr (Arr.new wb p q r s 2)).rdn (n := 4) (g := fun j => [p, q, r, s].getD j 0) rfl rfl)
              have K7 := hid (gr_alloc (Below.refl wb.heap.size wb) (.cells #[.int .i64 p, .int .i64 q, .int .i64 r, .int .i64 s] 2))
              clear hMm hc hlt HRd
              obtain ⟨_, m0, m1, m2, m3, _⟩ := id M7
              go_wp2_with fail
              refine (likeI_any _ _ 4 (fun j => [p, q, r, s].getD j 0) _ (HA.out.next K7.out) N7.out).mono ?_
              rintro e w9 ⟨rfl, hb9⟩
              have K9 := hid (gr_trans K7.out hb9)
              clear m0 m1 m2 m3 hb9
              go_wp2_with fail
              go_meet
              exact ⟨U7.out.trans (K9.out.mono U7.out.size), G7.out.next K9.out⟩
    case rest =>
      obtain ⟨h1, h2⟩ := hcut
      go_step
      exact fseg80_any w a0 len0 cap0 z0 HR hlen pv _ h1 h2 _ _ _ _ _ _ _ _ _ _ _ _ _ _ _ _ _ _ _ _ _ _ _ _ _ _ _ _ _ _ _ _ _ _ _ _ _ _ _ _ _ _ _ _ _ _ _ _ _ _ _ _ _ _ _ _ _ _ _ _ _ _ _ _ _ _ _ _ _ _ _ _ _ _ _ _ _ _ _ _ _ _ _ _ _ _ _ _ _ _ _ _ _ _ _ _ _ _ _ _ _ _ _ _ _ _ _ _ _ _ _ _ _ _ _ _ _ _ _ _ _ _ _ _ _ _ _ _ _ _ _ _ _ _ _ _ _ _ _ _ _ _ _ _ _ _ _ _ _ _ _ _ _ _ _ _ _ _ _ _ _ _ _ _ _ _ _ _ _ _ _ _ _ _ _ _ _ _ _ _ _ _ _ _ _ _ _ _ _ _ _ _ _ _ _ _ _ _ _ _ _ _ _ _ _ _ _ _ _ _ _ _ _ _ _ _ _ _ _ _ _ _ _ _ _ _ _ _ _ _ _ _ _ _ _ _ _ _ _ _ _ _ _ _ _ _ _ _ _ _ _ _ _ _ _ _ _ _
  · obtain ⟨_, rfl⟩ := hor.resolve_right (fun h => hk h.1)
    have hkf : (k == 0) = false := by simpa using hk
    have HK := hid hk
    clear hor Q1 hk
    obtain ⟨_, m0, m1, m2, m3, _⟩ := id M3
    go_wp2_with fail
    refine (H2.out _).mono ?_
    rintro e w4 ⟨hb4, hor⟩
    obtain ⟨_, rfl⟩ := hor.resolve_right (fun h => HK.out h.1)
    have U4 := gr_trans U3 hb4
    have G4 := G3.next hb4
    clear hor m0 m1 m2 m3 M3 U3 G3 hb4
    go_wp2_with fail
    refine (rows5_any 0 0 0 0 _ _ 2 0 (fun _ _ => 0) (fun _ => 0) (fun _ => 0) _ (by omega) (rowsC_nil _ _ _ _) (rowsC_nil _ _ _ _)).mono ?_
    rintro e w5 ⟨rfl, hb5⟩
    have U5 := gr_trans U4 hb5
    have G5 := G4.next hb5
    clear U4 G4 hb5
    go_wp2_with fail
    refine (likeI_any _ _ 0 (fun _ => 0) _ (.inl ⟨rfl, rfl⟩) (.inl ⟨rfl, rfl⟩)).mono ?_
    rintro e w6 ⟨rfl, hb6⟩
    have U6 := gr_trans U5 hb6
    have G6 := G5.next hb6
    clear U5 G5 hb6
    go_upto_if 80 with (fail)
    go_cut [] (fun wx => Below w.heap.size w wx ∧ Sen wx pv)
    case first =>
      go_wp2_with fail
      go_meet
      exact ⟨U6, G6⟩
    case rest =>
      obtain ⟨h1, h2⟩ := hcut
      go_step
      exact fseg80_any w a0 len0 cap0 z0 HR hlen pv _ h1 h2 _ _ _ _ _ _ _ _ _ _ _ _ _ _ _ _ _ _ _ _ _ _ _ _ _ _ _ _ _ _ _ _ _ _ _ _ _ _ _ _ _ _ _ _ _ _ _ _ _ _ _ _ _ _ _ _ _ _ _ _ _ _ _ _ _ _ _ _ _ _ _ _ _ _ _ _ _ _ _ _ _ _ _ _ _ _ _ _ _ _ _ _ _ _ _ _ _ _ _ _ _ _ _ _ _ _ _ _ _ _ _ _ _ _ _ _ _ _ _ _ _ _ _ _ _ _ _ _ _ _ _ _ _ _ _ _ _ _ _ _ _ _ _ _ _ _ _ _ _ _ _ _ _ _ _ _ _ _ _ _ _ _ _ _ _ _ _ _ _ _ _ _ _ _ _ _ _ _ _ _ _ _ _ _ _ _ _ _ _ _ _ _ _ _ _ _ _ _ _ _ _ _ _ _ _ _ _ _ _ _ _ _ _ _ _ _ _ _ _ _ _ _ _ _ _ _ _ _ _ _ _ _ _ _ _ _ _ _ _ _ _ _ _ _ _ _ _ _ _ _ _ _ _ _ _ _ _ _

set_option maxRecDepth 100000 in
set_option maxHeartbeats 1000000 in
theorem FnFactors_lifted (os : Os) (started : os.Started) (H : Type) (enc : TypeId × Value → H) :
    ReturnsInHanded {} Tryd.checked os 4 .any (fun w args => (Rows.fnFactorsSpec.pre enc Tryd.prog Tryd.f4 Rows.fnFactorsRow.domain false w args ∧ laidMetH Tryd.prog Rows.fnFactorsRow.laid w) ∧ sizedMet enc Tryd.prog Tryd.f4 (OpenSpec.ofChange Rows.fnFactorsSpec) false w args)
      (Rows.fnFactorsSpec.post enc Tryd.prog Tryd.f4 false true false false) := by
  refine returnsInHanded_of_change_and (C := Tryd.checked) (X := fun w _ => laidMetH Tryd.prog Rows.fnFactorsRow.laid w) (fun _ _ _ hh h => h.of_heap hh) own started (by kernel_rfl) Tryd.func4
    (ChangeSpec.witness_shaped (enc := enc) (C := Tryd.checked) (os := os) (X := fun w _ => laidMetH Tryd.prog Rows.fnFactorsRow.laid w) false (World.doorLaid Tryd.prog 400 os) #[.slice none 0 0] 8 rfl (World.shaped_of_RefB (by kernel_rfl) (by kernel_rfl)) (by kernel_rfl) (by kernel_rfl) (by kernel_rfl) (nf_door os _)) ?_
  intro W base args ds gs before hval0 hW _ _ hL _
  have hval : ∀ (j : Nat) t v, Tryd.f4.params[j]? = some t → args[j]? = some v → Value.okWide Tryd.prog W .any base t v := hval0
  have hW' := hW
  obtain ⟨p, q, hA0, hV, rfl, hfz, hnd⟩ := hW
  have hA : DataW.TrodAll enc Tryd.prog W 0 (fun _ => true) true Tryd.f4.params.toList args.toList ds p := hA0
  rw [Tryd.params4] at hA hval
  obtain ⟨v0, vs0, d0, ds0, p0, q0, hargs, rfl, rfl, h0, r0⟩ := trodAll_cons hA
  obtain ⟨rfl, rfl, rfl⟩ := trodAll_nil r0
  obtain rfl : args = #[v0] := by cases args; simp_all
  obtain ⟨x0, hv0, hs0⟩ := nf_laid hL
  obtain ⟨rfl, rfl⟩ := DataW.TrodVars.unique hV (vars_read1 enc nfG nfT Tryd.underlying60 hv0 trivial _)
  have k0 := h0
  have lt0 : ∀ x ∈ p0, x.block < W.heap.size := by obtain ⟨m, hm⟩ := k0; exact DataW.trod_lt m _ _ _ hm
  obtain ⟨a0, len0, cap0, rfl⟩ := okWide_slice Tryd.underlying22 (hval 0 22 v0 rfl rfl)
  obtain ⟨z0, w0⟩ := open_row (k := .u8) Tryd.underlying22 Tryd.underlying5 (by kernel_rfl) h0
  clear hA0 hval0
  refine (FnFactors_walk W a0 len0 cap0 z0 w0 x0 hs0).mono fun e W' ⟨he, bel⟩ => ?_
  subst he
  exact ⟨_, rfl, _, _, _, [], _, _, hW', trodAll_mk1 (shut_bool Tryd.underlying4 _), (trodAll_cons_mk (Below.trod laidOut (by kernel_rfl) (of_decide_eq_true (by kernel_rfl)) k0 bel lt0) trodAll_mk0), vars_read1 enc nfG nfT Tryd.underlying60 (var_below hv0 bel) trivial _, bel.frame _, fun h => by cases h⟩

/-- The row of the statement. -/
theorem FnFactors_holds : Rows.FnFactorsSaid :=
  OpenClaim.holds_of_wide 4 Tryd.f4 rfl rfl rfl rfl rfl rfl rfl ⟨rfl, rfl, rfl, rfl, rfl⟩ rfl rfl rfl rfl rfl (by kernel_rfl) Tryd.func4 (by kernel_rfl)
    (of_decide_eq_true (by kernel_rfl)) (by unfold Func.isWrapper; first | (rw [if_pos (by decide +kernel)]; kernel_rfl) | (rw [if_neg (by decide +kernel)]; exact ⟨rfl, rfl⟩))
    (fun os started H enc _ => FnFactors_lifted os started H enc)

/-- THE STATEMENT: the row, its listed variable tied to the program's text. -/
theorem FnFactors_card : Rows.FnFactorsCardSaid :=
  Claim7.holds_tied_plain_at .later [] [.sentinel] true (true, "510d2517ffddf7eb3185bdad01490d3d89d5404ab72b2a0d60baba20ef83c2ed") true
    FnFactors_holds (fun _ h => by cases h) (by kernel_rfl) (fun _ h => by cases h) fnFactors_row_tie rfl ⟨rfl, rfl⟩ (by kernel_rfl) rfl
    (fun f fn hf hfn => by
      obtain rfl : f = 4 := Option.some.inj ((show Tryd.prog.funcNamed "loop.example/g01342/laws.FnFactors" = some 4 by kernel_rfl).symm.trans hf) |>.symm
      obtain rfl : fn = Tryd.f4 := (Option.some.inj (Tryd.func4.symm.trans hfn)).symm
      exact ⟨by kernel_rfl, fun j t ht => by
        rw [Tryd.params4] at ht
        have hm : t ∈ [22] := by simpa using Array.mem_of_getElem? ht
        have hall : ([22].all fun u => !Tryd.prog.wantsStandIn u) = true := by kernel_rfl
        exact (show Tryd.prog.wantsStandIn t = false by simpa using List.all_eq_true.1 hall t hm)⟩)
    (by kernel_rfl)
#print axioms FnFactors_card

end Go.Proofs.YthheongdgcfngaaDoor
