/- Several texts in one: XSp2, XSp3. -/
import Derived.Test.YtipeeljapmiciaaW2

/- Chapter 2: ReducedForms: the program. -/
namespace Go.Proofs.Ytipeeljapmiciaa
open Go.RowKit

set_option maxRecDepth 100000 in
set_option maxHeartbeats 4000000 in
theorem iReducedForms_any (a b c d : Int) (w : World) : Calls Try.prog 17 #[.agg #[.int .i64 a, .int .i64 b, .int .i64 c, .int .i64 d]] w (RfOut a b c d w) := by
  have A0 := (Arr.new w a b c d 23).alloc (.cells #[.int .i64 a, .int .i64 b, .int .i64 c, .int .i64 d] 23)
  have B0 := Arr.new (w.alloc (.cells #[.int .i64 a, .int .i64 b, .int .i64 c, .int .i64 d] 23)) a b c d 23
  have U0 := gr_alloc (gr_alloc (Below.refl w.heap.size w) (.cells #[.int .i64 a, .int .i64 b, .int .i64 c, .int .i64 d] 23)) (.cells #[.int .i64 a, .int .i64 b, .int .i64 c, .int .i64 d] 23)
  simp only [World.size_alloc] at B0
  go_enter Try.func17, Try.ntmps17
  go_wp2_with fail
  refine (iCheck1_any _ a b c d _ B0).mono ?_
  rintro e w1 ⟨rfl, hb1⟩
  have A1 := A0.next hb1; have U1 := gr_trans U0 hb1
  clear A0 B0 U0 hb1
  unfold RfOut
  by_cases hk : rcd a b c d = 0
  · have HW := hid (fun W => iWy_any a b c d hk W)
    have HC : Hid (rfc a b c d = if alF (frms a b c d) then 0 else 3) := hid (by unfold rfc; rw [if_pos hk])
    have HGF : Hid (∀ xs, Rd.Got (decide (0 < dsc a b c d)) (cls a b c d).1 (Rd.uni 81) xs → xs = frms a b c d) := hid (fun xs h => got_frms h)
    have hke : (Rd.grp (decide (0 < dsc a b c d)) (cls a b c d).1 (cls a b c d).2.1 (Rd.uni 81)).map (·.1) ≠ [] := by
      intro e
      have h1 : (cls a b c d).1 ∈ (Rd.grp (decide (0 < dsc a b c d)) (cls a b c d).1 (cls a b c d).2.1 (Rd.uni 81)).map (·.1) := (Rd.grp_keys _ _ _ _ _).2 ⟨(1, 0, 0, 1), Rd.uni_has (by unfold Rd.Sm; decide) (by decide), by rw [Rd.ch_one]; exact (cls_spec hk).2.2.1, Rd.ch_one _⟩
      rw [e] at h1; cases h1
    have HKE := hid hke
    have HN := hid (Rd.grp_num (decide (0 < dsc a b c d)) (cls a b c d).1 (cls a b c d).2.1 (Rd.uni 81))
    have HL := hid (Rd.uni_len 81)
    have HGK := hid (Rd.grp_keys (decide (0 < dsc a b c d)) (cls a b c d).1 (cls a b c d).2.1 (Rd.uni 81))
    rw [hk]
    clear hk hke
    generalize decide (0 < dsc a b c d) = s at *
    generalize (cls a b c d).1 = T at *
    generalize (cls a b c d).2.1 = M at *
    generalize Rd.uni 81 = us at *
    generalize Rd.grp s T M us = G at *
    obtain ⟨_, a0, a1, a2, a3, _⟩ := id A1
    go_wp2_with fail
    refine (HW.out _).mono ?_
    rintro e w2 ⟨bm, L, BB, rfl, hmp, hwy, hBB, hbm, hb2⟩
    have U2 := gr_trans U1 hb2
    have HWY := hid hwy
    have HMP := hid hmp
    clear a0 a1 a2 a3 A1 U1 hb2 hmp hwy HW
    go_wp2_with fail
    refine (mapKeys_any bm _).mono ?_
    rintro e w3 ⟨rfl, hw3⟩
    have hk3 : w3.cell? ⟨w2.heap.size, 0, none⟩ = some (.map (some bm)) := by rw [hw3]; simp [go_sem]
    have hs3 : w2.heap.size < w3.heap.size := by rw [hw3]; simp
    have hb3 : Below w2.heap.size w2 w3 := by rw [hw3]; exact gr_alloc (Below.refl _ _) _
    clear hw3
    have U3 := gr_trans U2 hb3
    have HP3 := hid (HMP.out.nextW hb3)
    have hLl := HWY.out.len
    have hLn : L.length ≤ 1000 := by have := HN.out; have := HL.out; omega
    have hst := keys_stops w2.heap.size bm 2 L w3 (by omega) hs3 hk3 HP3.out
    have hLne : L.map (·.1) ≠ [] := by rw [HWY.out.keys]; exact HKE.out
    have HC3 := hid (sortedF_any 79 #[.pointer (some ⟨w2.heap.size, 0, none⟩)] (fun xs => xs.Perm (L.map (·.1))) (fun _ => True) L.length hLn w3 (enters_of Try.func79 (by kernel_rfl) rfl) hst (fun xs hx => ⟨fun e => hLne (by rw [e] at hx; exact List.Perm.nil_eq hx |>.symm), by have := hx.length_eq; rw [List.length_map] at this; omega⟩))
    clear hst hk3 U2 hb3 HMP
    go_wp2_with fail
    refine HC3.out.mono ?_
    rintro e w4 ⟨g, n, cap, xs, ys, rfl, hpx, hpy, hasc, hrow, hb4⟩
    have U4 := gr_trans U3 hb4
    have hys : ys = frms a b c d := by
      refine HGF.out ys ⟨hasc.srt ((hpy.trans hpx).nodup_iff.2 HWY.out.nodup), fun q => ?_⟩
      rw [(hpy.trans hpx).mem_iff, HWY.out.keys]
      exact HGK.out q
    rw [← hys] at HC
    have HYS := hid hys
    have HYL : Hid (ys.length ≤ 1000) := hid (by have h1 := (hpy.trans hpx).length_eq; rw [List.length_map] at h1; omega)
    have hR := hid (hrow.base (B' := w.heap.size) (by have := U3.size; omega))
    clear hrow hys hpx hpy hasc hb4 HC3 HWY HGF HGK HKE HN HL HP3 U3 hLl hLn hLne hs3
    have hn : n = ys.length := hR.out.rda.2
    have HNE := hid hn
    clear hn
    have hc1 := hR.out.rda.1.le
    have hc2 := hR.out.rda.1.mx
    unfold maxLen at hc2
    have hc3 : n ≤ cap := by have := HNE.out; omega
    go_wp2_with fail
    go_loopw [20] (fun s20 wr => ∃ k : Nat, s20 = .int .i64 ((k : Int)) ∧ k ≤ n ∧ Hid (alF (ys.take k) = true) ∧ Below w4.heap.size w4 wr) (fun s20 _ => n - (intOf s20).toNat)
    case atStart => exact ⟨0, rfl, Nat.zero_le _, hid rfl, Below.refl _ _⟩
    case round =>
      obtain ⟨k, rfl, hk, hal, hB⟩ := hrel
      by_cases hlt : k < n
      · obtain ⟨q, hq⟩ : ∃ q, ys[k]? = some q := ⟨_, List.getElem?_eq_getElem (by have := HNE.out; omega)⟩
        have HT : Hid (alF (ys.take (k + 1)) = isF q.1 q.2.1 q.2.2.1 q.2.2.2) := hid (by
          rw [List.take_add_one, hq]
          have := hal.out
          unfold alF at this ⊢
          rw [List.all_append, this]
          simp)
        have HF : isF q.1 q.2.1 q.2.2.1 q.2.2.2 = false → alF ys = false := fun h => by
          unfold alF
          rw [List.all_eq_false]
          exact ⟨q, List.mem_of_getElem? hq, by rw [h]; decide⟩
        have HF' := hid HF
        have Y0 := (hR.out.next hB).rda.1.at4 k q hq
        clear hq HF hal
        obtain ⟨y0, y1, y2, y3⟩ := q
        dsimp only at Y0 HT HF'
        obtain ⟨_, c0, c1, c2, c3⟩ := id Y0
        have e2 : decide ((k : Int) < (n : Int)) = true := by simp; omega
        have hk0 : (0 : Int) ≤ (k : Int) := by omega
        have hkn : (k : Int) < (n : Int) := by omega
        go_wp2_with fail
        refine (iIsForm_any y0 y1 y2 y3 _).mono ?_
        rintro e w5 ⟨rfl, hb5⟩
        have B5 := gr_trans (gr_alloc hB (.cells #[.int .i64 y0, .int .i64 y1, .int .i64 y2, .int .i64 y3] 23)) hb5
        clear c0 c1 c2 c3 Y0 hb5
        cases hz : isF y0 y1 y2 y3
        · go_wp2_with fail
          go_ret2
          have hrc : rfc a b c d = 3 := by rw [HC.out, HF'.out hz]; rfl
          unfold RfOut
          refine ⟨⟨.slice none 0 0, by rw [hrc]; rfl, ?_, by (repeat' (first | with_reducible exact Below.refl _ _ | with_reducible assumption | with_reducible refine gr_alloc ?_ _ | with_reducible refine gr_drew ?_ | with_reducible refine gr_drewN ?_ _ | with_reducible refine gr_trans ?_ (by assumption) | with_reducible refine gr_set ?_ ?_ _ | (simp; done) | omega | (simp; omega)))⟩, by rw [hrc, if_neg (by decide)]; omega⟩
          rw [hrc, if_neg (by decide)]
          exact .inl ⟨rfl, rfl⟩
        · go_wp2_with fail
          refine ⟨⟨k + 1, by go_num, by omega, hid (HT.out.trans hz), by (repeat' (first | with_reducible exact Below.refl _ _ | with_reducible assumption | with_reducible refine gr_alloc ?_ _ | with_reducible refine gr_drew ?_ | with_reducible refine gr_drewN ?_ _ | with_reducible refine gr_trans ?_ (by assumption) | with_reducible refine gr_set ?_ ?_ _ | (simp; done) | omega | (simp; omega)))⟩, ?_⟩
          simp only [intOf]
          omega
      · have e2 : decide ((k : Int) < (n : Int)) = false := by simp; omega
        go_wp2_with fail
        go_ret2
        have hkn : k = ys.length := by have := HNE.out; omega
        have hal1 : alF ys = true := by have := hal.out; rwa [hkn, List.take_of_length_le (Nat.le_refl _)] at this
        have hrc : rfc a b c d = 0 := by rw [HC.out, hal1]; rfl
        have hR2 := hR.out.next hB
        unfold RfOut
        refine ⟨⟨.slice (some ⟨g, 0, none⟩) n cap, by rw [hrc]; rfl, ?_, by (repeat' (first | with_reducible exact Below.refl _ _ | with_reducible assumption | with_reducible refine gr_alloc ?_ _ | with_reducible refine gr_drew ?_ | with_reducible refine gr_drewN ?_ _ | with_reducible refine gr_trans ?_ (by assumption) | with_reducible refine gr_set ?_ ?_ _ | (simp; done) | omega | (simp; omega)))⟩, by rw [hrc, if_pos rfl, ← HYS.out]; exact HYL.out⟩
        rw [hrc, if_pos rfl, ← HYS.out]
        exact hR2.out
  · have HK := hid hk
    have hk' : (rcd a b c d == 0) = false := by simpa using hk
    have HC : Hid (rfc a b c d = rcd a b c d) := hid (by unfold rfc; rw [if_neg hk])
    clear hk
    go_wp2_with fail
    go_ret2
    refine ⟨⟨.slice none 0 0, by rw [HC.out]; rfl, ?_, by (repeat' (first | with_reducible exact Below.refl _ _ | with_reducible assumption | with_reducible refine gr_alloc ?_ _ | with_reducible refine gr_drew ?_ | with_reducible refine gr_drewN ?_ _ | with_reducible refine gr_trans ?_ (by assumption) | with_reducible refine gr_set ?_ ?_ _ | (simp; done) | omega | (simp; omega)))⟩, by rw [HC.out, if_neg HK.out]; omega⟩
    rw [HC.out, if_neg HK.out]
    exact .inl ⟨rfl, rfl⟩

end Go.Proofs.Ytipeeljapmiciaa

/- Chapter 2: ReducedForms: the model. -/
namespace Go.Proofs.Ytipeeljapmiciaa
open Go.RowKit

set_option maxRecDepth 100000 in
set_option maxHeartbeats 4000000 in
theorem sReducedForms_any (a b c d : Int) (w : World) : Calls Try.prog 16 #[.agg #[.int .i64 a, .int .i64 b, .int .i64 c, .int .i64 d]] w (RfOut a b c d w) := by
  have A0 := (Arr.new w a b c d 23).alloc (.cells #[.int .i64 a, .int .i64 b, .int .i64 c, .int .i64 d] 23)
  have B0 := Arr.new (w.alloc (.cells #[.int .i64 a, .int .i64 b, .int .i64 c, .int .i64 d] 23)) a b c d 23
  have U0 := gr_alloc (gr_alloc (Below.refl w.heap.size w) (.cells #[.int .i64 a, .int .i64 b, .int .i64 c, .int .i64 d] 23)) (.cells #[.int .i64 a, .int .i64 b, .int .i64 c, .int .i64 d] 23)
  simp only [World.size_alloc] at B0
  go_enter Try.func16, Try.ntmps16
  go_wp2_with fail
  refine (sCode1_any _ a b c d _ B0).mono ?_
  rintro e w1 ⟨rfl, hb1⟩
  have A1 := A0.next hb1; have U1 := gr_trans U0 hb1
  clear A0 B0 U0 hb1
  unfold RfOut
  by_cases hk : rcd a b c d = 0
  · obtain ⟨h1, h2, h3, h4, h5, h6, h7, h8⟩ := cls_spec hk
    have HC : Hid (rfc a b c d = if alF (frms a b c d) then 0 else 3) := hid (by unfold rfc; rw [if_pos hk])
    have hgf : ∀ xs, Rd.Got (decide (0 < dsc a b c d)) (Rd.fl (cls a b c d).2.2.1 (cls a b c d).2.2.2 (cls a b c d).1) (Rd.uni 81) xs → xs = frms a b c d := fun xs h => got_frms (Rd.got_fl h1 h2 h)
    have hul := Rd.uni_len 81
    have hf := fun W => sForms_any (decide (0 < dsc a b c d)) (Rd.fl (cls a b c d).2.2.1 (cls a b c d).2.2.2 (cls a b c d).1) (Rd.ub_fl h1 h2 h5) (fun u _ hd => cls_sign hk h1 h2 u hd) W
    unfold FormsOut at hf
    rw [hk]
    clear hk h1 h2 h3 h4 h5 h6 h7
    generalize decide (0 < dsc a b c d) = s at *
    generalize Rd.fl (cls a b c d).2.2.1 (cls a b c d).2.2.2 (cls a b c d).1 = T at *
    generalize Rd.wf (cls a b c d).2.2.1 (cls a b c d).2.2.2 (cls a b c d).2.1 = M at *
    generalize Rd.uni 81 = us at *
    obtain ⟨t0, t1, t2, t3⟩ := T
    obtain ⟨m0, m1, m2, m3⟩ := M
    unfold vF at h8 hf
    dsimp only at h8 hf
    have H8 := hid h8; have HF := hid hf; have HGF := hid hgf
    clear h8 hf hgf
    obtain ⟨_, a0, a1, a2, a3, _⟩ := id A1
    go_wp2_with fail
    refine (H8.out _).mono ?_
    rintro e w2 ⟨rfl, hb2⟩
    have U2 := gr_trans U1 hb2
    clear a0 a1 a2 a3 A1 U1 hb2
    have T3 := (Arr.new w2 t0 t1 t2 t3 23).alloc (.cells #[.int .i64 m0, .int .i64 m1, .int .i64 m2, .int .i64 m3] 34)
    have U3 := gr_alloc (gr_alloc U2 (.cells #[.int .i64 t0, .int .i64 t1, .int .i64 t2, .int .i64 t3] 23)) (.cells #[.int .i64 m0, .int .i64 m1, .int .i64 m2, .int .i64 m3] 34)
    obtain ⟨_, c0, c1, c2, c3, _⟩ := id T3
    go_wp2_with fail
    refine (HF.out _).mono ?_
    rintro e w4 ⟨g, n, cap, ys, rfl, hgot, hyl, hrow, hb4⟩
    have U4 := gr_trans U3 hb4
    have hys : ys = frms a b c d := HGF.out ys hgot
    rw [← hys] at HC
    have HYS := hid hys
    have HYL : Hid (ys.length ≤ 1000) := hid (by omega)
    have hR := hid (hrow.base (B' := w.heap.size) (by have := U3.size; omega))
    clear hrow hys hgot hyl hul hb4 HGF HF H8 U3 c0 c1 c2 c3 T3 U2
    have hn : n = ys.length := hR.out.rda.2
    have HNE := hid hn
    clear hn
    have hc1 := hR.out.rda.1.le
    have hc2 := hR.out.rda.1.mx
    unfold maxLen at hc2
    have hc3 : n ≤ cap := by have := HNE.out; omega
    go_wp2_with fail
    go_loopw [8] (fun s20 wr => ∃ k : Nat, s20 = .int .i64 ((k : Int)) ∧ k ≤ n ∧ Hid (alF (ys.take k) = true) ∧ Below w4.heap.size w4 wr) (fun s20 _ => n - (intOf s20).toNat)
    case atStart => exact ⟨0, rfl, Nat.zero_le _, hid rfl, Below.refl _ _⟩
    case round =>
      obtain ⟨k, rfl, hk, hal, hB⟩ := hrel
      by_cases hlt : k < n
      · obtain ⟨q, hq⟩ : ∃ q, ys[k]? = some q := ⟨_, List.getElem?_eq_getElem (by have := HNE.out; omega)⟩
        have HT : Hid (alF (ys.take (k + 1)) = isF q.1 q.2.1 q.2.2.1 q.2.2.2) := hid (by
          rw [List.take_add_one, hq]
          have := hal.out
          unfold alF at this ⊢
          rw [List.all_append, this]
          simp)
        have HF : isF q.1 q.2.1 q.2.2.1 q.2.2.2 = false → alF ys = false := fun h => by
          unfold alF
          rw [List.all_eq_false]
          exact ⟨q, List.mem_of_getElem? hq, by rw [h]; decide⟩
        have HF' := hid HF
        have Y0 := (hR.out.next hB).rda.1.at4 k q hq
        clear hq HF hal
        obtain ⟨y0, y1, y2, y3⟩ := q
        dsimp only at Y0 HT HF'
        obtain ⟨_, c0, c1, c2, c3⟩ := id Y0
        have e2 : decide ((k : Int) < (n : Int)) = true := by simp; omega
        have hk0 : (0 : Int) ≤ (k : Int) := by omega
        have hkn : (k : Int) < (n : Int) := by omega
        go_wp2_with fail
        refine (sFits_any y0 y1 y2 y3 _).mono ?_
        rintro e w5 ⟨rfl, hb5⟩
        have B5 := gr_trans hB hb5
        clear c0 c1 c2 c3 Y0 hb5
        cases hz : isF y0 y1 y2 y3
        · go_wp2_with fail
          go_ret2
          have hrc : rfc a b c d = 3 := by rw [HC.out, HF'.out hz]; rfl
          unfold RfOut
          refine ⟨⟨.slice none 0 0, by rw [hrc]; rfl, ?_, by (repeat' (first | with_reducible exact Below.refl _ _ | with_reducible assumption | with_reducible refine gr_alloc ?_ _ | with_reducible refine gr_drew ?_ | with_reducible refine gr_drewN ?_ _ | with_reducible refine gr_trans ?_ (by assumption) | with_reducible refine gr_set ?_ ?_ _ | (simp; done) | omega | (simp; omega)))⟩, by rw [hrc, if_neg (by decide)]; omega⟩
          rw [hrc, if_neg (by decide)]
          exact .inl ⟨rfl, rfl⟩
        · go_wp2_with fail
          refine ⟨⟨k + 1, by go_num, by omega, hid (HT.out.trans hz), by (repeat' (first | with_reducible exact Below.refl _ _ | with_reducible assumption | with_reducible refine gr_alloc ?_ _ | with_reducible refine gr_drew ?_ | with_reducible refine gr_drewN ?_ _ | with_reducible refine gr_trans ?_ (by assumption) | with_reducible refine gr_set ?_ ?_ _ | (simp; done) | omega | (simp; omega)))⟩, ?_⟩
          simp only [intOf]
          omega
      · have e2 : decide ((k : Int) < (n : Int)) = false := by simp; omega
        go_wp2_with fail
        go_ret2
        have hkn : k = ys.length := by have := HNE.out; omega
        have hal1 : alF ys = true := by have := hal.out; rwa [hkn, List.take_of_length_le (Nat.le_refl _)] at this
        have hrc : rfc a b c d = 0 := by rw [HC.out, hal1]; rfl
        have hR2 := hR.out.next hB
        unfold RfOut
        refine ⟨⟨.slice (some ⟨g, 0, none⟩) n cap, by rw [hrc]; rfl, ?_, by (repeat' (first | with_reducible exact Below.refl _ _ | with_reducible assumption | with_reducible refine gr_alloc ?_ _ | with_reducible refine gr_drew ?_ | with_reducible refine gr_drewN ?_ _ | with_reducible refine gr_trans ?_ (by assumption) | with_reducible refine gr_set ?_ ?_ _ | (simp; done) | omega | (simp; omega)))⟩, by rw [hrc, if_pos rfl, ← HYS.out]; exact HYL.out⟩
        rw [hrc, if_pos rfl, ← HYS.out]
        exact hR2.out
  · have HK := hid hk
    have hk' : (rcd a b c d == 0) = false := by simpa using hk
    have HC : Hid (rfc a b c d = rcd a b c d) := hid (by unfold rfc; rw [if_neg hk])
    clear hk
    go_wp2_with fail
    go_ret2
    refine ⟨⟨.slice none 0 0, by rw [HC.out]; rfl, ?_, by (repeat' (first | with_reducible exact Below.refl _ _ | with_reducible assumption | with_reducible refine gr_alloc ?_ _ | with_reducible refine gr_drew ?_ | with_reducible refine gr_drewN ?_ _ | with_reducible refine gr_trans ?_ (by assumption) | with_reducible refine gr_set ?_ ?_ _ | (simp; done) | omega | (simp; omega)))⟩, by rw [HC.out, if_neg HK.out]; omega⟩
    rw [HC.out, if_neg HK.out]
    exact .inl ⟨rfl, rfl⟩

end Go.Proofs.Ytipeeljapmiciaa
