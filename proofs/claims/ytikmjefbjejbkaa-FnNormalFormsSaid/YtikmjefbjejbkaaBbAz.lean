/- Chapter 2: MatricesBetween: the model; AutomorphismsOf: program and model. -/
import Derived.Test.YtikmjefbjejbkaaBbAy
import Derived.Test.YtikmjefbjejbkaaBbAx
import Derived.Test.YtikmjefbjejbkaaBbZ11
import Derived.Test.YtikmjefbjejbkaaBbZ12
namespace Go.Proofs.Ytikmjefbjejbkaa
open Go.RowKit

set_option maxRecDepth 100000 in
set_option maxHeartbeats 2000000 in
theorem sTold_any (g n cap : Nat) (L : List Red.F4) (w : World) (h : RdA w g cap L) (hn : n = L.length) :
    Calls Try.prog 50 #[.slice (some ⟨g, 0, none⟩) n cap] w fun e w' => e = .returned (.tuple #[if alM L then .slice (some ⟨g, 0, none⟩) n cap else .slice none 0 0, .int .i64 (if alM L then 0 else 3)]) ∧ Below w.heap.size w w' := by
  have hc1 := h.le
  have hc2 := h.mx
  unfold maxLen at hc2
  have hc3 : n ≤ cap := by omega
  have HNE := hid hn
  have HR := hid h
  obtain ⟨V1, hV1⟩ : ∃ V, V = (if alM L then Value.slice (some ⟨g, 0, none⟩) n cap else Value.slice none 0 0) := ⟨_, rfl⟩
  obtain ⟨C1, hC1⟩ : ∃ C : Int, C = (if alM L then 0 else 3) := ⟨_, rfl⟩
  rw [← hV1, ← hC1]
  have HV := hid hV1; have HC := hid hC1
  clear hn h hV1 hC1
  go_enter Try.func50, Try.ntmps50
  go_wp2_with fail
  go_loopw [4] (fun s4 wr => ∃ k : Nat, s4 = .int .i64 ((k : Int)) ∧ k ≤ n ∧ Hid (alM (L.take k) = true) ∧ Below w.heap.size w wr) (fun s4 _ => n - (intOf s4).toNat)
  case atStart => exact ⟨0, rfl, Nat.zero_le _, hid rfl, Below.refl _ _⟩
  case round =>
    obtain ⟨k, rfl, hk, hal, hB⟩ := hrel
    by_cases hlt : k < n
    · obtain ⟨q, hq⟩ : ∃ q, L[k]? = some q := ⟨_, List.getElem?_eq_getElem (by have := HNE.out; omega)⟩
      have HT : Hid (alM (L.take (k + 1)) = isF q.1 q.2.1 q.2.2.1 q.2.2.2) := hid (by
        rw [List.take_add_one, hq]
        have := hal.out
        unfold alM at this ⊢
        rw [List.all_append, this]
        simp)
      have HF : Hid (isF q.1 q.2.1 q.2.2.1 q.2.2.2 = false → alM L = false) := hid (fun h => by
        unfold alM
        rw [List.all_eq_false]
        exact ⟨q, List.mem_of_getElem? hq, by rw [h]; decide⟩)
      have Y0 := (HR.out.next hB HR.out.lt).at4 k q hq
      clear hq hal
      obtain ⟨y0, y1, y2, y3⟩ := q
      dsimp only at Y0 HT HF
      obtain ⟨_, c0, c1, c2, c3⟩ := id Y0
      have e2 : decide ((k : Int) < (n : Int)) = true := by simp; omega
      have hk0 : (0 : Int) ≤ (k : Int) := by omega
      have hkn : (k : Int) < (n : Int) := by omega
      go_wp2_with fail
      refine (sIsMatrix_any y0 y1 y2 y3 _).mono ?_
      rintro e w5 ⟨rfl, hb5⟩
      have B5 := gr_trans hB hb5
      clear c0 c1 c2 c3 Y0 hb5
      cases hz : isF y0 y1 y2 y3
      · go_wp2_with fail
        go_ret2
        have h3 := HF.out hz
        exact ⟨by rw [HV.out, HC.out, h3]; rfl, by (repeat' (first | with_reducible exact Below.refl _ _ | with_reducible assumption | with_reducible refine gr_alloc ?_ _ | with_reducible refine gr_drew ?_ | with_reducible refine gr_drewN ?_ _ | with_reducible refine gr_trans ?_ (by assumption) | with_reducible refine gr_set ?_ ?_ _ | (simp; done) | omega | (simp; omega)))⟩
      · go_wp2_with fail
        refine ⟨⟨k + 1, by go_num, by omega, hid (HT.out.trans hz), by (repeat' (first | with_reducible exact Below.refl _ _ | with_reducible assumption | with_reducible refine gr_alloc ?_ _ | with_reducible refine gr_drew ?_ | with_reducible refine gr_drewN ?_ _ | with_reducible refine gr_trans ?_ (by assumption) | with_reducible refine gr_set ?_ ?_ _ | (simp; done) | omega | (simp; omega)))⟩, ?_⟩
        simp only [intOf]
        omega
    · have e2 : decide ((k : Int) < (n : Int)) = false := by simp; omega
      go_wp2_with fail
      go_ret2
      have hkn : k = L.length := by have := HNE.out; omega
      have hal1 : alM L = true := by have := hal.out; rwa [hkn, List.take_of_length_le (Nat.le_refl _)] at this
      exact ⟨by rw [HV.out, HC.out, hal1]; rfl, by (repeat' (first | with_reducible exact Below.refl _ _ | with_reducible assumption | with_reducible refine gr_alloc ?_ _ | with_reducible refine gr_drew ?_ | with_reducible refine gr_drewN ?_ _ | with_reducible refine gr_trans ?_ (by assumption) | with_reducible refine gr_set ?_ ?_ _ | (simp; done) | omega | (simp; omega)))⟩
theorem mb_fin {a b c d p q r s : Int} {w w4 w5 : World} {g n cap : Nat} (hk : rcd2 a b c d p q r s = 0) (hr : RowM w.heap.size w4 (.slice (some ⟨g, 0, none⟩) n cap) (mbt (a, b, c, d) (p, q, r, s))) (hb : Below w.heap.size w w4) (hb5 : Below w4.heap.size w4 w5) :
    MbOut a b c d p q r s w (.returned (.tuple #[if alM (mbt (a, b, c, d) (p, q, r, s)) then .slice (some ⟨g, 0, none⟩) n cap else .slice none 0 0, .int .i64 (if alM (mbt (a, b, c, d) (p, q, r, s)) then 0 else 3)])) w5 := by
  have hmc : mbc a b c d p q r s = if alM (mbt (a, b, c, d) (p, q, r, s)) then 0 else 3 := by unfold mbc; rw [if_pos hk]
  unfold MbOut FlsOut
  refine ⟨_, by rw [hmc], ?_, hb.trans (hb5.mono hb.size)⟩
  rw [hmc]
  cases alM (mbt (a, b, c, d) (p, q, r, s)) with
  | false => exact .inl ⟨rfl, rfl⟩
  | true => exact (hr.next hb5).out
set_option maxRecDepth 100000 in
set_option maxHeartbeats 2000000 in
theorem sMatBetween_any (a b c d p q r s : Int) (w : World) : Calls Try.prog 11 #[.agg #[.int .i64 a, .int .i64 b, .int .i64 c, .int .i64 d], .agg #[.int .i64 p, .int .i64 q, .int .i64 r, .int .i64 s]] w (MbOut a b c d p q r s w) := by
  have A0 := (Arr.new w a b c d 26).alloc (.cells #[.int .i64 p, .int .i64 q, .int .i64 r, .int .i64 s] 26)
  have P0 := Arr.new (w.alloc (.cells #[.int .i64 a, .int .i64 b, .int .i64 c, .int .i64 d] 26)) p q r s 26
  have U0 := gr_alloc (gr_alloc (Below.refl w.heap.size w) (.cells #[.int .i64 a, .int .i64 b, .int .i64 c, .int .i64 d] 26)) (.cells #[.int .i64 p, .int .i64 q, .int .i64 r, .int .i64 s] 26)
  simp only [World.size_alloc] at P0
  go_enter Try.func11, Try.ntmps11
  go_upto_region 1 with fail
  generalize (w.alloc (.cells #[.int .i64 a, .int .i64 b, .int .i64 c, .int .i64 d] 26)).alloc (.cells #[.int .i64 p, .int .i64 q, .int .i64 r, .int .i64 s] 26) = W0 at A0 P0 U0 ⊢
  obtain ⟨_, a0, a1, a2, a3, _⟩ := id A0
  obtain ⟨_, p0, p1, p2, p3, _⟩ := id P0
  go_wp2_with fail
  refine (sCode2_any _ a b c d p q r s _ (Two4.new _ _ _ _ _ _ _ _ _ _)).mono ?_
  rintro e w1 ⟨rfl, hb1⟩
  have hbb := (gr_alloc (Below.refl W0.heap.size W0) (.cells #[.int .i64 a, .int .i64 b, .int .i64 c, .int .i64 d, .int .i64 p, .int .i64 q, .int .i64 r, .int .i64 s] 26)).trans (hb1.mono (by simp))
  have A1 := A0.next hbb; have P1 := P0.next hbb; have U1 := gr_trans U0 hbb
  clear a0 a1 a2 a3 p0 p1 p2 p3 A0 P0 U0 hb1 hbb
  by_cases hk : rcd2 a b c d p q r s = 0
  · obtain ⟨hk1, hk2⟩ := rcd2_0 hk
    have HB := hid (fun W => sBetween_any a b c d p q r s hk1 hk2 W)
    have HK := hid hk
    rw [hk]
    clear hk hk1 hk2
    obtain ⟨_, a0, a1, a2, a3, _⟩ := id A1
    obtain ⟨_, p0, p1, p2, p3, _⟩ := id P1
    go_wp2_with fail
    refine (HB.out _).mono ?_
    rintro e w4 ⟨g, n, cap, rfl, hrow, hb4⟩
    have U4 := gr_trans U1 hb4
    have hR := hid (hrow.base (B' := w.heap.size) U1.size)
    have hT := hid (fun W (h : RdA W g cap (mbt (a, b, c, d) (p, q, r, s))) => sTold_any g n cap (mbt (a, b, c, d) (p, q, r, s)) W h hrow.rda.2)
    have hrd := hid hrow.rda.1
    clear a0 a1 a2 a3 p0 p1 p2 p3 A1 P1 U1 hrow hb4 HB
    go_wp2_with fail
    refine (hT.out _ hrd.out).mono ?_
    rintro e w5 ⟨rfl, hb5⟩
    have HF := hid (mb_fin HK.out hR.out U4 hb5)
    clear hT hrd hR U4 hb5
    generalize (if alM (mbt (a, b, c, d) (p, q, r, s)) then Value.slice (some ⟨g, 0, none⟩) n cap else Value.slice none 0 0) = V at HF ⊢
    generalize (if alM (mbt (a, b, c, d) (p, q, r, s)) then (0 : Int) else 3) = C at HF ⊢
    go_wp2_with fail
    go_ret2
    exact HF.out
  · have HK := hid hk
    have hk' : (rcd2 a b c d p q r s == 0) = false := by simpa using hk
    have HC : Hid (mbc a b c d p q r s = rcd2 a b c d p q r s) := hid (by unfold mbc; rw [if_neg hk])
    clear hk
    go_wp2_with fail
    go_ret2
    unfold MbOut
    refine ⟨.slice none 0 0, by rw [HC.out]; rfl, ?_, by (repeat' (first | with_reducible exact Below.refl _ _ | with_reducible assumption | with_reducible refine gr_alloc ?_ _ | with_reducible refine gr_drew ?_ | with_reducible refine gr_drewN ?_ _ | with_reducible refine gr_trans ?_ (by assumption) | with_reducible refine gr_set ?_ ?_ _ | (simp; done) | omega | (simp; omega)))⟩
    rw [HC.out, if_neg HK.out]
    exact .inl ⟨rfl, rfl⟩
set_option maxHeartbeats 1000000 in
theorem iAut_any (a b c d : Int) (w : World) : Calls Try.prog 18 #[.agg #[.int .i64 a, .int .i64 b, .int .i64 c, .int .i64 d]] w (MbOut a b c d a b c d w) := by
  have A0 := Arr.new w a b c d 26
  have U0 := gr_alloc (Below.refl w.heap.size w) (.cells #[.int .i64 a, .int .i64 b, .int .i64 c, .int .i64 d] 26)
  have HM := hid (fun W => iMatBetween_any a b c d a b c d W)
  go_enter Try.func18, Try.ntmps18
  obtain ⟨_, a0, a1, a2, a3, _⟩ := id A0
  go_wp2_with fail
  refine (HM.out _).mono ?_
  rintro e w1 ⟨v, rfl, ho, hb1⟩
  have U1 := hid (gr_trans U0 hb1)
  have HO := hid (ho.base (B' := w.heap.size) U0.size)
  clear a0 a1 a2 a3 A0 U0 ho hb1 HM
  generalize hk : mbc a b c d a b c d = k at HO ⊢
  have HKQ := hid hk
  clear hk
  go_wp2_with fail
  go_ret2
  unfold MbOut FlsOut
  rw [HKQ.out]
  exact ⟨v, rfl, HO.out, U1.out⟩
set_option maxRecDepth 100000 in
set_option maxHeartbeats 2000000 in
theorem sAut_any (a b c d : Int) (w : World) : Calls Try.prog 17 #[.agg #[.int .i64 a, .int .i64 b, .int .i64 c, .int .i64 d]] w (MbOut a b c d a b c d w) := by
  have A0 := (Arr.new w a b c d 26).alloc (.cells #[.int .i64 a, .int .i64 b, .int .i64 c, .int .i64 d] 26)
  have B0 := Arr.new (w.alloc (.cells #[.int .i64 a, .int .i64 b, .int .i64 c, .int .i64 d] 26)) a b c d 26
  have U0 := gr_alloc (gr_alloc (Below.refl w.heap.size w) (.cells #[.int .i64 a, .int .i64 b, .int .i64 c, .int .i64 d] 26)) (.cells #[.int .i64 a, .int .i64 b, .int .i64 c, .int .i64 d] 26)
  simp only [World.size_alloc] at B0
  go_enter Try.func17, Try.ntmps17
  go_wp2_with fail
  refine (sCode1_any _ a b c d _ B0).mono ?_
  rintro e w1 ⟨rfl, hb1⟩
  have A1 := A0.next hb1; have U1 := gr_trans U0 hb1
  clear A0 B0 U0 hb1
  have hself := rcd2_self a b c d
  by_cases hk : rcd a b c d = 0
  · have HB := hid (fun W => sBetween_any a b c d a b c d hk hk W)
    have HK : Hid (rcd2 a b c d a b c d = 0) := hid (by rw [hself]; exact hk)
    rw [hk]
    clear hk hself
    obtain ⟨_, a0, a1, a2, a3, _⟩ := id A1
    go_wp2_with fail
    refine (HB.out _).mono ?_
    rintro e w4 ⟨g, n, cap, rfl, hrow, hb4⟩
    have U4 := gr_trans U1 hb4
    have hR := hid (hrow.base (B' := w.heap.size) U1.size)
    have hT := hid (fun W (h : RdA W g cap (mbt (a, b, c, d) (a, b, c, d))) => sTold_any g n cap (mbt (a, b, c, d) (a, b, c, d)) W h hrow.rda.2)
    have hrd := hid hrow.rda.1
    clear a0 a1 a2 a3 A1 U1 hrow hb4 HB
    go_wp2_with fail
    refine (hT.out _ hrd.out).mono ?_
    rintro e w5 ⟨rfl, hb5⟩
    have HF := hid (mb_fin HK.out hR.out U4 hb5)
    clear hT hrd hR U4 hb5
    generalize (if alM (mbt (a, b, c, d) (a, b, c, d)) then Value.slice (some ⟨g, 0, none⟩) n cap else Value.slice none 0 0) = V at HF ⊢
    generalize (if alM (mbt (a, b, c, d) (a, b, c, d)) then (0 : Int) else 3) = C at HF ⊢
    go_wp2_with fail
    go_ret2
    exact HF.out
  · have hk' : (rcd a b c d == 0) = false := by simpa using hk
    have HC : Hid (mbc a b c d a b c d = rcd a b c d ∧ rcd a b c d ≠ 0) := hid ⟨by unfold mbc; rw [if_neg (by rw [hself]; exact hk), hself], hk⟩
    clear hk hself
    go_wp2_with fail
    go_ret2
    unfold MbOut
    refine ⟨.slice none 0 0, by rw [HC.out.1]; rfl, ?_, by (repeat' (first | with_reducible exact Below.refl _ _ | with_reducible assumption | with_reducible refine gr_alloc ?_ _ | with_reducible refine gr_drew ?_ | with_reducible refine gr_drewN ?_ _ | with_reducible refine gr_trans ?_ (by assumption) | with_reducible refine gr_set ?_ ?_ _ | (simp; done) | omega | (simp; omega)))⟩
    rw [HC.out.1, if_neg HC.out.2]
    exact .inl ⟨rfl, rfl⟩

end Go.Proofs.Ytikmjefbjejbkaa
