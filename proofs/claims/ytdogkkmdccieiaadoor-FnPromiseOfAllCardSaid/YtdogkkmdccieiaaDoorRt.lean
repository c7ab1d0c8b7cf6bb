/- Chapter 5: kinds, the program's and the model's. -/
import Derived.Test.YtdogkkmdccieiaaDoorRs
import Derived.Test.YtdogkkmdccieiaaDoorNum
namespace Go.Proofs.YtdogkkmdccieiaaDoor
open Go.RowKit

theorem kdp_some {R : List (Int × Int × Int)} {k : Nat} (h : k < R.length) (hl : ∀ i, (hi : i < k) → (R[i]'(by omega)).2.2 ≤ 1) (hk : 1 < R[k].2.2) : kdp R = if R[k].2.2 = 2 then 4 else 5 := by
  have hf : R.find? (fun r => decide (1 < r.2.2)) = some R[k] := by
    rw [List.find?_eq_some_iff_getElem]
    exact ⟨by simpa using hk, k, h, rfl, fun j hj => by have := hl j hj; simp; exact this⟩
  simp [kdp, hf]
theorem kdp_none {R : List (Int × Int × Int)} (hl : ∀ i, (hi : i < R.length) → R[i].2.2 ≤ 1) : kdp R = if (R.length : Int) = 3 then 1 else if (R.length : Int) = 1 then 2 else 3 := by
  have hf : R.find? (fun r => decide (1 < r.2.2)) = none := by
    rw [List.find?_eq_none]
    intro r hr
    obtain ⟨i, hi, rfl⟩ := List.getElem_of_mem hr
    have := hl i hi
    simp; exact this
  have e3 : (R.length = 3) = ((R.length : Int) = 3) := by apply propext; omega
  have e1 : (R.length = 1) = ((R.length : Int) = 1) := by apply propext; omega
  simp only [kdp, hf, e3, e1]
/-- A kind behind the interface, of a number. -/
def KdV (num : Int) (T : TypeId) (v : Value) : Prop :=
  (T = 130 ∧ v = .agg #[] ∧ num = 0) ∨ (∃ t, T = 136 ∧ v = .agg #[.int .i64 t] ∧ num = if t = 2 then 4 else 5) ∨ (∃ n, T = 138 ∧ v = .agg #[.int .i64 n] ∧ num = if n = 3 then 1 else if n = 1 then 2 else 3)
def KdOut (num : Int) (w : World) (e : Ending) (w' : World) : Prop := ∃ T v, e = .returned (.iface T v) ∧ KdV num T v ∧ Below w.heap.size w w'

set_option maxRecDepth 100000 in
set_option maxHeartbeats 4000000 in
theorem kindModulo_any (a b c d p : Int) (pv : Value) (w : World) (hg : Sen w pv) (hF : isF a b c d = true) (hp : prq p = true) : Calls Tryd.prog 88 #[.agg #[.int .i64 a, .int .i64 b, .int .i64 c, .int .i64 d], .int .i64 p] w (KdOut (kdn a b c d p) w) := by
  obtain ⟨h2, h97⟩ := prq_rng hp
  have U0 := gr_alloc (Below.refl w.heap.size w) (.cells #[.int .i64 a, .int .i64 b, .int .i64 c, .int .i64 d] 25)
  have G0 := hg.alloc (.cells #[.int .i64 a, .int .i64 b, .int .i64 c, .int .i64 d] 25)
  have q1 := ne_nilI
  have q2 := ne_errI pv
  cases hN : mul0 (cnt a b c d) p with
  | true =>
    have HE := hid (show kdn a b c d p = 0 by simp [kdn, hN])
    have HR := hid (fun W hg => roe_n a b c d p pv W hg h2 h97 hF hN)
    clear hN hF hp
    go_enter Tryd.func88, Tryd.ntmps88
    go_wp2_with fail
    refine (HR.out _ G0).mono ?_
    rintro e w2 ⟨rfl, hb2⟩
    go_wp2_with fail
    go_ret
    rw [HE.out]
    exact ⟨_, _, rfl, .inl ⟨rfl, rfl, rfl⟩, gr_trans U0 hb2⟩
  | false =>
    have HE := hid (show kdn a b c d p = kdp (rtp a b c d p) by simp [kdn, hN])
    have HR := hid (fun W => roe_p a b c d p W h2 h97 hF hN)
    have hl := rtp_len (a := a) (b := b) (c := c) (d := d) h97
    clear hN hF hp
    generalize kdn a b c d p = KN at HE ⊢
    generalize rtp a b c d p = RR at HR HE hl
    go_enter Tryd.func88, Tryd.ntmps88
    go_wp2_with fail
    refine (HR.out _).mono ?_
    rintro e w2 ⟨v, rfl, hO, hb2⟩
    have U2 := gr_trans U0 hb2
    have HO := hid (owns_mono hO U0.size)
    have hform : ∃ va cap, v = .slice va RR.length cap := by
      rcases hO.2 with ⟨rfl, h⟩ | ⟨g, cap, cur, rfl, _⟩
      · exact ⟨none, 0, by rw [h]⟩
      · exact ⟨_, cap, rfl⟩
    obtain ⟨va, cap, rfl⟩ := hform
    clear hO U0 G0
    go_wp2_with fail
    go_loopw [21] (fun s21 wr => ∃ k : Nat, k ≤ RR.length ∧ s21 = .int .i64 ((k : Int)) ∧ Hid (∀ i, (hi : i < RR.length) → i < k → RR[i].2.2 ≤ 1) ∧ wr.ownsRow w.heap.size 134 3 (.slice va RR.length cap) RR.length (RR.flatMap tr3) ∧ Below w.heap.size w wr) (fun s21 _ => RR.length - (intOf s21).toNat)
    case atStart => exact ⟨0, Nat.zero_le _, rfl, hid (fun i _ hi => by omega), HO.out, U2⟩
    case round =>
      obtain ⟨k, hk, rfl, HJ, hO, hU⟩ := hrel
      have HP := hid hO; have HU := hid hU
      have hsz := hU.size
      clear hU U2
      by_cases hlt : k < RR.length
      · obtain ⟨g, cap', e', _, hg', _, hcm, hcell⟩ := owns_formS hO (by omega)
        cases e'
        have x0 := hcell (k * 3 + 0) _ ((flat_get tr3 3 (fun _ => rfl) RR k 0 hlt (by omega)).trans rfl)
        have x1 := hcell (k * 3 + 1) _ ((flat_get tr3 3 (fun _ => rfl) RR k 1 hlt (by omega)).trans rfl)
        have x2 := hcell (k * 3 + 2) _ ((flat_get tr3 3 (fun _ => rfl) RR k 2 hlt (by omega)).trans rfl)
        simp only [Nat.add_zero] at x0
        have HK := hid (fun (h1 : 1 < RR[k].2.2) => kdp_some hlt (fun i hi => HJ.out i (by omega) hi) h1)
        have HJ1 := hid (fun (h1 : RR[k].2.2 ≤ 1) => (show ∀ i, (hi : i < RR.length) → i < k + 1 → RR[i].2.2 ≤ 1 from fun i hi hik => by
          by_cases e : i = k
          · subst e; exact h1
          · exact HJ.out i hi (by omega)))
        generalize RR[k] = r at x0 x1 x2 HK HJ1
        obtain ⟨x, y, t⟩ := r
        simp only at x0 x1 x2
        unfold maxLen at hcm
        clear hcell hO HJ
        by_cases ht : 1 < t
        · have HE1 := hid (HE.out.trans (HK.out ht))
          go_wp2_with fail
          go_ret
          rw [HE1.out]
          exact ⟨_, _, rfl, .inr (.inl ⟨t, rfl, rfl, rfl⟩), gr_alloc HU.out _⟩
        · have HJ2 := hid (HJ1.out (by omega : t ≤ 1))
          go_wp2_with fail
          go_roundw
          case rel => exact ⟨k + 1, by omega, by go_num, HJ2, HP.out.alloc _, gr_alloc HU.out _⟩
          case measure => simp [intOf]; omega
      · have e : k = RR.length := by omega
        have HE1 := hid (HE.out.trans (kdp_none (fun i hi => HJ.out i hi (by omega))))
        subst e
        clear hO
        go_wp2_with fail
        go_ret
        rw [HE1.out]
        exact ⟨_, _, rfl, .inr (.inr ⟨_, rfl, rfl, rfl⟩), HU.out⟩

/-- The value of KindModulo. -/
def kmv (a b c d p : Int) : Int := if fpc a b c d p = 0 then kdn a b c d p else 0

set_option maxRecDepth 100000 in
set_option maxHeartbeats 1000000 in
theorem iKindModulo_any (a b c d p : Int) (pv : Value) (w : World) (hg : Sen w pv) : Calls Tryd.prog 36 #[.agg #[.int .i64 a, .int .i64 b, .int .i64 c, .int .i64 d], .int .i64 p] w fun e w' => e = .returned (.tuple #[.int .i64 (kmv a b c d p), .int .i64 (fpc a b c d p)]) ∧ Below w.heap.size w w' := by
  have hc0 := fun W => iCheckFP_any a b c d p W
  have hk : fpc a b c d p = 0 → isF a b c d = true ∧ prm p = true := fpc_0.1
  have h0 : fpc a b c d p = 0 → kmv a b c d p = kdn a b c d p := fun h => by simp [kmv, h]
  have hn : fpc a b c d p ≠ 0 → kmv a b c d p = 0 := fun h => by simp [kmv, h]
  generalize fpc a b c d p = k at hc0 hk h0 hn ⊢
  have HC := hid hc0; have HK := hid hk; have H0 := hid h0; have HN := hid hn
  clear hc0 hk h0 hn
  have U0 := gr_alloc (Below.refl w.heap.size w) (.cells #[.int .i64 a, .int .i64 b, .int .i64 c, .int .i64 d] 25)
  have G0 := hg.alloc (.cells #[.int .i64 a, .int .i64 b, .int .i64 c, .int .i64 d] 25)
  go_enter Tryd.func36, Tryd.ntmps36
  go_wp2_with fail
  refine (HC.out _).mono ?_
  rintro e w1 ⟨rfl, hb1⟩
  obtain ⟨_, c0, c1, c2, c3, _⟩ := (Arr.new w a b c d 25).next hb1
  have U1 := gr_trans U0 hb1
  have G1 := G0.next hb1
  by_cases hk0 : k = 0
  · subst hk0
    obtain ⟨hF, hp⟩ := HK.out rfl
    have HE := hid (H0.out rfl)
    have HM := hid (kindModulo_any a b c d p pv _ G1 hF (prm_prq hp))
    clear hF hp
    go_wp2_with fail
    refine HM.out.mono ?_
    rintro e w2 ⟨T, v, rfl, hK, hb2⟩
    have U2 := gr_trans U1 hb2
    rcases hK with ⟨rfl, rfl, hn⟩ | ⟨t, rfl, rfl, hn⟩ | ⟨n, rfl, rfl, hn⟩
    · have H := hid (HE.out.trans hn)
      clear hn
      go_wp2_with fail
      refine (zkNumber_any _).mono ?_
      rintro e w3 ⟨rfl, hb3⟩
      go_wp2_with fail
      go_ret2
      rw [H.out]
      exact ⟨rfl, gr_trans U2 hb3⟩
    · have H := hid (HE.out.trans hn)
      clear hn
      go_wp2_with fail
      refine (rkNumber_any t _).mono ?_
      rintro e w3 ⟨rfl, hb3⟩
      generalize (if t = 2 then (4 : Int) else 5) = z at H ⊢
      go_wp2_with fail
      go_ret2
      rw [H.out]
      exact ⟨rfl, gr_trans U2 hb3⟩
    · have H := hid (HE.out.trans hn)
      clear hn
      go_wp2_with fail
      refine (skNumber_any n _).mono ?_
      rintro e w3 ⟨rfl, hb3⟩
      generalize (if n = 3 then (1 : Int) else if n = 1 then 2 else 3) = z at H ⊢
      go_wp2_with fail
      go_ret2
      rw [H.out]
      exact ⟨rfl, gr_trans U2 hb3⟩
  · have HE := hid (HN.out hk0)
    have hk' : (k == 0) = false := by simpa using hk0
    clear hk0
    go_wp2_with fail
    go_ret2
    rw [HE.out]
    exact ⟨rfl, U1⟩


end Go.Proofs.YtdogkkmdccieiaaDoor
