/- Chapter 5: kinds of the model; counts of roots. -/
import Derived.Test.YtambbhldhhlfgaaDoorFkRt
namespace Go.Proofs.YtambbhldhhlfgaaDoor
open Go.RowKit

def mxK (R : List (Int × Int × Int)) (k : Nat) : Int := mxt (R.take k)
theorem mxK_0 (R : List (Int × Int × Int)) : mxK R 0 = 0 := rfl
theorem mxK_s {R : List (Int × Int × Int)} {k : Nat} (h : k < R.length) : mxK R (k + 1) = max (mxK R k) R[k].2.2 := by
  unfold mxK mxt; rw [List.take_succ_eq_append_getElem h, List.foldl_append]; rfl
theorem mxK_e (R : List (Int × Int × Int)) : mxK R R.length = mxt R := by unfold mxK; rw [List.take_length]
theorem mx_if (M t : Int) : (if M < t then t else M) = max M t := by split <;> omega
theorem kdm_n (R : List (Int × Int × Int)) : kdm R = if mxt R = 3 then 5 else if mxt R = 2 then 4 else if (R.length : Int) = 3 then 1 else if (R.length : Int) = 1 then 2 else 3 := by
  have e3 : (R.length = 3) = ((R.length : Int) = 3) := by apply propext; omega
  have e1 : (R.length = 1) = ((R.length : Int) = 1) := by apply propext; omega
  simp only [kdm, e3, e1]
theorem rw3_get {R : List (Int × Int × Int)} {k : Nat} (h : k < R.length) : ((R.map rw3).getD k []).getD 2 0 = R[k].2.2 := by
  simp [List.getD, h, rw3]

set_option maxRecDepth 100000 in
set_option maxHeartbeats 4000000 in
theorem l05Kind_any (a b c d p : Int) (w : World) (hF : isF a b c d = true) (hp : prq p = true) : Calls Tryd.prog 143 #[.agg #[.int .i64 a, .int .i64 b, .int .i64 c, .int .i64 d], .int .i64 p] w fun e w' => e = .returned (.int .i64 (kdn a b c d p)) ∧ Below w.heap.size w w' := by
  obtain ⟨h2, h97⟩ := prq_rng hp
  obtain ⟨ha, hb, hc, hd⟩ := isF_t hF
  have HU := hid (fun W => l05Null_any a b c d p W h2 h97)
  have HR := hid (fun hN W => l05Roots_any a b c d p W h2 h97 ha hb hc hd hN)
  have A0 := Arr.new w a b c d 25
  have U0 := gr_alloc (Below.refl w.heap.size w) (.cells #[.int .i64 a, .int .i64 b, .int .i64 c, .int .i64 d] 25)
  clear ha hb hc hd
  cases hN : mul0 (cnt a b c d) p with
  | true =>
    have HE := hid (show kdn a b c d p = 0 by simp [kdn, hN])
    clear hF hp HR
    go_enter Tryd.func143, Tryd.ntmps143
    go_wp2_with fail
    refine (HU.out _).mono ?_
    rintro e w1 ⟨rfl, hb1⟩
    go_wp2_with fail
    go_ret
    rw [HE.out]
    exact ⟨rfl, gr_trans U0 hb1⟩
  | false =>
    have HE := hid ((show kdn a b c d p = kdp (rtp a b c d p) by simp [kdn, hN]).trans ((kd_eq (rtp_pw hF hp hN) (rtp_3 hF hp hN)).trans (kdm_n _)))
    have H3 := hid (rtp_3 hF hp hN)
    have HR1 := hid (HR.out hN)
    have hl := rtp_len (a := a) (b := b) (c := c) (d := d) h97
    change Hid (∀ W, Calls Tryd.prog 149 #[.agg #[.int .i64 a, .int .i64 b, .int .i64 c, .int .i64 d], .int .i64 p] W (RwOut 3 ((rtp a b c d p).map rw3) W)) at HR1
    clear hF hp HR
    generalize kdn a b c d p = KN at HE ⊢
    generalize rtp a b c d p = RR at HR1 HE H3 hl
    go_enter Tryd.func143, Tryd.ntmps143
    go_wp2_with fail
    refine (HU.out _).mono ?_
    rintro e w1 ⟨rfl, hb1⟩
    have A1 := A0.next hb1
    have U1 := gr_trans U0 hb1
    obtain ⟨_, c0, c1, c2, c3, _⟩ := id A1
    clear A0 U0
    go_wp2_with fail
    refine (HR1.out _).mono ?_
    rintro e w2 ⟨v, rfl, hX, hb2⟩
    have U2 := gr_trans U1 hb2
    obtain ⟨T, hC⟩ := hX.toC
    rw [List.length_map] at hC
    have HC := hid hC
    obtain ⟨va, cap, rfl, hcl, hcm, _⟩ := hC
    unfold maxLen at hcm
    clear c0 c1 c2 c3 A1 U1 hX hN
    go_wp2_with fail
    go_loopw [6, 7] (fun s6 s7 wr => ∃ k : Nat, k ≤ RR.length ∧ s7 = .int .i64 ((k : Int)) ∧ s6 = .int .i64 (mxK RR k) ∧ Below w2.heap.size w2 wr) (fun _ s7 _ => RR.length - (intOf s7).toNat)
    case atStart => exact ⟨0, Nat.zero_le _, rfl, rfl, Below.refl _ _⟩
    case round =>
      obtain ⟨k, hk, rfl, rfl, hB⟩ := hrel
      have HB := hid hB
      by_cases hlt : k < RR.length
      · obtain ⟨_, _, e', _, _, hCs, hg, hr, _⟩ := HC.out.next hB
        cases e'
        obtain ⟨g, rfl, _, hgl, hcell⟩ := hg (by omega)
        have y0 := (hcell k hlt).1
        have y1 := ((hr k hlt).2.2.2 2 (by omega)).1
        simp only [rw3_get hlt] at y1
        have HS := hid (mxK_s hlt)
        clear hcell hr hB hg
        generalize T k = tk at y0 y1
        generalize RR[k].2.2 = t at y1 HS
        generalize mxK RR k = M at HS ⊢
        go_wp2_with fail
        go_roundw
        case rel => exact ⟨k + 1, by omega, by go_num, by rw [HS.out, mx_if], HB.out⟩
        case measure => simp [intOf]; omega
      · have e : k = RR.length := by omega
        subst e
        have HM := hid (mxK_e RR)
        have hge := (mx_ge RR 0).1
        have hle := mx_of RR 0 3 (by omega) (fun r hr => (H3.out r hr).2)
        change 0 ≤ mxt RR at hge
        change mxt RR ≤ 3 at hle
        rw [← HM.out] at hge hle HE
        generalize mxK RR RR.length = M at HE hge hle ⊢
        clear hB
        by_cases m3 : M = 3
        · have H := hid (HE.out.trans (if_pos m3))
          have b3 : (M == 3) = true := by simpa using m3
          clear m3
          go_wp2_with fail
          go_ret
          rw [H.out]
          exact ⟨rfl, gr_trans U2 HB.out⟩
        · by_cases m2 : M = 2
          · have H := hid (show KN = 4 by rw [HE.out, if_neg m3, if_pos m2])
            have b3 : (M == 3) = false := by simpa using m3
            have b2 : (M == 2) = true := by simpa using m2
            clear m3 m2
            go_wp2_with fail
            go_ret
            rw [H.out]
            exact ⟨rfl, gr_trans U2 HB.out⟩
          · have HE1 := hid (show KN = if (RR.length : Int) = 3 then 1 else if (RR.length : Int) = 1 then 2 else 3 by rw [HE.out, if_neg m3, if_neg m2])
            have b3 : (M == 3) = false := by simpa using m3
            have b2 : (M == 2) = false := by simpa using m2
            clear m3 m2
            by_cases l3 : (RR.length : Int) = 3
            · have H := hid (show KN = 1 by rw [HE1.out, if_pos l3])
              have d3 : ((RR.length : Int) == 3) = true := by simpa using l3
              clear l3
              go_wp2_with fail
              go_ret
              rw [H.out]
              exact ⟨rfl, gr_trans U2 HB.out⟩
            · by_cases l1 : (RR.length : Int) = 1
              · have H := hid (show KN = 2 by rw [HE1.out, if_neg l3, if_pos l1])
                have d3 : ((RR.length : Int) == 3) = false := by simpa using l3
                have d1 : ((RR.length : Int) == 1) = true := by simpa using l1
                clear l3 l1
                go_wp2_with fail
                go_ret
                rw [H.out]
                exact ⟨rfl, gr_trans U2 HB.out⟩
              · have H := hid (show KN = 3 by rw [HE1.out, if_neg l3, if_neg l1])
                have d3 : ((RR.length : Int) == 3) = false := by simpa using l3
                have d1 : ((RR.length : Int) == 1) = false := by simpa using l1
                clear l3 l1
                go_wp2_with fail
                go_ret
                rw [H.out]
                exact ⟨rfl, gr_trans U2 HB.out⟩

set_option maxRecDepth 100000 in
set_option maxHeartbeats 1000000 in
theorem sKindModulo_any (a b c d p : Int) (w : World) : Calls Tryd.prog 59 #[.agg #[.int .i64 a, .int .i64 b, .int .i64 c, .int .i64 d], .int .i64 p] w fun e w' => e = .returned (.tuple #[.int .i64 (kmv a b c d p), .int .i64 (fpc a b c d p)]) ∧ Below w.heap.size w w' := by
  have hc0 := fun W => l05Code_any a b c d p W
  have hk : fpc a b c d p = 0 → isF a b c d = true ∧ prm p = true := fpc_0.1
  have h0 : fpc a b c d p = 0 → kmv a b c d p = kdn a b c d p := fun h => by simp [kmv, h]
  have hn : fpc a b c d p ≠ 0 → kmv a b c d p = 0 := fun h => by simp [kmv, h]
  generalize fpc a b c d p = k at hc0 hk h0 hn ⊢
  have HC := hid hc0; have HK := hid hk; have H0 := hid h0; have HN := hid hn
  clear hc0 hk h0 hn
  have U0 := gr_alloc (Below.refl w.heap.size w) (.cells #[.int .i64 a, .int .i64 b, .int .i64 c, .int .i64 d] 25)
  go_enter Tryd.func59, Tryd.ntmps59
  go_wp2_with fail
  refine (HC.out _).mono ?_
  rintro e w1 ⟨rfl, hb1⟩
  obtain ⟨_, c0, c1, c2, c3, _⟩ := (Arr.new w a b c d 25).next hb1
  have U1 := gr_trans U0 hb1
  by_cases hk0 : k = 0
  · subst hk0
    obtain ⟨hF, hp⟩ := HK.out rfl
    have HE := hid (H0.out rfl)
    have HM := hid (fun W => l05Kind_any a b c d p W hF (prm_prq hp))
    clear hF hp
    generalize kdn a b c d p = z at HE HM
    go_wp2_with fail
    refine (HM.out _).mono ?_
    rintro e w2 ⟨rfl, hb2⟩
    go_wp2_with fail
    go_ret2
    rw [HE.out]
    exact ⟨rfl, gr_trans U1 hb2⟩
  · have HE := hid (HN.out hk0)
    have hk' : (k == 0) = false := by simpa using hk0
    clear hk0
    go_wp2_with fail
    go_ret2
    rw [HE.out]
    exact ⟨rfl, U1⟩

/-- The value of CountRoots. -/
def crv (a b c d p : Int) : Int := if fpc a b c d p = 0 then (if mul0 (cnt a b c d) p then p + 1 else ((rtp a b c d p).length : Int)) else 0

set_option maxRecDepth 100000 in
set_option maxHeartbeats 1000000 in
theorem iCountRoots_any (a b c d p : Int) (pv : Value) (w : World) (hg : Sen w pv) : Calls Tryd.prog 25 #[.agg #[.int .i64 a, .int .i64 b, .int .i64 c, .int .i64 d], .int .i64 p] w fun e w' => e = .returned (.tuple #[.int .i64 (crv a b c d p), .int .i64 (fpc a b c d p)]) ∧ Below w.heap.size w w' := by
  have hc0 := fun W => iCheckFP_any a b c d p W
  have hk : fpc a b c d p = 0 → isF a b c d = true ∧ prm p = true := fpc_0.1
  have h5 : fpc a b c d p = 0 → mul0 (cnt a b c d) p = true → crv a b c d p = p + 1 := fun h h' => by simp [crv, h, h']
  have h0 : fpc a b c d p = 0 → mul0 (cnt a b c d) p = false → crv a b c d p = ((rtp a b c d p).length : Int) := fun h h' => by simp [crv, h, h']
  have hn : fpc a b c d p ≠ 0 → crv a b c d p = 0 := fun h => by simp [crv, h]
  generalize fpc a b c d p = k at hc0 hk h5 h0 hn ⊢
  generalize crv a b c d p = CV at h5 h0 hn ⊢
  have HC := hid hc0; have HK := hid hk; have H0 := hid h0; have H5 := hid h5; have HN := hid hn
  clear hc0 hk h0 h5 hn
  have U0 := gr_alloc (Below.refl w.heap.size w) (.cells #[.int .i64 a, .int .i64 b, .int .i64 c, .int .i64 d] 25)
  have G0 := hg.alloc (.cells #[.int .i64 a, .int .i64 b, .int .i64 c, .int .i64 d] 25)
  have q1 := ne_nilI
  have q2 := ne_errI pv
  go_enter Tryd.func25, Tryd.ntmps25
  go_wp2_with fail
  refine (HC.out _).mono ?_
  rintro e w1 ⟨rfl, hb1⟩
  obtain ⟨_, c0, c1, c2, c3, _⟩ := (Arr.new w a b c d 25).next hb1
  have U1 := gr_trans U0 hb1
  have G1 := G0.next hb1
  by_cases hk0 : k = 0
  · subst hk0
    obtain ⟨hF, hp⟩ := HK.out rfl
    obtain ⟨h2, h97⟩ := prq_rng (prm_prq hp)
    cases hN : mul0 (cnt a b c d) p with
    | true =>
      have HE := hid (H5.out rfl hN)
      have HR := hid (fun W hg => roe_n a b c d p pv W hg h2 h97 hF hN)
      clear hN hF hp
      go_wp2_with fail
      refine (HR.out _ G1).mono ?_
      rintro e w2 ⟨rfl, hb2⟩
      go_wp2_with fail
      go_ret2
      rw [HE.out]
      exact ⟨rfl, gr_trans U1 hb2⟩
    | false =>
      have HE := hid (H0.out rfl hN)
      have HR := hid (fun W => roe_p a b c d p W h2 h97 hF hN)
      clear hN hF hp
      generalize rtp a b c d p = RR at HR HE
      go_wp2_with fail
      refine (HR.out _).mono ?_
      rintro e w2 ⟨v, rfl, hO, hb2⟩
      have hform : ∃ va cap, v = .slice va RR.length cap := by
        rcases hO.2 with ⟨rfl, h⟩ | ⟨g, cap, cur, rfl, _⟩
        · exact ⟨none, 0, by rw [h]⟩
        · exact ⟨_, cap, rfl⟩
      obtain ⟨va, cap, rfl⟩ := hform
      go_wp2_with fail
      go_ret2
      rw [HE.out]
      exact ⟨rfl, gr_trans U1 hb2⟩
  · have HE := hid (HN.out hk0)
    have hk' : (k == 0) = false := by simpa using hk0
    clear hk0
    go_wp2_with fail
    go_ret2
    rw [HE.out]
    exact ⟨rfl, U1⟩




end Go.Proofs.YtambbhldhhlfgaaDoor
