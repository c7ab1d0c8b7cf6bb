/- Chapter 5: rational roots, the model's. -/
import Derived.Test.YtmhlolimaeejfaaDoorZ13
import Derived.Test.YtmhlolimaeejfaaDoorZ5
import Derived.Deep.RegionHeld3
import Derived.Deep.DeepCutAuto
import Derived.Deep.CutBlock
import Derived.BigQuiet
namespace Go.Proofs.YtmhlolimaeejfaaDoor
open Go.RowKit

def lsK (a b c d : Int) : Nat → Int
  | 0 => d
  | 1 => fsS d c
  | 2 => fsS (fsS d c) b
  | _ => fsS (fsS (fsS d c) b) a
theorem lsK_n {a b c d : Int} {k : Nat} (h : lsK a b c d k ≠ 0) (hk : k ≤ 3) : lsK a b c d 3 = lsK a b c d k := by
  have hk' : k = 0 ∨ k = 1 ∨ k = 2 ∨ k = 3 := by omega
  rcases hk' with rfl | rfl | rfl | rfl <;> simp only [lsK] at h ⊢ <;> simp only [fsS_n h]

set_option maxRecDepth 100000 in
set_option maxHeartbeats 8000000 in
theorem l05Rational_any (a b c d : Int) (f l : Nat) (w : World) (_ha : -1000 ≤ a ∧ a ≤ 1000) (_hb : -1000 ≤ b ∧ b ≤ 1000) (_hc : -1000 ≤ c ∧ c ≤ 1000) (_hd : -1000 ≤ d ∧ d ≤ 1000)
    (hf : f = (fsK a b c d 4).natAbs) (hl : l = (lsK a b c d 3).natAbs) (hf1 : 1 ≤ f) (hl1 : 1 ≤ l) (hf2 : f ≤ 1000) (hl2 : l ≤ 1000) :
    Calls Tryd.prog 54 #[.agg #[.int .i64 a, .int .i64 b, .int .i64 c, .int .i64 d]] w (RwOut 2 (mK a b c d (dvK f f) (dvK l l) (dvK f f).length) w) := by
  have hfb : -1000 ≤ fsK a b c d 4 ∧ fsK a b c d 4 ≤ 1000 := by omega
  have hlb : -1000 ≤ lsK a b c d 3 ∧ lsK a b c d 3 ≤ 1000 := by omega
  have HDF := hid (fun n (hn : n = fsK a b c d 4) W => l05Divisors_any n f W (by omega) (by omega) (by rw [hn]; exact hf))
  have HDL := hid (fun n (hn : n = lsK a b c d 3) W => l05Divisors_any n l W (by omega) (by omega) (by rw [hn]; exact hl))
  have HBb := hid (fun z (hz : z ∈ dvK f f) => (show 1 ≤ z ∧ z ≤ 1000 by have := mem_dvK hz; omega))
  have HDb := hid (fun z (hz : z ∈ dvK l l) => (show 1 ≤ z ∧ z ≤ 1000 by have := mem_dvK hz; omega))
  have hB0 := dvK_pos hf1
  have hD0 := dvK_pos hl1
  have hB1 : (dvK f f).length ≤ 1000 := by have := dvK_len f f; omega
  have hD1 : (dvK l l).length ≤ 1000 := by have := dvK_len l l; omega
  have HFN := hid (fun k => @fsK_n a b c d k)
  have HLN := hid (fun k => @lsK_n a b c d k)
  have hFP := hid (fun h : fsK a b c d 4 = 0 => (show False by rw [h] at hf; simp at hf; omega))
  have hLP := hid (fun h : lsK a b c d 3 = 0 => (show False by rw [h] at hl; simp at hl; omega))
  have HMK := hid (fun i (h : i < (dvK f f).length) => @mK_s a b c d (dvK f f) (dvK l l) i h)
  have HML := hid (mK_len a b c d (dvK f f) (dvK l l))
  have HM0 := hid (show mK a b c d (dvK f f) (dvK l l) 0 = m0r a by simp [mK])
  clear hf hl hf1 hl1 hfb hlb
  generalize dvK f f = B at HDF HBb hB0 hB1 HMK HML HM0 ⊢
  generalize dvK l l = D at HDL HDb hD0 hD1 HMK HML HM0 ⊢
  have S0 : Sst w ((w.alloc (.cells #[.int .i64 a, .int .i64 b, .int .i64 c, .int .i64 d] 26)).alloc (.cells #[] 33)) a b c d (.slice none 0 0) [] (.slice none 0 0) [] (.slice (some ⟨w.heap.size + 1, 0, none⟩) 0 0) [] := by
    have R0 := RwX.empty w.heap.size (w.alloc (.cells #[.int .i64 a, .int .i64 b, .int .i64 c, .int .i64 d] 26)) 2 (by simp)
    simp only [World.size_alloc] at R0
    exact ⟨R0, (Bx.new w #[.int .i64 a, .int .i64 b, .int .i64 c, .int .i64 d] 26).alloc _, World.ownsRow_nil _ _ _ _, World.ownsRow_nil _ _ _ _, gr_alloc (gr_alloc (Below.refl w.heap.size w) _) _⟩
  generalize hw0 : (w.alloc (.cells #[.int .i64 a, .int .i64 b, .int .i64 c, .int .i64 d] 26)).alloc (.cells #[] 33) = w0 at S0
  have HS0 := hid S0
  have HW0 := hid hw0
  clear S0
  have A0 := HS0.out.fm.arr4
  obtain ⟨_, c0, c1, c2, c3, _⟩ := id A0
  go_enter Tryd.func54, Tryd.ntmps54
  go_upto_if 17 with fail
  clear hw0 HW0
  go_cut [3] (fun s3 wx => Sst w wx a b c d (.slice none 0 0) [] (.slice none 0 0) [] s3 (m0r a))
  case first =>
    cases h0 : (a == 0) with
    | true =>
      have HM := hid (show m0r a = [] ++ [[1, 0]] by simp [m0r, h0])
      go_wp2_with (at_builtin; refine app_S rfl _ _ rfl rfl HS0.out rfl (by simp) ?_)
      intro v5 w5 HS5
      have HS6 := hid HS5
      clear HS5
      go_wp2_with fail
      go_meet
      rw [HM.out]
      exact HS6.out
    | false =>
      have HM := hid (show m0r a = [] by simp [m0r, h0])
      go_wp2_with fail
      go_meet
      rw [HM.out]
      exact HS0.out
  case rest =>
    have HS1 := hid hcut
    clear hcut c0 c1 c2 c3 A0
    obtain ⟨_, c0, c1, c2, c3, _⟩ := HS1.out.fm.arr4
    go_upto_region 4 with fail
    go_quiet (fail)
    have HS2 := hid (HS1.out.next (gr_drewN (Below.refl _ wc) nq))
    generalize wc.drewN nq = w2 at HS2 ⊢
    clear c0 c1 c2 c3 HS1
    obtain ⟨_, c0, c1, c2, c3, _⟩ := HS2.out.fm.arr4
    go_upto_block 0 with fail
    go_cut [4, 6] (fun s4 s6 wx => s4 = .int .i64 (fsK a b c d 4) ∧ wx = w2)
    case first =>
      go_wp2_with fail
      go_loop [4, 6] (fun s4 s6 => ∃ k : Nat, 1 ≤ k ∧ k ≤ 4 ∧ s6 = .int .i64 ((k : Int)) ∧ s4 = .int .i64 (fsK a b c d k)) (fun _ s6 => 4 - (intOf s6).toNat)
      case atStart => exact ⟨1, by omega, by omega, rfl, rfl⟩
      case round =>
        obtain ⟨k, hk1, hk4, rfl, rfl⟩ := hrel
        by_cases hF : fsK a b c d k = 0
        · have hF' : (fsK a b c d k == 0) = true := by simp [hF]
          have hk5 : k = 1 ∨ k = 2 ∨ k = 3 ∨ k = 4 := by omega
          have HF := hid hF
          clear hF hk1 hk4
          rcases hk5 with rfl | rfl | rfl | rfl
          · have HE := hid (show fsK a b c d 2 = b by show fsS (fsK a b c d 1) b = b; rw [HF.out, fsS_0])
            go_wp2_with fail
            go_round
            case rel => exact ⟨2, by omega, by omega, by go_num, by rw [HE.out]⟩
            case measure => simp [intOf]
          · have HE := hid (show fsK a b c d 3 = c by show fsS (fsK a b c d 2) c = c; rw [HF.out, fsS_0])
            go_wp2_with fail
            go_round
            case rel => exact ⟨3, by omega, by omega, by go_num, by rw [HE.out]⟩
            case measure => simp [intOf]
          · have HE := hid (show fsK a b c d 4 = d by show fsS (fsK a b c d 3) d = d; rw [HF.out, fsS_0])
            go_wp2_with fail
            go_round
            case rel => exact ⟨4, by omega, by omega, by go_num, by rw [HE.out]⟩
            case measure => simp [intOf]
          · exact (hFP.out HF.out).elim
        · have hF' : (fsK a b c d k == 0) = false := by simp [hF]
          have HE := hid (HFN.out k hF hk4)
          clear hF
          by_cases hk : k < 4
          · go_wp2_with fail
            go_meet
            exact ⟨by rw [HE.out], rfl⟩
          · go_wp2_with fail
            go_meet
            exact ⟨by rw [HE.out], rfl⟩
    case rest =>
      obtain ⟨rfl, rfl⟩ := hcut
      go_upto_block 2 with fail
      go_cut [5, 7] (fun s5 s7 wx => s5 = .int .i64 (lsK a b c d 3) ∧ wx = wc)
      case first =>
        go_wp2_with fail
        go_loop [5, 7] (fun s5 s7 => ∃ k : Nat, k ≤ 3 ∧ s7 = .int .i64 (2 - (k : Int)) ∧ s5 = .int .i64 (lsK a b c d k)) (fun _ s7 => (intOf s7 + 1).toNat)
        case atStart => exact ⟨0, by omega, rfl, rfl⟩
        case round =>
          obtain ⟨k, hk4, rfl, rfl⟩ := hrel
          by_cases hF : lsK a b c d k = 0
          · have hF' : (lsK a b c d k == 0) = true := by simp [hF]
            have hk5 : k = 0 ∨ k = 1 ∨ k = 2 ∨ k = 3 := by omega
            have HF := hid hF
            clear hF hk4
            rcases hk5 with rfl | rfl | rfl | rfl
            · have HE := hid (show lsK a b c d 1 = c by show fsS (lsK a b c d 0) c = c; rw [HF.out, fsS_0])
              go_wp2_with fail
              go_round
              case rel => exact ⟨1, by omega, by go_num, by rw [HE.out]⟩
              case measure => simp [intOf]
            · have HE := hid (show lsK a b c d 2 = b by show fsS (lsK a b c d 1) b = b; rw [HF.out, fsS_0])
              go_wp2_with fail
              go_round
              case rel => exact ⟨2, by omega, by go_num, by rw [HE.out]⟩
              case measure => simp [intOf]
            · have HE := hid (show lsK a b c d 3 = a by show fsS (lsK a b c d 2) a = a; rw [HF.out, fsS_0])
              go_wp2_with fail
              go_round
              case rel => exact ⟨3, by omega, by go_num, by rw [HE.out]⟩
              case measure => simp [intOf]
            · exact (hLP.out HF.out).elim
          · have hF' : (lsK a b c d k == 0) = false := by simp [hF]
            have HE := hid (HLN.out k hF hk4)
            clear hF
            by_cases hk : k < 3
            · go_wp2_with fail
              go_meet
              exact ⟨by rw [HE.out], rfl⟩
            · go_wp2_with fail
              go_meet
              exact ⟨by rw [HE.out], rfl⟩
      case rest =>
        obtain ⟨rfl, rfl⟩ := hcut
        clear c0 c1 c2 c3
        have HS3 := hid (HS2.out)
        clear HS2
        go_wp2_with fail
        refine (HDF.out _ rfl _).mono ?_
        rintro e w3 ⟨vb, rfl, hB, hb3⟩
        go_wp2_with fail
        refine (HDL.out _ rfl _).mono ?_
        rintro e w4 ⟨va, rfl, hA, hb4⟩
        have hs0 := HS3.out.up.size
        have hs3 := hb3.size
        have HS4 := HS3.out.next (gr_trans hb3 hb4)
        have hB' := owns_mono (owns_next hB hb4) hs0
        have hA' := owns_mono hA (Nat.le_trans hs0 hs3)
        obtain ⟨gb, capb, rfl, _, hgb, hnb, hcb, _⟩ := owns_formS hB' hB0
        obtain ⟨ga, capa, rfl, _, hga, hna, hca, _⟩ := owns_formS hA' hD0
        have HS5 := hid (Sst.mk HS4.rw HS4.fm hB' hA' HS4.up)
        unfold maxLen at hca hcb
        rw [← HM0.out] at HS5
        clear HS3 HS4 hB hA hB' hA' hb3 hb4 hs0 hs3 HDF HDL HFN HLN hFP hLP HM0 hgb hga
        go_wp2_with fail
        go_loopw [3, 10] (fun s3 s10 wo => ∃ i : Nat, i ≤ B.length ∧ s10 = .int .i64 ((i : Int)) ∧ Sst w wo a b c d (.slice (some ⟨gb, 0, none⟩) B.length capb) B (.slice (some ⟨ga, 0, none⟩) D.length capa) D s3 (mK a b c d B D i)) (fun _ s10 _ => B.length - (intOf s10).toNat)
        case atStart => exact ⟨0, Nat.zero_le _, rfl, HS5.out⟩
        case round =>
          obtain ⟨i, hi, rfl, hS⟩ := hrel
          have HSo := hid hS
          clear hS HS5
          by_cases hlt : i < B.length
          · obtain ⟨hy1, hy2⟩ := HBb.out B[i] (List.getElem_mem hlt)
            obtain ⟨hcy, _⟩ := ocell HSo.out.ob i hlt
            have HK := hid (HMK.out i hlt)
            have hML := HML.out i hi
            have hmm : i * (2 * D.length + 1) ≤ 1000 * 2001 := Nat.mul_le_mul (by omega) (by omega)
            have hMl : (mK a b c d B D i).length ≤ 2001001 := by omega
            clear hML hmm
            generalize B[i] = y at HK hy1 hy2 hcy
            unfold mY at HK
            have HK' := hid (show mK a b c d B D (i + 1) = mK a b c d B D i ++ mN a b c d y D 0 ++ mZ d y ++ mP a b c d y D D.length by rw [HK.out]; simp only [List.append_assoc])
            clear HK
            generalize mK a b c d B D i = M at HSo HK' hMl
            have hne : M ++ mN a b c d y D D.length = M := by rw [mN_e]; simp
            have HNE := hid hne
            clear hne
            go_wp2_with fail
            go_loopw [3, 12] (fun s3 s12 wr => ∃ k : Nat, k ≤ D.length ∧ s12 = .int .i64 ((k : Int) - 1) ∧ Sst w wr a b c d (.slice (some ⟨gb, 0, none⟩) B.length capb) B (.slice (some ⟨ga, 0, none⟩) D.length capa) D s3 (M ++ mN a b c d y D k)) (fun _ s12 _ => (intOf s12 + 1).toNat)
            case atStart => exact ⟨D.length, Nat.le_refl _, rfl, by rw [HNE.out]; exact HSo.out⟩
            case round =>
              obtain ⟨k1, hk1, rfl, hS⟩ := hrel
              have HS := hid hS
              clear hS hcy
              rcases Nat.eq_zero_or_pos k1 with h0 | h0
              · subst h0
                rw [show ((0 : Nat) : Int) - 1 = -1 by rfl]
                have hM1 : (M ++ mN a b c d y D 0).length ≤ 2002001 := by rw [List.length_append]; have := mN_len a b c d y D 0; omega
                generalize M ++ mN a b c d y D 0 = M1 at HS HK' hM1
                obtain ⟨_, c0, c1, c2, c3, _⟩ := HS.out.fm.arr4
                have HMZ := hid (show mZ d y = if (y == 1 && d == 0) = true then [[0, 1]] else [] from rfl)
                go_upto_region 23 with fail
                go_cut [103] (fun s103 wx => s103 = .bool (y == 1 && d == 0) ∧ wx = wr)
                case first =>
                  cases cy : (y == 1) with
                  | true =>
                    cases cd : (d == 0) with
                    | true =>
                      go_wp2_with fail
                      go_meet
                      exact ⟨by simp [cy, cd], rfl⟩
                    | false =>
                      go_wp2_with fail
                      go_meet
                      exact ⟨by simp [cy, cd], rfl⟩
                  | false =>
                    go_wp2_with fail
                    go_meet
                    exact ⟨by simp [cy], rfl⟩
                case rest =>
                  obtain ⟨rfl, rfl⟩ := hcut
                  generalize (y == 1 && d == 0) = Z at HMZ
                  go_upto_if 103 with fail
                  go_cut [3] (fun s3 wx => Sst w wx a b c d (.slice (some ⟨gb, 0, none⟩) B.length capb) B (.slice (some ⟨ga, 0, none⟩) D.length capa) D s3 (M1 ++ mZ d y))
                  case first =>
                    cases Z with
                    | true =>
                      have HE := hid (show M1 ++ mZ d y = M1 ++ [[0, 1]] by rw [HMZ.out]; simp)
                      go_wp2_with (at_builtin; refine app_S rfl _ _ rfl rfl HS.out rfl (by omega) ?_)
                      intro v5 w5 HS5
                      have HS6 := hid HS5
                      clear HS5
                      go_wp2_with fail
                      go_meet
                      rw [HE.out]
                      exact HS6.out
                    | false =>
                      have HE := hid (show M1 ++ mZ d y = M1 by rw [HMZ.out]; simp)
                      go_wp2_with fail
                      go_meet
                      rw [HE.out]
                      exact HS.out
                  case rest =>
                    have HS7 := hid hcut
                    clear hcut HS c0 c1 c2 c3
                    have hM2 : (M1 ++ mZ d y).length ≤ 2002002 := by rw [List.length_append]; have := mZ_len d y; omega
                    have HP0 := hid (show M1 ++ mZ d y ++ mP a b c d y D 0 = M1 ++ mZ d y by rw [mP_0]; simp)
                    generalize M1 ++ mZ d y = M2 at HS7 HK' hM2 HP0
                    go_wp2_with fail
                    go_loopw [3, 13] (fun s3 s13 wr => ∃ k : Nat, k ≤ D.length ∧ s13 = .int .i64 ((k : Int)) ∧ Sst w wr a b c d (.slice (some ⟨gb, 0, none⟩) B.length capb) B (.slice (some ⟨ga, 0, none⟩) D.length capa) D s3 (M2 ++ mP a b c d y D k)) (fun _ s13 _ => D.length - (intOf s13).toNat)
                    case atStart => exact ⟨0, Nat.zero_le _, rfl, by rw [HP0.out]; exact HS7.out⟩
                    case round =>
                      obtain ⟨k, hk, rfl, hS⟩ := hrel
                      have HS := hid hS
                      clear hS HS7
                      by_cases hkl : k < D.length
                      · skip
                        obtain ⟨hz1, hz2⟩ := HDb.out D[k] (List.getElem_mem hkl)
                        obtain ⟨hcz, hgz⟩ := ocell HS.out.oa k hkl
                        have hsz := HS.out.up.size
                        have hT : M2 ++ mP a b c d y D (k + 1) = M2 ++ mP a b c d y D k ++ (if cnd a b c d D[k] (D[k]) y = true then [[D[k], y]] else []) := by rw [mP_s hkl, List.append_assoc]
                        have hln : (M2 ++ mP a b c d y D k).length ≤ 100000000 := by rw [List.length_append]; have := mP_len a b c d y D k; omega
                        generalize hz : D[k] = z at hT hz1 hz2 hcz
                        have HZ := hid hz
                        clear hz
                        have hCA : CellAt wr ga k z := ⟨hgz, hcz⟩
                        have hFA := HS.out.fm.arr4
                        obtain ⟨_, c0, c1, c2, c3, _⟩ := id hFA
                        have hg : ∀ W : World, Calls Tryd.prog 70 #[.int .i64 z, .int .i64 y] W fun e w' => e = .returned (.int .i64 ((Int.gcd z y : Int))) ∧ W = w' := fun W => sGcd_any z y W ⟨by omega, by omega⟩ ⟨by omega, by omega⟩
                        have hv : ∀ (X : Int) (W : World), X = z → Calls Tryd.prog 71 #[.agg #[.int .i64 a, .int .i64 b, .int .i64 c, .int .i64 d], .int .i64 X, .int .i64 y] W fun e w' => e = .returned (.int .i64 (vl a b c d (z) y)) ∧ Below W.heap.size W w' := fun X W h => by rw [h]; exact sValue_any a b c d (z) y W
                        unfold cnd at hT
                        generalize vl a b c d (z) y = V at hv hT
                        generalize ((Int.gcd z y : Nat) : Int) = G at hg hT
                        generalize hC : ((G == 1) && (V == 0)) = C at hT
                        have HG := hid hg; have HV := hid hv; have HT := hid hT; have HLn := hid hln
                        clear hg hv hT hln
                        go_upto_region 28 with fail
                        go_cut [130] (fun s130 wx => s130 = .bool C ∧ Below wr.heap.size wr wx)
                        case first =>
                          cases cg : (G == 1) with
                          | false =>
                            have hC0 : C = false := by rw [← hC, cg]; rfl
                            clear hC
                            subst hC0
                            go_quiet ((go_at_call 70; exact quiet_s (HG.out _)))
                            go_wp2_with fail
                            go_meet
                            exact ⟨rfl, gr_drewN (Below.refl _ wr) nq⟩
                          | true =>
                            have hC0 : C = (V == 0) := by rw [← hC, cg]; rfl
                            clear hC
                            subst hC0
                            have hG1 : G = 1 := by simpa using cg
                            clear cg
                            subst hG1
                            go_region_held3 (fun W => W.cell? ⟨w.heap.size, 0, none⟩ = some (.int .i64 a) ∧ W.cell? ⟨w.heap.size, 1, none⟩ = some (.int .i64 b) ∧ W.cell? ⟨w.heap.size, 2, none⟩ = some (.int .i64 c) ∧ W.cell? ⟨w.heap.size, 3, none⟩ = some (.int .i64 d) ∧ W.cell? ⟨ga, k, none⟩ = some (.int .i64 z)) (refine cellsS ?_ ?_ <;> (repeat (first | with_reducible assumption | with_reducible refine CellAt.drew ?_ | with_reducible refine CellAt.next ?_ (by assumption) | with_reducible refine CellAt.alloc ?_ _ | with_reducible refine Arr.drew ?_ | with_reducible refine Arr.next ?_ (by assumption) | with_reducible refine Arr.alloc ?_ _))) (first | (go_at_call 70; refine (HG.out _).mono ?_; rintro e w3 ⟨rfl, rfl⟩) | (go_at_call 71; refine (HV.out _ _ (by first | rfl | exact wr_in (by omega) | exact IntWalk.i64_in _ (by omega) | (simp; omega))).mono ?_; rintro e w4 ⟨rfl, hb4⟩; have hz4 := hb4.size; (try simp at hz4)))
                            all_goals (go_wp2_with fail; go_meet; exact ⟨rfl, by (repeat' (first | with_reducible exact Below.refl _ _ | with_reducible assumption | with_reducible refine gr_alloc ?_ _ | with_reducible refine gr_drew ?_ | with_reducible refine gr_drewN ?_ _ | with_reducible refine gr_trans ?_ (by assumption) | with_reducible refine gr_set ?_ ?_ _ | (simp; done) | omega | (simp; omega)))⟩)
                        case rest =>
                          obtain ⟨rfl, hbx⟩ := hcut
                          have HS1 := hid (HS.out.next hbx)
                          clear c0 c1 c2 c3 hcz hgz hFA hCA hC
                          have hcz := (ocell HS1.out.oa k hkl).1
                          rw [HZ.out] at hcz
                          cases C with
                          | false =>
                            have HF0 := hid (show M2 ++ mP a b c d y D (k + 1) = M2 ++ mP a b c d y D k by have := HT.out; simpa using this)
                            go_wp2_with fail
                            go_roundw
                            case rel => exact ⟨k + 1, by omega, by try go_num, by rw [HF0.out]; exact HS1.out⟩
                            case measure => simp [intOf]; omega
                          | true =>
                            have HF1 := hid (show M2 ++ mP a b c d y D (k + 1) = M2 ++ mP a b c d y D k ++ [[z, y]] by have := HT.out; simpa using this)
                            have hl2 := HLn.out
                            go_wp2_with (at_builtin; refine app_S rfl _ _ rfl rfl HS1.out rfl (by omega) ?_)
                            intro v5 w5 HS5
                            have HS6 := hid HS5
                            clear HS5
                            go_wp2_with fail
                            go_roundw
                            case rel => exact ⟨k + 1, by omega, by try go_num, by rw [HF1.out]; simpa only [List.append_assoc] using HS6.out⟩
                            case measure => simp [intOf]; omega
                      · have e : k = D.length := by omega
                        subst e
                        go_wp2_with fail
                        go_roundw
                        case rel => exact ⟨i + 1, by omega, by go_num, by rw [HK'.out]; exact HS.out⟩
                        case measure => simp [intOf]; omega
              · obtain ⟨k, rfl⟩ : ∃ k, k1 = k + 1 := ⟨k1 - 1, by omega⟩
                have hk' : ((k + 1 : Nat) : Int) - 1 = (k : Int) := by omega
                rw [hk']
                clear hk' h0
                have hkl : k < D.length := by omega
                obtain ⟨hz1, hz2⟩ := HDb.out D[k] (List.getElem_mem hkl)
                obtain ⟨hcz, hgz⟩ := ocell HS.out.oa k hkl
                have hsz := HS.out.up.size
                have hT : M ++ mN a b c d y D k = M ++ mN a b c d y D (k + 1) ++ (if cnd a b c d D[k] (-D[k]) y = true then [[-D[k], y]] else []) := by rw [mN_s hkl, List.append_assoc]
                have hln : (M ++ mN a b c d y D (k + 1)).length ≤ 100000000 := by rw [List.length_append]; have := mN_len a b c d y D (k + 1); omega
                generalize hz : D[k] = z at hT hz1 hz2 hcz
                have HZ := hid hz
                clear hz
                have hCA : CellAt wr ga k z := ⟨hgz, hcz⟩
                have hFA := HS.out.fm.arr4
                obtain ⟨_, c0, c1, c2, c3, _⟩ := id hFA
                have hg : ∀ W : World, Calls Tryd.prog 70 #[.int .i64 z, .int .i64 y] W fun e w' => e = .returned (.int .i64 ((Int.gcd z y : Int))) ∧ W = w' := fun W => sGcd_any z y W ⟨by omega, by omega⟩ ⟨by omega, by omega⟩
                have hv : ∀ (X : Int) (W : World), X = -z → Calls Tryd.prog 71 #[.agg #[.int .i64 a, .int .i64 b, .int .i64 c, .int .i64 d], .int .i64 X, .int .i64 y] W fun e w' => e = .returned (.int .i64 (vl a b c d (-z) y)) ∧ Below W.heap.size W w' := fun X W h => by rw [h]; exact sValue_any a b c d (-z) y W
                unfold cnd at hT
                generalize vl a b c d (-z) y = V at hv hT
                generalize ((Int.gcd z y : Nat) : Int) = G at hg hT
                generalize hC : ((G == 1) && (V == 0)) = C at hT
                have HG := hid hg; have HV := hid hv; have HT := hid hT; have HLn := hid hln
                clear hg hv hT hln
                go_upto_region 21 with fail
                go_cut [86] (fun s86 wx => s86 = .bool C ∧ Below wr.heap.size wr wx)
                case first =>
                  cases cg : (G == 1) with
                  | false =>
                    have hC0 : C = false := by rw [← hC, cg]; rfl
                    clear hC
                    subst hC0
                    go_quiet ((go_at_call 70; exact quiet_s (HG.out _)))
                    go_wp2_with fail
                    go_meet
                    exact ⟨rfl, gr_drewN (Below.refl _ wr) nq⟩
                  | true =>
                    have hC0 : C = (V == 0) := by rw [← hC, cg]; rfl
                    clear hC
                    subst hC0
                    have hG1 : G = 1 := by simpa using cg
                    clear cg
                    subst hG1
                    go_region_held3 (fun W => W.cell? ⟨w.heap.size, 0, none⟩ = some (.int .i64 a) ∧ W.cell? ⟨w.heap.size, 1, none⟩ = some (.int .i64 b) ∧ W.cell? ⟨w.heap.size, 2, none⟩ = some (.int .i64 c) ∧ W.cell? ⟨w.heap.size, 3, none⟩ = some (.int .i64 d) ∧ W.cell? ⟨ga, k, none⟩ = some (.int .i64 z)) (refine cellsS ?_ ?_ <;> (repeat (first | with_reducible assumption | with_reducible refine CellAt.drew ?_ | with_reducible refine CellAt.next ?_ (by assumption) | with_reducible refine CellAt.alloc ?_ _ | with_reducible refine Arr.drew ?_ | with_reducible refine Arr.next ?_ (by assumption) | with_reducible refine Arr.alloc ?_ _))) (first | (go_at_call 70; refine (HG.out _).mono ?_; rintro e w3 ⟨rfl, rfl⟩) | (go_at_call 71; refine (HV.out _ _ (by first | rfl | exact wr_in (by omega) | exact IntWalk.i64_in _ (by omega) | (simp; omega))).mono ?_; rintro e w4 ⟨rfl, hb4⟩; have hz4 := hb4.size; (try simp at hz4)))
                    all_goals (go_wp2_with fail; go_meet; exact ⟨rfl, by (repeat' (first | with_reducible exact Below.refl _ _ | with_reducible assumption | with_reducible refine gr_alloc ?_ _ | with_reducible refine gr_drew ?_ | with_reducible refine gr_drewN ?_ _ | with_reducible refine gr_trans ?_ (by assumption) | with_reducible refine gr_set ?_ ?_ _ | (simp; done) | omega | (simp; omega)))⟩)
                case rest =>
                  obtain ⟨rfl, hbx⟩ := hcut
                  have HS1 := hid (HS.out.next hbx)
                  clear c0 c1 c2 c3 hcz hgz hFA hCA hC
                  have hcz := (ocell HS1.out.oa k hkl).1
                  rw [HZ.out] at hcz
                  cases C with
                  | false =>
                    have HF0 := hid (show M ++ mN a b c d y D k = M ++ mN a b c d y D (k + 1) by have := HT.out; simpa using this)
                    go_wp2_with fail
                    go_roundw
                    case rel => exact ⟨k, by omega, by try go_num, by rw [HF0.out]; exact HS1.out⟩
                    case measure => simp [intOf]
                  | true =>
                    have HF1 := hid (show M ++ mN a b c d y D k = M ++ mN a b c d y D (k + 1) ++ [[-z, y]] by have := HT.out; simpa using this)
                    have hl2 := HLn.out
                    go_wp2_with (at_builtin; refine app_S rfl _ _ rfl rfl HS1.out rfl (by omega) ?_)
                    intro v5 w5 HS5
                    have HS6 := hid HS5
                    clear HS5
                    go_wp2_with fail
                    go_roundw
                    case rel => exact ⟨k, by omega, by try go_num, by rw [HF1.out]; simpa only [List.append_assoc] using HS6.out⟩
                    case measure => simp [intOf]
          · have e : i = B.length := by omega
            subst e
            go_wp2_with fail
            go_ret
            exact ⟨_, rfl, HSo.out.rw, HSo.out.up⟩


end Go.Proofs.YtmhlolimaeejfaaDoor
