/- FnMatrices, cut: the third block: changed forms. -/
import Derived.Test.YtodbbbgokegehaaFm4
namespace Go.Proofs.Ytodbbbgokegehaa
open Go.ChangeShapes Go.WideShapes Go.ChangeAt Go.RowKit

set_option maxRecDepth 1000000 in
set_option maxHeartbeats 8000000 in
theorem seg136_any (w : World) (a0 : Option Addr) (len0 cap0 : Nat) (z0 : List Int) (HR : Hid (IsRow .u8 w a0 len0 cap0 z0)) (hlen : len0 ≤ 9223372036854775807) (wc : World) (hcut : Below w.heap.size w wc) (u1 u2 u3 u4 u5 u6 u7 u8 u9 u10 u11 u12 u13 u14 u15 u16 u17 u18 u19 u20 u21 u22 u23 u24 u25 u26 u27 u28 u29 u30 u31 u32 u33 u34 u35 u36 u37 u38 u39 u40 u41 u42 u43 u44 u45 u46 u47 u48 u49 u50 u51 u52 u53 u54 u55 u56 u57 u58 u59 u60 u61 u62 u63 u64 u65 u66 u67 u68 u69 u70 u71 u72 u73 u74 u75 u76 u77 u78 u79 u80 u81 u82 u83 u84 u85 u86 u87 u88 u89 u90 u91 u92 u93 u94 u95 u96 u97 u98 u99 u100 u101 u102 u103 u104 u105 u106 u107 u108 u109 u110 u111 u112 u113 u114 u115 u116 u117 u118 u119 u120 u121 u122 u123 u124 u125 u126 u127 u128 u129 u130 u131 u132 u133 u134 u135 u136 u137 u138 u139 u140 u141 u142 u143 u144 u145 u146 u147 u148 u149 u150 u151 u152 u153 u154 u155 u156 u157 u158 u159 u160 u161 u162 u163 u164 u165 u166 u167 u168 u169 u170 u171 u172 u173 u174 u175 u176 u177 u178 u179 u180 u181 u182 u183 u184 u185 u186 u187 u188 u189 u190 u191 u192 u193 u194 u195 u196 u197 u198 u199 u200 u201 u202 u203 u204 u205 u206 u207 u208 u209 u210 u211 u212 u213 u214 u215 u216 u217 u218 u219 u220 u221 u222 u223 u224 u225 u226 u227 u228 u229 u230 u231 u232 u233 u234 u235 u236 u237 u238 u239 u240 u241 u242 u243 u244 u245 u246 u247 u248 u249 u250 u251 u252 u253 u254 u255 u256 u257 u258 u259 u260 u261 u262 u263 u264 u265 u266 u267 u268 u269 u270 u271 u272 u273 u274 u275 u276 u277 u278 u279 u280 u281 u282 u283 u284 u285 u286 u287 u288 u289 u290 u291 u292 u293 u294 u295 u296 u297 u298 u299 : Value) :
    Code.wp Try.prog (seg 136) (bodyPost Try.prog Try.f3 fun e w' => e = .returned (.bool true) ∧ Below w.heap.size w w') ⟨#[.slice a0 len0 cap0, u1, u2, u3, u4, u5, u6, u7, u8, u9, u10, u11, u12, u13, u14, u15, u16, u17, u18, u19, u20, u21, u22, u23, u24, u25, u26, u27, u28, u29, u30, u31, u32, u33, u34, u35, u36, u37, u38, u39, u40, u41, u42, u43, u44, u45, u46, u47, u48, u49, u50, u51, u52, u53, u54, u55, u56, u57, u58, u59, u60, u61, u62, u63, u64, u65, u66, u67, u68, u69, u70, u71, u72, u73, u74, u75, u76, u77, u78, u79, u80, u81, u82, u83, u84, u85, u86, u87, u88, u89, u90, u91, u92, u93, u94, u95, u96, u97, u98, u99, u100, u101, u102, u103, u104, u105, u106, u107, u108, u109, u110, u111, u112, u113, u114, u115, u116, u117, u118, u119, u120, u121, u122, u123, u124, u125, u126, u127, u128, u129, u130, u131, u132, u133, u134, u135, u136, u137, u138, u139, u140, u141, u142, u143, u144, u145, u146, u147, u148, u149, u150, u151, u152, u153, u154, u155, u156, u157, u158, u159, u160, u161, u162, u163, u164, u165, u166, u167, u168, u169, u170, u171, u172, u173, u174, u175, u176, u177, u178, u179, u180, u181, u182, u183, u184, u185, u186, u187, u188, u189, u190, u191, u192, u193, u194, u195, u196, u197, u198, u199, u200, u201, u202, u203, u204, u205, u206, u207, u208, u209, u210, u211, u212, u213, u214, u215, u216, u217, u218, u219, u220, u221, u222, u223, u224, u225, u226, u227, u228, u229, u230, u231, u232, u233, u234, u235, u236, u237, u238, u239, u240, u241, u242, u243, u244, u245, u246, u247, u248, u249, u250, u251, u252, u253, u254, u255, u256, u257, u258, u259, u260, u261, u262, u263, u264, u265, u266, u267, u268, u269, u270, u271, u272, u273, u274, u275, u276, u277, u278, u279, u280, u281, u282, u283, u284, u285, u286, u287, u288, u289, u290, u291, u292, u293, u294, u295, u296, u297, u298, u299], []⟩ wc := by
  have hem := eqMatrix_run
  have hef := eqForm_run
  have HR2 := hid (row8_next HR.out hcut)
  conv => arg 2; whnf
  go_wp2_with fail
  refine (drawCh_any a0 len0 cap0 z0 _ HR2.out hlen).mono ?_
  rintro e w1 ⟨a, b, c, d, p, q, r, s, rfl, V1⟩
  have U1 := gr_trans hcut V1
  have F2 := (Arr.new w1 a b c d 35).alloc (.cells #[.int .i64 p, .int .i64 q, .int .i64 r, .int .i64 s] 25)
  have L2 := Arr.new (w1.alloc (.cells #[.int .i64 a, .int .i64 b, .int .i64 c, .int .i64 d] 35)) p q r s 25
  have U2 := gr_alloc (gr_alloc U1 (.cells #[.int .i64 a, .int .i64 b, .int .i64 c, .int .i64 d] 35)) (.cells #[.int .i64 p, .int .i64 q, .int .i64 r, .int .i64 s] 25)
  simp only [World.size_alloc] at L2
  clear U1 V1 hcut HR2
  obtain ⟨K, hK⟩ : ∃ K, K = chc a b c d p q r s := ⟨_, rfl⟩
  obtain ⟨n0, hn0⟩ : ∃ n, n = if0 K (cA a b c d p r) := ⟨_, rfl⟩
  obtain ⟨n1, hn1⟩ : ∃ n, n = if0 K (cB a b c d p q r s) := ⟨_, rfl⟩
  obtain ⟨n2, hn2⟩ : ∃ n, n = if0 K (cC a b c d p q r s) := ⟨_, rfl⟩
  obtain ⟨n3, hn3⟩ : ∃ n, n = if0 K (cA a b c d q s) := ⟨_, rfl⟩
  have hi := fun W => iChangeForm_any a b c d p q r s W
  have hs := fun W => sChange_any a b c d p q r s W
  rw [← hK, ← hn0, ← hn1, ← hn2, ← hn3] at hi hs
  have HI := hid hi; have HS := hid hs; have HK := hid hK; have HN0 := hid hn0; have HN1 := hid hn1; have HN2 := hid hn2; have HN3 := hid hn3
  clear hi hs hK hn0 hn1 hn2 hn3
  go_wp2_with fail
  refine (HI.out _).mono ?_
  rintro e w3 ⟨rfl, hb3⟩
  have F3 := (F2.next hb3).alloc (.cells #[.int .i64 n0, .int .i64 n1, .int .i64 n2, .int .i64 n3] 35)
  have L3 := (L2.next hb3).alloc (.cells #[.int .i64 n0, .int .i64 n1, .int .i64 n2, .int .i64 n3] 35)
  have X3 := Arr.new w3 n0 n1 n2 n3 35
  have U3 := gr_alloc (gr_trans U2 hb3) (.cells #[.int .i64 n0, .int .i64 n1, .int .i64 n2, .int .i64 n3] 35)
  have hl3 := (F2.next hb3).lt
  have hl3' := (L2.next hb3).lt
  clear F2 L2 U2 hb3 HI
  obtain ⟨_, m0, m1, m2, m3, _⟩ := id F3
  obtain ⟨_, d0, d1, d2, d3, _⟩ := id L3
  go_wp2_with fail
  refine (HS.out _).mono ?_
  rintro e w4 ⟨rfl, hb4⟩
  clear m0 m1 m2 m3 d0 d1 d2 d3
  have F4 := (F3.next hb4).alloc (.cells #[.int .i64 n0, .int .i64 n1, .int .i64 n2, .int .i64 n3] 35)
  have L4 := (L3.next hb4).alloc (.cells #[.int .i64 n0, .int .i64 n1, .int .i64 n2, .int .i64 n3] 35)
  have X4 := (X3.next hb4).alloc (.cells #[.int .i64 n0, .int .i64 n1, .int .i64 n2, .int .i64 n3] 35)
  have Y4 := Arr.new w4 n0 n1 n2 n3 35
  have U4 := gr_alloc (gr_trans U3 hb4) (.cells #[.int .i64 n0, .int .i64 n1, .int .i64 n2, .int .i64 n3] 35)
  have hl4 := (X3.next hb4).lt
  clear F3 L3 X3 U3 hb4 HS
  go_upto_region 26 with fail
  generalize hj1 : w1.heap.size = k1 at F4 L4 hl3 hl3' ⊢
  generalize hj3 : w3.heap.size = k3 at X4 hl3 hl3' hl4 ⊢
  generalize hj4 : w4.heap.size = k4 at Y4 hl4 ⊢
  generalize w4.alloc (.cells #[.int .i64 n0, .int .i64 n1, .int .i64 n2, .int .i64 n3] 35) = W at F4 L4 X4 Y4 U4 ⊢
  clear hj1 hj3 hj4 hl3 hl3' hl4
  obtain ⟨_, x0, x1, x2, x3, _⟩ := id X4
  obtain ⟨_, y0, y1, y2, y3, _⟩ := id Y4
  go_upto_if 176 with (fail)
  clear x0 x1 x2 x3 y0 y1 y2 y3 Y4
  go_cut [] (fun wx => Below w.heap.size w wx)
  case first =>
    by_cases hk : K = 0
    · have kk := HK.out
      rw [hk] at kk
      obtain ⟨hf, hm, hp⟩ := chc_0 kk.symm
      have e0 : n0 = cA a b c d p r := by rw [HN0.out, hk]; simp [if0]
      have e1 : n1 = cB a b c d p q r s := by rw [HN1.out, hk]; simp [if0]
      have e2 : n2 = cC a b c d p q r s := by rw [HN2.out, hk]; simp [if0]
      have e3 : n3 = cA a b c d q s := by rw [HN3.out, hk]; simp [if0]
      have hval := val_2 a b c d p q r s
      have hdis := dsc_ch a b c d p q r s
      rw [← e0, ← e1, ← e2, ← e3] at hp hval hdis
      obtain ⟨g, hg⟩ : ∃ g, g = det p q r s := ⟨_, rfl⟩
      obtain ⟨V, hV⟩ : ∃ x, x = vl a b c d (2 * p - q) (2 * r - s) := ⟨_, rfl⟩
      obtain ⟨D1, hD1⟩ : ∃ x, x = dsc n0 n1 n2 n3 := ⟨_, rfl⟩
      obtain ⟨D2, hD2⟩ : ∃ x, x = dsc a b c d := ⟨_, rfl⟩
      obtain ⟨⟨hp1, hp2⟩, ⟨hq1, hq2⟩, ⟨hr1, hr2⟩, ⟨hs1, hs2⟩⟩ := isF_t hm
      have k1' : plc n0 n1 n2 n3 2 (-1) = 0 := by simp only [plc, hp]; rfl
      have k2' : plc a b c d (2 * p - q) (2 * r - s) = 0 := by
        simp only [plc, hf, rng_mk (show -10000 ≤ 2 * p - q by omega) (show 2 * p - q ≤ 10000 by omega), rng_mk (show -10000 ≤ 2 * r - s by omega) (show 2 * r - s ≤ 10000 by omega)]; rfl
      have c1 := fun W => iValueAt_any n0 n1 n2 n3 2 (-1) W
      have c2 := fun W => iValueAt_any a b c d (2 * p - q) (2 * r - s) W
      have c3 := fun W => iDisc_any n0 n1 n2 n3 W
      have c4 := fun W => iDisc_any a b c d W
      have c5 := fun W => iDet_any p q r s W
      simp only [va0, k1', k2', if_true, hval, ← hV] at c1 c2
      simp only [dsc0, cif, hf, hp, if_true, ← hD1, ← hD2] at c3 c4
      simp only [det0, cif, hm, if_true, ← hg] at c5
      rw [← hD1, ← hD2, ← hg] at hdis
      have hdis' : wrap64 (wrap64 (wrap64 (wrap64 (wrap64 (wrap64 (D2 * g) * g) * g) * g) * g) * g) = D1 := hdis.symm
      have C1 := hid c1; have C2 := hid c2; have C3 := hid c3; have C4 := hid c4; have C5 := hid c5; have HD := hid hdis'
      have E0 := hid e0; have E1 := hid e1; have E2 := hid e2; have E3 := hid e3; have HG := hid hg; have HP := hid hp; have HM := hid hm; have HF := hid hf
      clear c1 c2 c3 c4 c5 hdis hdis' e0 e1 e2 e3 hg hp hm hf hV hD1 hD2 hval k1' k2' kk
      have hkt : (K == 0) = true := by simpa using hk
      subst hk
      obtain ⟨_, x0, x1, x2, x3, _⟩ := id X4
      go_wp2_with fail
      refine (C1.out _).mono ?_
      rintro e v1 ⟨rfl, hv1⟩
      have F5 := F4.next hv1
      have L5 := L4.next hv1
      have X5 := X4.next hv1
      have U5 := gr_trans U4 hv1
      clear x0 x1 x2 x3 F4 L4 X4 U4 hv1 C1
      obtain ⟨_, f0, f1, f2, f3, _⟩ := id F5
      obtain ⟨_, l0, l1, l2, l3, _⟩ := id L5
      go_wp2_with fail
      refine (C2.out _).mono ?_
      rintro e v2 ⟨rfl, hv2⟩
      have F6 := F5.next hv2
      have L6 := L5.next hv2
      have X6 := X5.next hv2
      have U6 := gr_trans U5 hv2
      clear f0 f1 f2 f3 l0 l1 l2 l3 F5 L5 X5 U5 hv2 C2
      obtain ⟨_, x0, x1, x2, x3, _⟩ := id X6
      go_wp2_with fail
      refine (C3.out _).mono ?_
      rintro e v3 ⟨rfl, hv3⟩
      have F7 := F6.next hv3
      have L7 := L6.next hv3
      have X7 := X6.next hv3
      have U7 := gr_trans U6 hv3
      clear x0 x1 x2 x3 F6 L6 X6 U6 hv3 C3
      obtain ⟨_, f0, f1, f2, f3, _⟩ := id F7
      go_wp2_with fail
      refine (C4.out _).mono ?_
      rintro e v4 ⟨rfl, hv4⟩
      have F8 := F7.next hv4
      have L8 := L7.next hv4
      have X8 := X7.next hv4
      have U8 := gr_trans U7 hv4
      clear f0 f1 f2 f3 F7 L7 X7 U7 hv4 C4
      obtain ⟨_, l0, l1, l2, l3, _⟩ := id L8
      go_wp2_with fail
      refine (C5.out _).mono ?_
      rintro e v5 ⟨rfl, hv5⟩
      have F9 := F8.next hv5
      have L9 := L8.next hv5
      have X9 := X8.next hv5
      have U9 := gr_trans U8 hv5
      clear l0 l1 l2 l3 F8 L8 X8 U8 hv5 C5
      have hdis' := HD.out
      go_upto_if 259 with (fail)
      all_goals
        clear hdis'
        obtain ⟨_, l0, l1, l2, l3, _⟩ := id L9
        go_wp2_with fail
        refine (iInverse_any p q r s _).mono ?_
        rw [← HG.out]
        by_cases hu : ivc p q r s = 0
        · obtain ⟨_, hg1⟩ := ivc_0 hu
          rw [← HG.out] at hg1
          simp only [hu, if0, if_true]
          have hif := inv_isF HM.out hg1
          have hm := HM.out
          obtain ⟨hp', hq', hr', hs'⟩ := isF_t hm
          have hge : g = p * s - q * r := by rw [HG.out, det_eq hp' hq' hr' hs']
          obtain ⟨b0, b1, b2, b3⟩ := back_1 (a := a) (b := b) (c := c) (d := d) hge hg1
          rw [← E0.out, ← E1.out, ← E2.out, ← E3.out] at b0 b1 b2 b3
          obtain ⟨i0, hi0⟩ : ∃ x, x = g * s := ⟨_, rfl⟩
          obtain ⟨i1, hi1⟩ : ∃ x, x = -(g * q) := ⟨_, rfl⟩
          obtain ⟨i2, hi2⟩ : ∃ x, x = -(g * r) := ⟨_, rfl⟩
          obtain ⟨i3, hi3⟩ : ∃ x, x = g * p := ⟨_, rfl⟩
          rw [← hi0, ← hi1, ← hi2, ← hi3] at b1 b2 hif ⊢
          rw [← hi0, ← hi2] at b0
          rw [← hi1, ← hi3] at b3
          have hcc : chc n0 n1 n2 n3 i0 i1 i2 i3 = 0 := by simp only [chc, HP.out, hif, b0, b1, b2, b3, HF.out]; rfl
          have hcf := fun W => iChangeForm_any n0 n1 n2 n3 i0 i1 i2 i3 W
          rw [hcc, b0, b1, b2, b3] at hcf
          simp only [if0, if_true] at hcf
          have HC := hid hcf
          clear hcf hcc b0 b1 b2 b3 hi0 hi1 hi2 hi3 hif hm hp' hq' hr' hs' hge hg1 hu
          rintro e v6 ⟨rfl, hv6⟩
          have F10 := (F9.next hv6).alloc (.cells #[.int .i64 i0, .int .i64 i1, .int .i64 i2, .int .i64 i3] 25)
          have X10 := (X9.next hv6).alloc (.cells #[.int .i64 i0, .int .i64 i1, .int .i64 i2, .int .i64 i3] 25)
          have U10 := gr_alloc (gr_trans U9 hv6) (.cells #[.int .i64 i0, .int .i64 i1, .int .i64 i2, .int .i64 i3] 25)
          have hxl := (X9.next hv6).lt
          clear l0 l1 l2 l3 F9 L9 X9 U9 hv6
          obtain ⟨_, x0, x1, x2, x3, _⟩ := id X10
          go_wp2_with fail
          refine (HC.out _).mono ?_
          rintro e v7 ⟨rfl, hv7⟩
          have F11 := (F10.next hv7).alloc (.cells #[.int .i64 a, .int .i64 b, .int .i64 c, .int .i64 d] 35)
          have U11 := gr_alloc (gr_trans U10 hv7) (.cells #[.int .i64 a, .int .i64 b, .int .i64 c, .int .i64 d] 35)
          have hfl := (F10.next hv7).lt
          clear x0 x1 x2 x3 F10 X10 U10 hv7 hxl
          obtain ⟨_, f0, f1, f2, f3, _⟩ := id F11
          go_wp2_with fail
          go_meet
          exact U11
        · have hu' : (ivc p q r s == 0) = false := by simpa using hu
          clear hu
          rintro e v6 ⟨rfl, hv6⟩
          have U10 := gr_trans U9 hv6
          clear l0 l1 l2 l3 F9 L9 X9 U9 hv6
          go_wp2_with fail
          go_meet
          exact gr_alloc U10 _
    · have hkf : (K == 0) = false := by simpa using hk
      clear hk
      go_wp2_with fail
      go_meet
      exact U4
  case rest =>
    go_step
    exact seg176_any w a0 len0 cap0 z0 HR hlen wc hcut _ _ _ _ _ _ _ _ _ _ _ _ _ _ _ _ _ _ _ _ _ _ _ _ _ _ _ _ _ _ _ _ _ _ _ _ _ _ _ _ _ _ _ _ _ _ _ _ _ _ _ _ _ _ _ _ _ _ _ _ _ _ _ _ _ _ _ _ _ _ _ _ _ _ _ _ _ _ _ _ _ _ _ _ _ _ _ _ _ _ _ _ _ _ _ _ _ _ _ _ _ _ _ _ _ _ _ _ _ _ _ _ _ _ _ _ _ _ _ _ _ _ _ _ _ _ _ _ _ _ _ _ _ _ _ _ _ _ _ _ _ _ _ _ _ _ _ _ _ _ _ _ _ _ _ _ _ _ _ _ _ _ _ _ _ _ _ _ _ _ _ _ _ _ _ _ _ _ _ _ _ _ _ _ _ _ _ _ _ _ _ _ _ _ _ _ _ _ _ _ _ _ _ _ _ _ _ _ _ _ _ _ _ _ _ _ _ _ _ _ _ _ _ _ _ _ _ _ _ _ _ _ _ _ _ _ _ _ _ _ _ _ _ _ _ _ _ _ _ _ _ _ _ _ _ _ _ _ _ _ _ _ _ _ _ _ _ _ _ _ _ _ _ _ _ _ _ _ _ _ _ _ _ _ _ _ _ _ _ _ _ _ _ _ _ _ _ _ _

end Go.Proofs.Ytodbbbgokegehaa
