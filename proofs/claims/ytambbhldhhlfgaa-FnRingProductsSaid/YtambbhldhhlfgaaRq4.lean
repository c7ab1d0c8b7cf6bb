/- FnRingProducts, cut: norm, polynomial, trace and matrix of an element. -/
import Derived.Test.YtambbhldhhlfgaaRq3
namespace Go.Proofs.Ytambbhldhhlfgaa
open Go.ChangeShapes Go.WideShapes Go.ChangeAt Go.RowKit

theorem RdR.next9 {w w' : World} {v : Value} {n : Nat} {M : Nat → Nat → Int} (h : RdR w v n M) (hb : Below w.heap.size w w') : RdR w' v n M := by
  rcases h with h | ⟨hn, rb, cap, t0, t1, t2, h1, h2, h3, h4, c0, c1, c2, a0, a1, a2⟩
  · exact .inl h
  · exact .inr ⟨hn, rb, cap, t0, t1, t2, h1, h2, h3, Nat.lt_of_lt_of_le h4 hb.size, (hb.cell (p := ⟨rb, 0, none⟩) h4).trans c0, (hb.cell (p := ⟨rb, 1, none⟩) h4).trans c1, (hb.cell (p := ⟨rb, 2, none⟩) h4).trans c2, a0.next hb, a1.next hb, a2.next hb⟩

set_option maxRecDepth 1000000 in
set_option maxHeartbeats 8000000 in
theorem rseg113_any (w : World) (a0 : Option Addr) (len0 cap0 : Nat) (z0 : List Int) (HR : Hid (IsRow .u8 w a0 len0 cap0 z0)) (hlen : len0 ≤ 9223372036854775807) (wc : World) (hcut : Below w.heap.size w wc) (jf jx jy jp : Nat) (a b c d u v x p q r K P0 P1 P2 : Int) (hS : Hid (RpF wc jf jx jy jp a b c d u v x p q r P0 P1 P2)) (hQ : Hid (RpQ a b c d u v x p q r K P0 P1 P2)) (u1 u2 u8 u9 u10 u11 u12 u13 u14 u15 u16 u17 u18 u19 u20 u21 u22 u23 u24 u25 u26 u27 u28 u29 u30 u31 u32 u33 u34 u35 u36 u37 u38 u39 u40 u41 u42 u43 u44 u45 u46 u47 u48 u49 u50 u51 u52 u53 u54 u55 u56 u57 u58 u59 u60 u61 u62 u63 u64 u65 u66 u67 u68 u69 u70 u71 u72 u73 u74 u75 u76 u77 u78 u79 u80 u81 u82 u83 u84 u85 u86 u87 u88 u89 u90 u91 u92 u93 u94 u95 u96 u97 u98 u99 u100 u101 u102 u103 u104 u105 u106 u107 u108 u109 u110 u111 u112 u113 u114 u115 u116 u117 u118 u119 u120 u121 u122 u123 u124 u125 u126 u127 u128 u129 u130 u131 u132 u133 u134 u135 u136 u137 u138 u139 u140 u141 u142 u143 u144 u145 u146 u147 u148 u149 u150 u151 u152 u153 u154 u155 u156 u157 u158 u159 u160 u161 u162 u163 u164 u165 u166 u167 u168 u169 u170 u171 u172 u173 u174 u175 u176 u177 u178 u179 u180 u181 u182 u183 u184 u185 u186 u187 u188 u189 u190 u191 u192 u193 u194 u195 u196 u197 u198 u199 u200 u201 u202 u203 u204 u205 u206 u207 u208 u209 u210 u211 u212 u213 u214 u215 u216 u217 u218 u219 u220 u221 u222 u223 u224 u225 u226 u227 u228 u229 u230 u231 u232 u233 u234 u235 u236 u237 u238 u239 u240 u241 u242 u243 u244 u245 u246 u247 u248 u249 u250 u251 u252 u253 u254 u255 u256 u257 u258 u259 u260 u261 u262 u263 u264 u265 u266 u267 u268 u269 u270 u271 u272 u273 u274 u275 u276 u277 u278 u279 u280 u281 u282 u283 u284 u285 u286 u287 u288 u289 u290 u291 u292 u293 u294 u295 u296 u297 u298 u299 u300 u301 u302 u303 u304 u305 u306 u307 u308 u309 u310 u311 u312 u313 u314 u315 u316 u317 u318 u319 u320 u321 u322 u323 u324 u325 u326 u327 u328 u329 u330 u331 u332 u333 u334 u335 u336 u337 u338 u339 u340 u341 u342 u343 u344 u345 u346 u347 u348 u349 u350 u351 u352 u353 u354 u355 u356 u357 u358 u359 u360 u361 u362 u363 u364 u365 u366 u367 u368 u369 u370 u371 u372 u373 : Value) :
    Code.wp Try.prog (rseg 113) (bodyPost Try.prog Try.f3 fun e w' => e = .returned (.bool true) ∧ Below w.heap.size w w') ⟨#[.slice a0 len0 cap0, u1, u2, .pointer (some ⟨jf, 0, none⟩), .pointer (some ⟨jx, 0, none⟩), .pointer (some ⟨jy, 0, none⟩), .pointer (some ⟨jp, 0, none⟩), .int .i64 K, u8, u9, u10, u11, u12, u13, u14, u15, u16, u17, u18, u19, u20, u21, u22, u23, u24, u25, u26, u27, u28, u29, u30, u31, u32, u33, u34, u35, u36, u37, u38, u39, u40, u41, u42, u43, u44, u45, u46, u47, u48, u49, u50, u51, u52, u53, u54, u55, u56, u57, u58, u59, u60, u61, u62, u63, u64, u65, u66, u67, u68, u69, u70, u71, u72, u73, u74, u75, u76, u77, u78, u79, u80, u81, u82, u83, u84, u85, u86, u87, u88, u89, u90, u91, u92, u93, u94, u95, u96, u97, u98, u99, u100, u101, u102, u103, u104, u105, u106, u107, u108, u109, u110, u111, u112, u113, u114, u115, u116, u117, u118, u119, u120, u121, u122, u123, u124, u125, u126, u127, u128, u129, u130, u131, u132, u133, u134, u135, u136, u137, u138, u139, u140, u141, u142, u143, u144, u145, u146, u147, u148, u149, u150, u151, u152, u153, u154, u155, u156, u157, u158, u159, u160, u161, u162, u163, u164, u165, u166, u167, u168, u169, u170, u171, u172, u173, u174, u175, u176, u177, u178, u179, u180, u181, u182, u183, u184, u185, u186, u187, u188, u189, u190, u191, u192, u193, u194, u195, u196, u197, u198, u199, u200, u201, u202, u203, u204, u205, u206, u207, u208, u209, u210, u211, u212, u213, u214, u215, u216, u217, u218, u219, u220, u221, u222, u223, u224, u225, u226, u227, u228, u229, u230, u231, u232, u233, u234, u235, u236, u237, u238, u239, u240, u241, u242, u243, u244, u245, u246, u247, u248, u249, u250, u251, u252, u253, u254, u255, u256, u257, u258, u259, u260, u261, u262, u263, u264, u265, u266, u267, u268, u269, u270, u271, u272, u273, u274, u275, u276, u277, u278, u279, u280, u281, u282, u283, u284, u285, u286, u287, u288, u289, u290, u291, u292, u293, u294, u295, u296, u297, u298, u299, u300, u301, u302, u303, u304, u305, u306, u307, u308, u309, u310, u311, u312, u313, u314, u315, u316, u317, u318, u319, u320, u321, u322, u323, u324, u325, u326, u327, u328, u329, u330, u331, u332, u333, u334, u335, u336, u337, u338, u339, u340, u341, u342, u343, u344, u345, u346, u347, u348, u349, u350, u351, u352, u353, u354, u355, u356, u357, u358, u359, u360, u361, u362, u363, u364, u365, u366, u367, u368, u369, u370, u371, u372, u373], []⟩ wc := by
  conv => arg 2; whnf
  have HR2 := hid (row8_next HR.out hcut)
  have S0 := hS
  clear hS
  go_wp2_with fail
  refine (drawNo_any a0 len0 cap0 z0 _ HR2.out hlen).mono ?_
  rintro e w1 ⟨a', b', c', d', u', v', x', rfl, V1⟩
  have ha := gr_alloc (gr_alloc (Below.refl w1.heap.size w1) (.cells #[.int .i64 a', .int .i64 b', .int .i64 c', .int .i64 d'] 25)) (.cells #[.int .i64 u', .int .i64 v', .int .i64 x'] 27)
  have F2 := (Arr.new w1 a' b' c' d' 25).alloc (.cells #[.int .i64 u', .int .i64 v', .int .i64 x'] 27)
  have E2 := Arr3.new (w1.alloc (.cells #[.int .i64 a', .int .i64 b', .int .i64 c', .int .i64 d'] 25)) u' v' x' 27
  simp only [World.size_alloc] at E2
  have S2 := hid ((S0.out.next V1).next ha)
  have U2 := gr_trans (gr_trans hcut V1) ha
  clear S0 V1 ha hcut HR2
  have h1 := fun W => iNormE_any a' b' c' d' u' v' x' W
  have h2 := fun W => sNormE_any a' b' c' d' u' v' x' W
  have h3 := fun W => iPolyE_any a' b' c' d' u' v' x' W
  have h4 := fun W => sPolyE_any a' b' c' d' u' v' x' W
  have h5 := fun W => iTraceE_any a' b' c' d' u' v' x' W
  have h6 := fun W => sTraceE_any a' b' c' d' u' v' x' W
  have h7 := fun W => iMatE_any a' b' c' d' u' v' x' W
  have h8 := fun W => sMatE_any a' b' c' d' u' v' x' W
  unfold LstOut at h3 h4
  unfold RowOut at h7 h8
  obtain ⟨F, hF⟩ : ∃ F, F = few 100 a' b' c' d' u' v' x' := ⟨_, rfl⟩
  rw [← hF] at h1 h2 h3 h4
  obtain ⟨n, hn⟩ : ∃ n, n = if0 F (wrap64 (de3 (mtf a' b' c' d' u' v' x'))) := ⟨_, rfl⟩
  rw [← hn] at h1 h2
  obtain ⟨l1, hl1⟩ : ∃ n, n = wrap64 (-tr3 (mtf a' b' c' d' u' v' x')) := ⟨_, rfl⟩
  obtain ⟨l2, hl2⟩ : ∃ n, n = wrap64 (mi3 (mtf a' b' c' d' u' v' x')) := ⟨_, rfl⟩
  obtain ⟨l3, hl3⟩ : ∃ n, n = wrap64 (-de3 (mtf a' b' c' d' u' v' x')) := ⟨_, rfl⟩
  rw [← hl1, ← hl2, ← hl3] at h3 h4
  obtain ⟨G, hG⟩ : ∃ G, G = fec a' b' c' d' u' v' x' := ⟨_, rfl⟩
  rw [← hG] at h5 h6 h7 h8
  obtain ⟨t, ht⟩ : ∃ n, n = if0 G (wrap64 (tr3 (mtf a' b' c' d' u' v' x'))) := ⟨_, rfl⟩
  rw [← ht] at h5 h6
  have HC : Hid (RpC a' b' c' d' u' v' x' n F G t l1 l2 l3) := hid ⟨hF, hG, hn, ht, hl1, hl2, hl3⟩
  obtain ⟨nn, hnn⟩ : ∃ k : Nat, k = (if F = 0 then 4 else 0) := ⟨_, rfl⟩
  rw [← hnn] at h3 h4
  obtain ⟨mm, hmm⟩ : ∃ k : Nat, k = (if G = 0 then 3 else 0) := ⟨_, rfl⟩
  rw [← hmm] at h7 h8
  have HNN : Hid (F = 0 → nn = 4) := hid (fun h => by rw [hnn, if_pos h])
  have HMM : Hid (G = 0 → mm = 3) := hid (fun h => by rw [hmm, if_pos h])
  obtain ⟨M, hMM⟩ : ∃ M, M = mtf a' b' c' d' u' v' x' := ⟨_, rfl⟩
  rw [← hMM] at h7 h8
  obtain ⟨gl, hgl⟩ : ∃ g, g = q4 1 l1 l2 l3 := ⟨_, rfl⟩
  rw [← hgl] at h3 h4
  have HGL := hid hgl
  clear hgl
  have H1 := hid h1; have H2 := hid h2; have H3 := hid h3; have H4 := hid h4; have H5 := hid h5; have H6 := hid h6; have H7 := hid h7; have H8 := hid h8
  have HMM2 := hid hMM
  clear h1 h2 h3 h4 h5 h6 h7 h8 hF hn hl1 hl2 hl3 hG ht hnn hmm hMM
  go_upto_region 14 with fail
  obtain ⟨jg, hjg⟩ : ∃ j, j = w1.heap.size := ⟨_, rfl⟩
  rw [← hjg] at F2 E2
  rw [← hjg]
  generalize (w1.alloc (.cells #[.int .i64 a', .int .i64 b', .int .i64 c', .int .i64 d'] 25)).alloc (.cells #[.int .i64 u', .int .i64 v', .int .i64 x'] 27) = W2 at F2 E2 S2 U2 ⊢
  clear hjg
  have Z2 : RpZ W2 jg (jg + 1) a' b' c' d' u' v' x' := ⟨F2, E2⟩
  clear F2 E2
  obtain ⟨⟨_, f0, f1, f2, f3, _⟩, ⟨_, z0, z1, z2, _⟩⟩ := id Z2
  go_wp2_with fail
  refine (H1.out _).mono ?_
  rintro e w3 ⟨rfl, hb3⟩
  have Z3 := Z2.next hb3
  have S3 := hid (S2.out.next hb3)
  have U3 := gr_trans U2 hb3
  clear Z2 S2 U2 hb3 H1 f0 f1 f2 f3 z0 z1 z2 
  obtain ⟨⟨_, f0, f1, f2, f3, _⟩, ⟨_, z0, z1, z2, _⟩⟩ := id Z3
  go_wp2_with fail
  refine (H2.out _).mono ?_
  rintro e w4 ⟨rfl, hb4⟩
  have Z4 := Z3.next hb4
  have S4 := hid (S3.out.next hb4)
  have U4 := gr_trans U3 hb4
  clear Z3 S3 U3 hb4 H2 f0 f1 f2 f3 z0 z1 z2 
  obtain ⟨⟨_, f0, f1, f2, f3, _⟩, ⟨_, z0, z1, z2, _⟩⟩ := id Z4
  go_wp2_with fail
  refine (H3.out _).mono ?_
  rintro e w5 ⟨vl, rfl, hA, hb5⟩
  have Z5 := Z4.next hb5
  have S5 := hid (S4.out.next hb5)
  have U5 := gr_trans U4 hb5
  have A5 := hid hA.rd
  clear Z4 S4 U4 hb5 H3 f0 f1 f2 f3 z0 z1 z2 
  obtain ⟨⟨_, f0, f1, f2, f3, _⟩, ⟨_, z0, z1, z2, _⟩⟩ := id Z5
  go_wp2_with fail
  refine (H4.out _).mono ?_
  rintro e w6 ⟨vl2, rfl, hB, hb6⟩
  have Z6 := Z5.next hb6
  have S6 := hid (S5.out.next hb6)
  have U6 := gr_trans U5 hb6
  have A6 := hid (A5.out.next hb6)
  have B6 := hid hB.rd
  clear Z5 S5 U5 hb6 H4 f0 f1 f2 f3 z0 z1 z2 A5
  clear hA hB
  go_wp2_with fail
  refine (likeI_any _ _ _ _ _ A6.out B6.out).mono ?_
  rintro e w7 ⟨rfl, hb7⟩
  have Z7 := Z6.next hb7
  have S7 := hid (S6.out.next hb7)
  have A7 := hid (A6.out.next hb7)
  have U7 := gr_trans U6 hb7
  clear Z6 S6 A6 B6 U6 hb7
  obtain ⟨⟨_, f0, f1, f2, f3, _⟩, ⟨_, z0, z1, z2, _⟩⟩ := id Z7
  go_wp2_with fail
  refine (H5.out _).mono ?_
  rintro e w8 ⟨rfl, hb8⟩
  have Z8 := Z7.next hb8
  have S8 := hid (S7.out.next hb8)
  have U8 := gr_trans U7 hb8
  have A8 := hid (A7.out.next hb8)
  clear Z7 S7 U7 hb8 H5 f0 f1 f2 f3 z0 z1 z2 A7
  obtain ⟨⟨_, f0, f1, f2, f3, _⟩, ⟨_, z0, z1, z2, _⟩⟩ := id Z8
  go_wp2_with fail
  refine (H6.out _).mono ?_
  rintro e w9 ⟨rfl, hb9⟩
  have Z9 := Z8.next hb9
  have S9 := hid (S8.out.next hb9)
  have U9 := gr_trans U8 hb9
  have A9 := hid (A8.out.next hb9)
  clear Z8 S8 U8 hb9 H6 f0 f1 f2 f3 z0 z1 z2 A8
  obtain ⟨⟨_, f0, f1, f2, f3, _⟩, ⟨_, z0, z1, z2, _⟩⟩ := id Z9
  go_wp2_with fail
  refine (H7.out _).mono ?_
  rintro e w10 ⟨vr, rfl, hD, hb10⟩
  have Z10 := Z9.next hb10
  have S10 := hid (S9.out.next hb10)
  have U10 := gr_trans U9 hb10
  have A10 := hid (A9.out.next hb10)
  have D10 := hid hD.rd
  clear Z9 S9 U9 hb10 H7 f0 f1 f2 f3 z0 z1 z2 A9
  obtain ⟨⟨_, f0, f1, f2, f3, _⟩, ⟨_, z0, z1, z2, _⟩⟩ := id Z10
  go_wp2_with fail
  refine (H8.out _).mono ?_
  rintro e w11 ⟨vr2, rfl, hE, hb11⟩
  have Z11 := Z10.next hb11
  have S11 := hid (S10.out.next hb11)
  have U11 := gr_trans U10 hb11
  have A11 := hid (A10.out.next hb11)
  have E11 := hid hE.rd
  have D11 := hid ((hD.next hb11).rd)
  clear Z10 S10 U10 hb11 H8 f0 f1 f2 f3 z0 z1 z2 A10
  clear hD hE D10
  go_wp2_with fail
  refine (rows9_any _ _ _ _ _ D11.out E11.out).mono ?_
  rintro e w12 ⟨rfl, hb12⟩
  have Z12 := Z11.next hb12
  have S12 := S11.out.next hb12
  have A12 := A11.out.next hb12
  have U12 := gr_trans U11 hb12
  have D12 := hid (D11.out.next9 hb12)
  clear Z11 S11 A11 U11 hb12 E11 D11
  go_upto_if 200 with (fail)
  go_cut [] (fun wx => Below w.heap.size w wx ∧ RpF wx jf jx jy jp a b c d u v x p q r P0 P1 P2 ∧ RpZ wx jg (jg + 1) a' b' c' d' u' v' x' ∧ Rd wx vl nn gl ∧ RdR wx vr mm M)
  case first =>
    go_wp2_with fail
    go_meet
    exact ⟨U12, S12, Z12, A12, D12.out⟩
  case rest =>
    obtain ⟨U, S, Z, L, D⟩ := hcut
    have L' : F = 0 → Rd _ vl 4 gl := fun h => by rw [← HNN.out h]; exact L
    have D' : G = 0 → RdR _ vr 3 M := fun h => by rw [← HMM.out h]; exact D
    rw [HMM2.out] at D'
    rw [HGL.out] at L'
    go_step
    exact rseg200_any w a0 len0 cap0 z0 HR hlen _ U jf jx jy jp a b c d u v x p q r K P0 P1 P2 (hid S) hQ jg (jg + 1) a' b' c' d' u' v' x' n F G t l1 l2 l3 vl (hid Z) (hid L') HC vr (hid D') _ _ _ _ _ _ _ _ _ _ _ _ _ _ _ _ _ _ _ _ _ _ _ _ _ _ _ _ _ _ _ _ _ _ _ _ _ _ _ _ _ _ _ _ _ _ _ _ _ _ _ _ _ _ _ _ _ _ _ _ _ _ _ _ _ _ _ _ _ _ _ _ _ _ _ _ _ _ _ _ _ _ _ _ _ _ _ _ _ _ _ _ _ _ _ _ _ _ _ _ _ _ _ _ _ _ _ _ _ _ _ _ _ _ _ _ _ _ _ _ _ _ _ _ _ _ _ _ _ _ _ _ _ _ _ _ _ _ _ _ _ _ _ _ _ _ _ _ _ _ _ _ _ _ _ _ _ _ _ _ _ _ _ _ _ _ _ _ _ _ _ _ _ _ _ _ _ _ _ _ _ _ _ _ _ _ _ _ _ _ _ _ _ _ _ _ _ _ _ _ _ _ _ _ _ _ _ _ _ _ _ _ _ _ _ _ _ _ _ _ _ _ _ _ _ _ _ _ _ _ _ _ _ _ _ _ _ _ _ _ _ _ _ _ _ _ _ _ _ _ _ _ _ _ _ _ _ _ _ _ _ _ _ _ _ _ _ _ _ _ _ _ _ _ _ _ _ _ _ _ _ _ _ _ _ _ _ _ _ _ _ _ _ _ _ _ _ _ _ _ _ _ _ _ _ _ _ _ _ _ _ _ _ _ _ _ _ _ _ _ _ _ _ _ _ _ _ _ _ _ _ _ _ _ _ _ _ _ _ _ _ _ _ _ _ _ _ _ _ _ _ _ _ _ _ _ _ _

end Go.Proofs.Ytambbhldhhlfgaa
