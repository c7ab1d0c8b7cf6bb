/- FnRingProducts, cut: the polynomial of an element. -/
import Derived.Test.YtambbhldhhlfgaaRq1
namespace Go.Proofs.Ytambbhldhhlfgaa
open Go.ChangeShapes Go.WideShapes Go.ChangeAt Go.RowKit

set_option maxRecDepth 1000000 in
set_option maxHeartbeats 8000000 in
theorem rseg227_any (w : World) (a0 : Option Addr) (len0 cap0 : Nat) (z0 : List Int) (HR : Hid (IsRow .u8 w a0 len0 cap0 z0)) (hlen : len0 ≤ 9223372036854775807) (wc : World) (hcut : Below w.heap.size w wc) (jf jx jy jp : Nat) (a b c d u v x p q r K P0 P1 P2 : Int) (hS : Hid (RpF wc jf jx jy jp a b c d u v x p q r P0 P1 P2)) (hQ : Hid (RpQ a b c d u v x p q r K P0 P1 P2)) (jg jz : Nat) (a' b' c' d' u' v' x' n F G t l1 l2 l3 : Int) (vl : Value) (hZ : Hid (RpZ wc jg jz a' b' c' d' u' v' x')) (hL : Hid (F = 0 → Rd wc vl 4 (q4 1 l1 l2 l3))) (hC : Hid (RpC a' b' c' d' u' v' x' n F G t l1 l2 l3)) (u1 u2 u8 u9 u10 u11 u12 u13 u14 u15 u16 u21 u22 u25 u26 u28 u29 u30 u31 u32 u33 u34 u35 u36 u37 u38 u39 u40 u41 u42 u43 u44 u45 u46 u47 u48 u49 u50 u51 u52 u53 u54 u55 u56 u57 u58 u59 u60 u61 u62 u63 u64 u65 u66 u67 u68 u69 u70 u71 u72 u73 u74 u75 u76 u77 u78 u79 u80 u81 u82 u83 u84 u85 u86 u87 u88 u89 u90 u91 u92 u93 u94 u95 u96 u97 u98 u99 u100 u101 u102 u103 u104 u105 u106 u107 u108 u109 u110 u111 u112 u113 u114 u115 u116 u117 u118 u119 u120 u121 u122 u123 u124 u125 u126 u127 u128 u129 u130 u131 u132 u133 u134 u135 u136 u137 u138 u139 u140 u141 u142 u143 u144 u145 u146 u147 u148 u149 u150 u151 u152 u153 u154 u155 u156 u157 u158 u159 u160 u161 u162 u163 u164 u165 u166 u167 u168 u169 u170 u171 u172 u173 u174 u175 u176 u177 u178 u179 u180 u181 u182 u183 u184 u185 u186 u187 u188 u189 u190 u191 u192 u193 u194 u195 u196 u197 u198 u199 u200 u201 u202 u203 u204 u205 u206 u207 u208 u209 u210 u211 u212 u213 u214 u215 u216 u217 u218 u219 u220 u221 u222 u223 u224 u225 u226 u227 u228 u229 u230 u231 u232 u233 u234 u235 u236 u237 u238 u239 u240 u241 u242 u243 u244 u245 u246 u247 u248 u249 u250 u251 u252 u253 u254 u255 u256 u257 u258 u259 u260 u261 u262 u263 u264 u265 u266 u267 u268 u269 u270 u271 u272 u273 u274 u275 u276 u277 u278 u279 u280 u281 u282 u283 u284 u285 u286 u287 u288 u289 u290 u291 u292 u293 u294 u295 u296 u297 u298 u299 u300 u301 u302 u303 u304 u305 u306 u307 u308 u309 u310 u311 u312 u313 u314 u315 u316 u317 u318 u319 u320 u321 u322 u323 u324 u325 u326 u327 u328 u329 u330 u331 u332 u333 u334 u335 u336 u337 u338 u339 u340 u341 u342 u343 u344 u345 u346 u347 u348 u349 u350 u351 u352 u353 u354 u355 u356 u357 u358 u359 u360 u361 u362 u363 u364 u365 u366 u367 u368 u369 u370 u371 u372 u373 : Value) :
    Code.wp Try.prog (rseg 227) (bodyPost Try.prog Try.f3 fun e w' => e = .returned (.bool true) ∧ Below w.heap.size w w') ⟨#[.slice a0 len0 cap0, u1, u2, .pointer (some ⟨jf, 0, none⟩), .pointer (some ⟨jx, 0, none⟩), .pointer (some ⟨jy, 0, none⟩), .pointer (some ⟨jp, 0, none⟩), .int .i64 K, u8, u9, u10, u11, u12, u13, u14, u15, u16, .pointer (some ⟨jg, 0, none⟩), .pointer (some ⟨jz, 0, none⟩), .int .i64 n, .int .i64 F, u21, u22, vl, .int .i64 F, u25, u26, .int .i64 t, u28, u29, u30, u31, u32, u33, u34, u35, u36, u37, u38, u39, u40, u41, u42, u43, u44, u45, u46, u47, u48, u49, u50, u51, u52, u53, u54, u55, u56, u57, u58, u59, u60, u61, u62, u63, u64, u65, u66, u67, u68, u69, u70, u71, u72, u73, u74, u75, u76, u77, u78, u79, u80, u81, u82, u83, u84, u85, u86, u87, u88, u89, u90, u91, u92, u93, u94, u95, u96, u97, u98, u99, u100, u101, u102, u103, u104, u105, u106, u107, u108, u109, u110, u111, u112, u113, u114, u115, u116, u117, u118, u119, u120, u121, u122, u123, u124, u125, u126, u127, u128, u129, u130, u131, u132, u133, u134, u135, u136, u137, u138, u139, u140, u141, u142, u143, u144, u145, u146, u147, u148, u149, u150, u151, u152, u153, u154, u155, u156, u157, u158, u159, u160, u161, u162, u163, u164, u165, u166, u167, u168, u169, u170, u171, u172, u173, u174, u175, u176, u177, u178, u179, u180, u181, u182, u183, u184, u185, u186, u187, u188, u189, u190, u191, u192, u193, u194, u195, u196, u197, u198, u199, u200, u201, u202, u203, u204, u205, u206, u207, u208, u209, u210, u211, u212, u213, u214, u215, u216, u217, u218, u219, u220, u221, u222, u223, u224, u225, u226, u227, u228, u229, u230, u231, u232, u233, u234, u235, u236, u237, u238, u239, u240, u241, u242, u243, u244, u245, u246, u247, u248, u249, u250, u251, u252, u253, u254, u255, u256, u257, u258, u259, u260, u261, u262, u263, u264, u265, u266, u267, u268, u269, u270, u271, u272, u273, u274, u275, u276, u277, u278, u279, u280, u281, u282, u283, u284, u285, u286, u287, u288, u289, u290, u291, u292, u293, u294, u295, u296, u297, u298, u299, u300, u301, u302, u303, u304, u305, u306, u307, u308, u309, u310, u311, u312, u313, u314, u315, u316, u317, u318, u319, u320, u321, u322, u323, u324, u325, u326, u327, u328, u329, u330, u331, u332, u333, u334, u335, u336, u337, u338, u339, u340, u341, u342, u343, u344, u345, u346, u347, u348, u349, u350, u351, u352, u353, u354, u355, u356, u357, u358, u359, u360, u361, u362, u363, u364, u365, u366, u367, u368, u369, u370, u371, u372, u373], []⟩ wc := by
  conv => arg 2; whnf
  go_upto_if 229 with (fail)
  go_cut [] (fun wx => Below w.heap.size w wx ∧ RpF wx jf jx jy jp a b c d u v x p q r P0 P1 P2)
  case first =>
    by_cases hF : F = 0
    · obtain ⟨ht, hn⟩ := hC.out.ok hF
      have htt : IntKind.i64.wrap (-t) = l1 := by rw [IntWalk.i64_left]; exact ht
      have hnn : IntKind.i64.wrap (-n) = l3 := by rw [IntWalk.i64_left]; exact hn
      have R1 := hL.out hF
      subst hF
      obtain ⟨_, h0⟩ | ⟨bl, cl, rfl, hl1, hl2, hbl, hcell⟩ := id R1
      · exact absurd h0 (by omega)
      have cl0 : wc.cell? ⟨bl, 0, none⟩ = some (.int .i64 1) := hcell 0 (by omega)
      have cl1 : wc.cell? ⟨bl, 1, none⟩ = some (.int .i64 l1) := hcell 1 (by omega)
      have cl3 : wc.cell? ⟨bl, 3, none⟩ = some (.int .i64 l3) := hcell 3 (by omega)
      unfold maxLen at hl2
      have HCH := hid hC.out
      obtain ⟨K1, hK1⟩ : ∃ K, K = mec (isF a' b' c' d' && isE u' v' x' && isE u' v' x') (m0 (np a' c') (np a' d') (np b' d') u' v' x' u' v' x') (m1 b' 0 d' u' v' x' u' v' x') (m2 (ng a') 0 (ng c') u' v' x' u' v' x') := ⟨_, rfl⟩
      obtain ⟨s0, hs0⟩ : ∃ s, s = if0 K1 (m0 (np a' c') (np a' d') (np b' d') u' v' x' u' v' x') := ⟨_, rfl⟩
      obtain ⟨s1, hs1⟩ : ∃ s, s = if0 K1 (m1 b' 0 d' u' v' x' u' v' x') := ⟨_, rfl⟩
      obtain ⟨s2, hs2⟩ : ∃ s, s = if0 K1 (m2 (ng a') 0 (ng c') u' v' x' u' v' x') := ⟨_, rfl⟩
      have Q1 : Hid (RpQ a' b' c' d' u' v' x' u' v' x' K1 s0 s1 s2) := hid ⟨hK1, hs0, hs1, hs2⟩
      obtain ⟨K2, hK2⟩ : ∃ K, K = mec (isF a' b' c' d' && isE s0 s1 s2 && isE u' v' x') (m0 (np a' c') (np a' d') (np b' d') s0 s1 s2 u' v' x') (m1 b' 0 d' s0 s1 s2 u' v' x') (m2 (ng a') 0 (ng c') s0 s1 s2 u' v' x') := ⟨_, rfl⟩
      obtain ⟨t0, ht0⟩ : ∃ s, s = if0 K2 (m0 (np a' c') (np a' d') (np b' d') s0 s1 s2 u' v' x') := ⟨_, rfl⟩
      obtain ⟨t1, ht1⟩ : ∃ s, s = if0 K2 (m1 b' 0 d' s0 s1 s2 u' v' x') := ⟨_, rfl⟩
      obtain ⟨t2, ht2⟩ : ∃ s, s = if0 K2 (m2 (ng a') 0 (ng c') s0 s1 s2 u' v' x') := ⟨_, rfl⟩
      have Q2 : Hid (RpQ a' b' c' d' s0 s1 s2 u' v' x' K2 t0 t1 t2) := hid ⟨hK2, ht0, ht1, ht2⟩
      clear hK1 hs0 hs1 hs2 hK2 ht0 ht1 ht2 hC hcell
      have HR1 := hid R1
      have Z1 := hZ.out
      have S1 := hS.out
      clear hL R1 hZ hS
      go_upto_region 35 with fail
      clear cl0 cl1 cl3
      obtain ⟨⟨_, f0, f1, f2, f3, _⟩, ⟨_, z0, z1, z2, _⟩⟩ := id Z1
      go_wp2_with fail
      refine (Q1.out.mul _).mono ?_
      rintro e w1 ⟨rfl, hb1⟩
      have ha1 := gr_alloc (Below.refl w1.heap.size w1) (.cells #[.int .i64 s0, .int .i64 s1, .int .i64 s2] 27)
      have B2 := Arr3.new w1 s0 s1 s2 27
      have Z2 := (Z1.next hb1).next ha1
      have S2 := (S1.next hb1).next ha1
      have R2 := hid ((HR1.out.next hb1).next ha1)
      have U2 := gr_trans (gr_trans hcut hb1) ha1
      clear Z1 S1 HR1 hcut hb1 ha1 f0 f1 f2 f3 z0 z1 z2
      go_upto_region 36 with fail
      obtain ⟨js, hjs⟩ : ∃ j, j = w1.heap.size := ⟨_, rfl⟩
      rw [← hjs] at B2
      rw [← hjs]
      generalize w1.alloc (.cells #[.int .i64 s0, .int .i64 s1, .int .i64 s2] 27) = W2 at B2 Z2 S2 R2 U2 ⊢
      clear hjs
      obtain ⟨⟨_, f0, f1, f2, f3, _⟩, ⟨_, z0, z1, z2, _⟩⟩ := id Z2
      obtain ⟨_, q0, q1, q2, _⟩ := id B2
      go_wp2_with fail
      refine (Q2.out.mul _).mono ?_
      rintro e w3 ⟨rfl, hb3⟩
      have ha3 := gr_alloc (Below.refl w3.heap.size w3) (.cells #[.int .i64 t0, .int .i64 t1, .int .i64 t2] 27)
      have T4 := Arr3.new w3 t0 t1 t2 27
      have B4 := (B2.next hb3).next ha3
      have Z4 := (Z2.next hb3).next ha3
      have S4 := (S2.next hb3).next ha3
      have R4 := (R2.out.next hb3).next ha3
      have U4 := gr_trans (gr_trans U2 hb3) ha3
      clear B2 Z2 S2 R2 U2 hb3 ha3 f0 f1 f2 f3 z0 z1 z2 q0 q1 q2
      go_upto_region 37 with fail
      obtain ⟨jt, hjt⟩ : ∃ j, j = w3.heap.size := ⟨_, rfl⟩
      rw [← hjt] at T4
      rw [← hjt]
      generalize w3.alloc (.cells #[.int .i64 t0, .int .i64 t1, .int .i64 t2] 27) = W4 at T4 B4 Z4 S4 R4 U4 ⊢
      clear hjt
      by_cases hK1 : K1 = 0
      · have hk1t : (K1 == 0) = true := by simpa using hK1
        by_cases hK2 : K2 = 0
        · have hk2t : (K2 == 0) = true := by simpa using hK2
          obtain ⟨r0, r1, r2⟩ := HCH.out.ch Q1.out Q2.out hK1 hK2
          obtain ⟨_, h0⟩ | ⟨bl', cl', h1, _, _, _, hcell⟩ := id R4
          · exact absurd h0 (by omega)
          cases h1
          have cl1 : W4.cell? ⟨bl, 1, none⟩ = some (.int .i64 l1) := hcell 1 (by omega)
          have cl2 : W4.cell? ⟨bl, 2, none⟩ = some (.int .i64 l2) := hcell 2 (by omega)
          have cl3 : W4.cell? ⟨bl, 3, none⟩ = some (.int .i64 l3) := hcell 3 (by omega)
          clear hcell R4 Q1 Q2 HCH
          obtain ⟨_, ⟨_, z0, z1, z2, _⟩⟩ := id Z4
          obtain ⟨_, q0, q1, q2, _⟩ := id B4
          obtain ⟨_, y0, y1, y2, _⟩ := id T4
          obtain ⟨A0, hA0⟩ : ∃ y, y = wrap64 (l1 * s0) := ⟨_, rfl⟩
          obtain ⟨A1, hA1⟩ : ∃ y, y = wrap64 (l1 * s1) := ⟨_, rfl⟩
          obtain ⟨A2, hA2⟩ : ∃ y, y = wrap64 (l1 * s2) := ⟨_, rfl⟩
          obtain ⟨C0, hC0⟩ : ∃ y, y = wrap64 (l2 * u') := ⟨_, rfl⟩
          obtain ⟨C1, hC1⟩ : ∃ y, y = wrap64 (l2 * v') := ⟨_, rfl⟩
          obtain ⟨C2, hC2⟩ : ∃ y, y = wrap64 (l2 * x') := ⟨_, rfl⟩
          rw [← hA0, ← hC0] at r0; rw [← hA1, ← hC1] at r1; rw [← hA2, ← hC2] at r2
          obtain ⟨B0, hB0⟩ : ∃ y, y = wrap64 (t0 + A0) := ⟨_, rfl⟩
          obtain ⟨B1, hB1⟩ : ∃ y, y = wrap64 (t1 + A1) := ⟨_, rfl⟩
          obtain ⟨B2, hB2⟩ : ∃ y, y = wrap64 (t2 + A2) := ⟨_, rfl⟩
          rw [← hB0] at r0; rw [← hB1] at r1; rw [← hB2] at r2
          obtain ⟨D0, hD0⟩ : ∃ y, y = wrap64 (B0 + C0) := ⟨_, rfl⟩
          rw [← hD0] at r0
          have iA0 : IntKind.i64.wrap (l1 * s0) = A0 := by rw [IntWalk.i64_left]; exact hA0.symm
          have iA1 : IntKind.i64.wrap (l1 * s1) = A1 := by rw [IntWalk.i64_left]; exact hA1.symm
          have iA2 : IntKind.i64.wrap (l1 * s2) = A2 := by rw [IntWalk.i64_left]; exact hA2.symm
          have iC0 : IntKind.i64.wrap (l2 * u') = C0 := by rw [IntWalk.i64_left]; exact hC0.symm
          have iC1 : IntKind.i64.wrap (l2 * v') = C1 := by rw [IntWalk.i64_left]; exact hC1.symm
          have iC2 : IntKind.i64.wrap (l2 * x') = C2 := by rw [IntWalk.i64_left]; exact hC2.symm
          have iB0 : IntKind.i64.wrap (t0 + A0) = B0 := by rw [IntWalk.i64_left]; exact hB0.symm
          have iB1 : IntKind.i64.wrap (t1 + A1) = B1 := by rw [IntWalk.i64_left]; exact hB1.symm
          have iB2 : IntKind.i64.wrap (t2 + A2) = B2 := by rw [IntWalk.i64_left]; exact hB2.symm
          have iD0 : IntKind.i64.wrap (B0 + C0) = D0 := by rw [IntWalk.i64_left]; exact hD0.symm
          have iE0 : IntKind.i64.wrap (D0 + l3) = 0 := by rw [IntWalk.i64_left]; exact r0
          have iE1 : IntKind.i64.wrap (B1 + C1) = 0 := by rw [IntWalk.i64_left]; exact r1
          have iE2 : IntKind.i64.wrap (B2 + C2) = 0 := by rw [IntWalk.i64_left]; exact r2
          have hA0' := hA0.symm; have hA1' := hA1.symm; have hA2' := hA2.symm; have hC0' := hC0.symm; have hC1' := hC1.symm; have hC2' := hC2.symm
          have hB0' := hB0.symm; have hB1' := hB1.symm; have hB2' := hB2.symm; have hD0' := hD0.symm
          clear hA0 hA1 hA2 hC0 hC1 hC2 hB0 hB1 hB2 hD0 hK1 hK2
          go_wp2_with fail
          refine wp_loop_rounds 4 ?_
          rw [rounds_succ]; go_wp2_with fail
          go_quiet (fail)
          go_wp2_with fail
          rw [rounds_succ]; go_wp2_with fail
          go_quiet (fail)
          go_wp2_with fail
          rw [rounds_succ]; go_wp2_with fail
          go_quiet (fail)
          go_wp2_with fail
          rw [rounds_succ]; go_wp2_with fail
          go_meet
          exact ⟨by (repeat' (first | with_reducible exact Below.refl _ _ | with_reducible assumption | with_reducible refine gr_alloc ?_ _ | with_reducible refine gr_drew ?_ | with_reducible refine gr_drewN ?_ _ | with_reducible refine gr_trans ?_ (by assumption) | with_reducible refine gr_set ?_ ?_ _ | (simp; done) | omega | (simp; omega))), S4.next (by (repeat' (first | with_reducible exact Below.refl _ _ | with_reducible assumption | with_reducible refine gr_alloc ?_ _ | with_reducible refine gr_drew ?_ | with_reducible refine gr_drewN ?_ _ | with_reducible refine gr_trans ?_ (by assumption) | with_reducible refine gr_set ?_ ?_ _ | (simp; done) | omega | (simp; omega))))⟩
        · have hk2t : (K2 == 0) = false := by simpa using hK2
          go_wp2_with fail
          go_meet
          exact ⟨U4, S4⟩
      · have hk1t : (K1 == 0) = false := by simpa using hK1
        go_wp2_with fail
        go_meet
        exact ⟨U4, S4⟩
    · have hFf : (F == 0) = false := by simpa using hF
      go_wp2_with fail
      go_meet
      exact ⟨hcut, hS.out⟩
  case rest =>
    obtain ⟨U, S⟩ := hcut
    go_step
    exact rseg229_any w a0 len0 cap0 z0 HR hlen _ U jf jx jy jp a b c d u v x p q r K P0 P1 P2 (hid S) hQ _ _ _ _ _ _ _ _ _ _ _ _ _ _ _ _ _ _ _ _ _ _ _ _ _ _ _ _ _ _ _ _ _ _ _ _ _ _ _ _ _ _ _ _ _ _ _ _ _ _ _ _ _ _ _ _ _ _ _ _ _ _ _ _ _ _ _ _ _ _ _ _ _ _ _ _ _ _ _ _ _ _ _ _ _ _ _ _ _ _ _ _ _ _ _ _ _ _ _ _ _ _ _ _ _ _ _ _ _ _ _ _ _ _ _ _ _ _ _ _ _ _ _ _ _ _ _ _ _ _ _ _ _ _ _ _ _ _ _ _ _ _ _ _ _ _ _ _ _ _ _ _ _ _ _ _ _ _ _ _ _ _ _ _ _ _ _ _ _ _ _ _ _ _ _ _ _ _ _ _ _ _ _ _ _ _ _ _ _ _ _ _ _ _ _ _ _ _ _ _ _ _ _ _ _ _ _ _ _ _ _ _ _ _ _ _ _ _ _ _ _ _ _ _ _ _ _ _ _ _ _ _ _ _ _ _ _ _ _ _ _ _ _ _ _ _ _ _ _ _ _ _ _ _ _ _ _ _ _ _ _ _ _ _ _ _ _ _ _ _ _ _ _ _ _ _ _ _ _ _ _ _ _ _ _ _ _ _ _ _ _ _ _ _ _ _ _ _ _ _ _ _ _ _ _ _ _ _ _ _ _ _ _ _ _ _ _ _ _ _ _ _ _ _ _ _ _ _ _ _ _ _ _ _ _ _ _ _ _ _ _ _ _ _ _ _ _ _ _ _ _ _ _ _ _ _ _ _ _ _ _ _ _ _ _ _ _ _

end Go.Proofs.Ytambbhldhhlfgaa
