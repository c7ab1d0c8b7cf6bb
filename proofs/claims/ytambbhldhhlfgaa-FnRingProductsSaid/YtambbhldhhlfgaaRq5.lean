/- FnRingProducts, cut: sums of elements. -/
import Derived.Test.YtambbhldhhlfgaaRq4
namespace Go.Proofs.Ytambbhldhhlfgaa
open Go.ChangeShapes Go.WideShapes Go.ChangeAt Go.RowKit

set_option maxRecDepth 1000000 in
set_option maxHeartbeats 8000000 in
theorem rseg85_any (w : World) (a0 : Option Addr) (len0 cap0 : Nat) (z0 : List Int) (HR : Hid (IsRow .u8 w a0 len0 cap0 z0)) (hlen : len0 ≤ 9223372036854775807) (wc : World) (hcut : Below w.heap.size w wc) (jf jx jy jp : Nat) (a b c d u v x p q r K P0 P1 P2 : Int) (hS : Hid (RpF wc jf jx jy jp a b c d u v x p q r P0 P1 P2)) (hQ : Hid (RpQ a b c d u v x p q r K P0 P1 P2)) (u1 u2 u8 u9 u10 u11 u12 u13 u14 u15 u16 u17 u18 u19 u20 u21 u22 u23 u24 u25 u26 u27 u28 u29 u30 u31 u32 u33 u34 u35 u36 u37 u38 u39 u40 u41 u42 u43 u44 u45 u46 u47 u48 u49 u50 u51 u52 u53 u54 u55 u56 u57 u58 u59 u60 u61 u62 u63 u64 u65 u66 u67 u68 u69 u70 u71 u72 u73 u74 u75 u76 u77 u78 u79 u80 u81 u82 u83 u84 u85 u86 u87 u88 u89 u90 u91 u92 u93 u94 u95 u96 u97 u98 u99 u100 u101 u102 u103 u104 u105 u106 u107 u108 u109 u110 u111 u112 u113 u114 u115 u116 u117 u118 u119 u120 u121 u122 u123 u124 u125 u126 u127 u128 u129 u130 u131 u132 u133 u134 u135 u136 u137 u138 u139 u140 u141 u142 u143 u144 u145 u146 u147 u148 u149 u150 u151 u152 u153 u154 u155 u156 u157 u158 u159 u160 u161 u162 u163 u164 u165 u166 u167 u168 u169 u170 u171 u172 u173 u174 u175 u176 u177 u178 u179 u180 u181 u182 u183 u184 u185 u186 u187 u188 u189 u190 u191 u192 u193 u194 u195 u196 u197 u198 u199 u200 u201 u202 u203 u204 u205 u206 u207 u208 u209 u210 u211 u212 u213 u214 u215 u216 u217 u218 u219 u220 u221 u222 u223 u224 u225 u226 u227 u228 u229 u230 u231 u232 u233 u234 u235 u236 u237 u238 u239 u240 u241 u242 u243 u244 u245 u246 u247 u248 u249 u250 u251 u252 u253 u254 u255 u256 u257 u258 u259 u260 u261 u262 u263 u264 u265 u266 u267 u268 u269 u270 u271 u272 u273 u274 u275 u276 u277 u278 u279 u280 u281 u282 u283 u284 u285 u286 u287 u288 u289 u290 u291 u292 u293 u294 u295 u296 u297 u298 u299 u300 u301 u302 u303 u304 u305 u306 u307 u308 u309 u310 u311 u312 u313 u314 u315 u316 u317 u318 u319 u320 u321 u322 u323 u324 u325 u326 u327 u328 u329 u330 u331 u332 u333 u334 u335 u336 u337 u338 u339 u340 u341 u342 u343 u344 u345 u346 u347 u348 u349 u350 u351 u352 u353 u354 u355 u356 u357 u358 u359 u360 u361 u362 u363 u364 u365 u366 u367 u368 u369 u370 u371 u372 u373 : Value) :
    Code.wp Try.prog (rseg 85) (bodyPost Try.prog Try.f3 fun e w' => e = .returned (.bool true) ∧ Below w.heap.size w w') ⟨#[.slice a0 len0 cap0, u1, u2, .pointer (some ⟨jf, 0, none⟩), .pointer (some ⟨jx, 0, none⟩), .pointer (some ⟨jy, 0, none⟩), .pointer (some ⟨jp, 0, none⟩), .int .i64 K, u8, u9, u10, u11, u12, u13, u14, u15, u16, u17, u18, u19, u20, u21, u22, u23, u24, u25, u26, u27, u28, u29, u30, u31, u32, u33, u34, u35, u36, u37, u38, u39, u40, u41, u42, u43, u44, u45, u46, u47, u48, u49, u50, u51, u52, u53, u54, u55, u56, u57, u58, u59, u60, u61, u62, u63, u64, u65, u66, u67, u68, u69, u70, u71, u72, u73, u74, u75, u76, u77, u78, u79, u80, u81, u82, u83, u84, u85, u86, u87, u88, u89, u90, u91, u92, u93, u94, u95, u96, u97, u98, u99, u100, u101, u102, u103, u104, u105, u106, u107, u108, u109, u110, u111, u112, u113, u114, u115, u116, u117, u118, u119, u120, u121, u122, u123, u124, u125, u126, u127, u128, u129, u130, u131, u132, u133, u134, u135, u136, u137, u138, u139, u140, u141, u142, u143, u144, u145, u146, u147, u148, u149, u150, u151, u152, u153, u154, u155, u156, u157, u158, u159, u160, u161, u162, u163, u164, u165, u166, u167, u168, u169, u170, u171, u172, u173, u174, u175, u176, u177, u178, u179, u180, u181, u182, u183, u184, u185, u186, u187, u188, u189, u190, u191, u192, u193, u194, u195, u196, u197, u198, u199, u200, u201, u202, u203, u204, u205, u206, u207, u208, u209, u210, u211, u212, u213, u214, u215, u216, u217, u218, u219, u220, u221, u222, u223, u224, u225, u226, u227, u228, u229, u230, u231, u232, u233, u234, u235, u236, u237, u238, u239, u240, u241, u242, u243, u244, u245, u246, u247, u248, u249, u250, u251, u252, u253, u254, u255, u256, u257, u258, u259, u260, u261, u262, u263, u264, u265, u266, u267, u268, u269, u270, u271, u272, u273, u274, u275, u276, u277, u278, u279, u280, u281, u282, u283, u284, u285, u286, u287, u288, u289, u290, u291, u292, u293, u294, u295, u296, u297, u298, u299, u300, u301, u302, u303, u304, u305, u306, u307, u308, u309, u310, u311, u312, u313, u314, u315, u316, u317, u318, u319, u320, u321, u322, u323, u324, u325, u326, u327, u328, u329, u330, u331, u332, u333, u334, u335, u336, u337, u338, u339, u340, u341, u342, u343, u344, u345, u346, u347, u348, u349, u350, u351, u352, u353, u354, u355, u356, u357, u358, u359, u360, u361, u362, u363, u364, u365, u366, u367, u368, u369, u370, u371, u372, u373], []⟩ wc := by
  conv => arg 2; whnf
  have heq := heqE
  have HR2 := hid (row8_next HR.out hcut)
  have S0 := hS
  clear hS
  go_wp2_with fail
  refine (drawAd_any a0 len0 cap0 z0 _ HR2.out hlen).mono ?_
  rintro e w1 ⟨u', v', x', p', q', r', k, rfl, V1⟩
  have h1 := fun W => iAddE_any u' v' x' p' q' r' k W
  have h2 := fun W => sAddE_any u' v' x' p' q' r' k W
  generalize wrap64 (u' + k * p') = y0 at h1 h2
  generalize wrap64 (v' + k * q') = y1 at h1 h2
  generalize wrap64 (x' + k * r') = y2 at h1 h2
  generalize aec (isE u' v' x' && isE p' q' r') (rng (-10000) 10000 k) y0 y1 y2 = K2 at h1 h2
  generalize if0 K2 y0 = n0 at h1 h2
  generalize if0 K2 y1 = n1 at h1 h2
  generalize if0 K2 y2 = n2 at h1 h2
  have H1 := hid h1; have H2 := hid h2
  have ha := gr_alloc (gr_alloc (Below.refl w1.heap.size w1) (.cells #[.int .i64 u', .int .i64 v', .int .i64 x'] 27)) (.cells #[.int .i64 p', .int .i64 q', .int .i64 r'] 27)
  have X2 := (Arr3.new w1 u' v' x' 27).alloc (.cells #[.int .i64 p', .int .i64 q', .int .i64 r'] 27)
  have Y2 := Arr3.new (w1.alloc (.cells #[.int .i64 u', .int .i64 v', .int .i64 x'] 27)) p' q' r' 27
  simp only [World.size_alloc] at Y2
  have S2 := hid ((S0.out.next V1).next ha)
  have U2 := gr_trans (gr_trans hcut V1) ha
  clear S0 V1 ha hcut HR2 h1 h2
  go_upto_region 9 with fail
  obtain ⟨j1, hj1⟩ : ∃ j, j = w1.heap.size := ⟨_, rfl⟩
  rw [← hj1] at X2 Y2
  rw [← hj1]
  generalize (w1.alloc (.cells #[.int .i64 u', .int .i64 v', .int .i64 x'] 27)).alloc (.cells #[.int .i64 p', .int .i64 q', .int .i64 r'] 27) = W2 at X2 Y2 S2 U2 ⊢
  clear hj1
  obtain ⟨_, x0, x1, x2, _⟩ := id X2
  obtain ⟨_, y0, y1, y2, _⟩ := id Y2
  go_wp2_with fail
  refine (H1.out _).mono ?_
  rintro e w3 ⟨rfl, hb3⟩
  have ha3 := gr_alloc (Below.refl w3.heap.size w3) (.cells #[.int .i64 n0, .int .i64 n1, .int .i64 n2] 27)
  have A4 := Arr3.new w3 n0 n1 n2 27
  have X4 := (X2.next hb3).next ha3
  have Y4 := (Y2.next hb3).next ha3
  have S4 := hid ((S2.out.next hb3).next ha3)
  have U4 := gr_trans (gr_trans U2 hb3) ha3
  clear X2 Y2 S2 U2 hb3 ha3 H1 x0 x1 x2 y0 y1 y2
  go_upto_region 10 with fail
  obtain ⟨j3, hj3⟩ : ∃ j, j = w3.heap.size := ⟨_, rfl⟩
  rw [← hj3] at A4
  rw [← hj3]
  generalize w3.alloc (.cells #[.int .i64 n0, .int .i64 n1, .int .i64 n2] 27) = W4 at A4 X4 Y4 S4 U4 ⊢
  clear hj3
  obtain ⟨_, x0, x1, x2, _⟩ := id X4
  obtain ⟨_, y0, y1, y2, _⟩ := id Y4
  go_wp2_with fail
  refine (H2.out _).mono ?_
  rintro e w5 ⟨rfl, hb5⟩
  have ha5 := gr_alloc (Below.refl w5.heap.size w5) (.cells #[.int .i64 n0, .int .i64 n1, .int .i64 n2] 27)
  have B6 := Arr3.new w5 n0 n1 n2 27
  have A6 := (A4.next hb5).next ha5
  have S6 := (S4.out.next hb5).next ha5
  have U6 := gr_trans (gr_trans U4 hb5) ha5
  clear A4 X4 Y4 S4 U4 hb5 ha5 H2 x0 x1 x2 y0 y1 y2
  go_upto_region 11 with fail
  obtain ⟨j5, hj5⟩ : ∃ j, j = w5.heap.size := ⟨_, rfl⟩
  rw [← hj5] at B6
  rw [← hj5]
  generalize w5.alloc (.cells #[.int .i64 n0, .int .i64 n1, .int .i64 n2] 27) = W6 at A6 B6 S6 U6 ⊢
  clear hj5
  have er := eq3_rf n0 n1 n2
  obtain ⟨_, x0, x1, x2, _⟩ := id A6
  obtain ⟨_, y0, y1, y2, _⟩ := id B6
  go_upto_if 113 with (fail)
  go_cut [] (fun wx => Below w.heap.size w wx ∧ RpF wx jf jx jy jp a b c d u v x p q r P0 P1 P2)
  case first =>
    go_wp2_with fail
    go_meet
    exact ⟨U6, S6⟩
  case rest =>
    obtain ⟨U, S⟩ := hcut
    go_step
    exact rseg113_any w a0 len0 cap0 z0 HR hlen _ U jf jx jy jp a b c d u v x p q r K P0 P1 P2 (hid S) hQ _ _ _ _ _ _ _ _ _ _ _ _ _ _ _ _ _ _ _ _ _ _ _ _ _ _ _ _ _ _ _ _ _ _ _ _ _ _ _ _ _ _ _ _ _ _ _ _ _ _ _ _ _ _ _ _ _ _ _ _ _ _ _ _ _ _ _ _ _ _ _ _ _ _ _ _ _ _ _ _ _ _ _ _ _ _ _ _ _ _ _ _ _ _ _ _ _ _ _ _ _ _ _ _ _ _ _ _ _ _ _ _ _ _ _ _ _ _ _ _ _ _ _ _ _ _ _ _ _ _ _ _ _ _ _ _ _ _ _ _ _ _ _ _ _ _ _ _ _ _ _ _ _ _ _ _ _ _ _ _ _ _ _ _ _ _ _ _ _ _ _ _ _ _ _ _ _ _ _ _ _ _ _ _ _ _ _ _ _ _ _ _ _ _ _ _ _ _ _ _ _ _ _ _ _ _ _ _ _ _ _ _ _ _ _ _ _ _ _ _ _ _ _ _ _ _ _ _ _ _ _ _ _ _ _ _ _ _ _ _ _ _ _ _ _ _ _ _ _ _ _ _ _ _ _ _ _ _ _ _ _ _ _ _ _ _ _ _ _ _ _ _ _ _ _ _ _ _ _ _ _ _ _ _ _ _ _ _ _ _ _ _ _ _ _ _ _ _ _ _ _ _ _ _ _ _ _ _ _ _ _ _ _ _ _ _ _ _ _ _ _ _ _ _ _ _ _ _ _ _ _ _ _ _ _ _ _ _ _ _ _ _ _ _ _ _ _ _ _ _ _ _ _ _ _ _ _ _ _ _ _ _ _ _ _ _ _ _

end Go.Proofs.Ytambbhldhhlfgaa
