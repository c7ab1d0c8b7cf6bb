/- FnRingProducts, cut: the last piece: the order of a product, its norm. -/
import Derived.Test.YtambbhldhhlfgaaRq0
namespace Go.Proofs.Ytambbhldhhlfgaa
open Go.ChangeShapes Go.WideShapes Go.ChangeAt Go.RowKit

set_option maxRecDepth 1000000 in
set_option maxHeartbeats 8000000 in
theorem rseg229_any (w : World) (a0 : Option Addr) (len0 cap0 : Nat) (z0 : List Int) (HR : Hid (IsRow .u8 w a0 len0 cap0 z0)) (_ : len0 ≤ 9223372036854775807) (wc : World) (hcut : Below w.heap.size w wc) (jf jx jy jp : Nat) (a b c d u v x p q r K P0 P1 P2 : Int) (hS : Hid (RpF wc jf jx jy jp a b c d u v x p q r P0 P1 P2)) (hQ : Hid (RpQ a b c d u v x p q r K P0 P1 P2)) (u1 u2 u8 u9 u10 u11 u12 u13 u14 u15 u16 u17 u18 u19 u20 u21 u22 u23 u24 u25 u26 u27 u28 u29 u30 u31 u32 u33 u34 u35 u36 u37 u38 u39 u40 u41 u42 u43 u44 u45 u46 u47 u48 u49 u50 u51 u52 u53 u54 u55 u56 u57 u58 u59 u60 u61 u62 u63 u64 u65 u66 u67 u68 u69 u70 u71 u72 u73 u74 u75 u76 u77 u78 u79 u80 u81 u82 u83 u84 u85 u86 u87 u88 u89 u90 u91 u92 u93 u94 u95 u96 u97 u98 u99 u100 u101 u102 u103 u104 u105 u106 u107 u108 u109 u110 u111 u112 u113 u114 u115 u116 u117 u118 u119 u120 u121 u122 u123 u124 u125 u126 u127 u128 u129 u130 u131 u132 u133 u134 u135 u136 u137 u138 u139 u140 u141 u142 u143 u144 u145 u146 u147 u148 u149 u150 u151 u152 u153 u154 u155 u156 u157 u158 u159 u160 u161 u162 u163 u164 u165 u166 u167 u168 u169 u170 u171 u172 u173 u174 u175 u176 u177 u178 u179 u180 u181 u182 u183 u184 u185 u186 u187 u188 u189 u190 u191 u192 u193 u194 u195 u196 u197 u198 u199 u200 u201 u202 u203 u204 u205 u206 u207 u208 u209 u210 u211 u212 u213 u214 u215 u216 u217 u218 u219 u220 u221 u222 u223 u224 u225 u226 u227 u228 u229 u230 u231 u232 u233 u234 u235 u236 u237 u238 u239 u240 u241 u242 u243 u244 u245 u246 u247 u248 u249 u250 u251 u252 u253 u254 u255 u256 u257 u258 u259 u260 u261 u262 u263 u264 u265 u266 u267 u268 u269 u270 u271 u272 u273 u274 u275 u276 u277 u278 u279 u280 u281 u282 u283 u284 u285 u286 u287 u288 u289 u290 u291 u292 u293 u294 u295 u296 u297 u298 u299 u300 u301 u302 u303 u304 u305 u306 u307 u308 u309 u310 u311 u312 u313 u314 u315 u316 u317 u318 u319 u320 u321 u322 u323 u324 u325 u326 u327 u328 u329 u330 u331 u332 u333 u334 u335 u336 u337 u338 u339 u340 u341 u342 u343 u344 u345 u346 u347 u348 u349 u350 u351 u352 u353 u354 u355 u356 u357 u358 u359 u360 u361 u362 u363 u364 u365 u366 u367 u368 u369 u370 u371 u372 u373 : Value) :
    Code.wp Try.prog (rseg 229) (bodyPost Try.prog Try.f3 fun e w' => e = .returned (.bool true) ∧ Below w.heap.size w w') ⟨#[.slice a0 len0 cap0, u1, u2, .pointer (some ⟨jf, 0, none⟩), .pointer (some ⟨jx, 0, none⟩), .pointer (some ⟨jy, 0, none⟩), .pointer (some ⟨jp, 0, none⟩), .int .i64 K, u8, u9, u10, u11, u12, u13, u14, u15, u16, u17, u18, u19, u20, u21, u22, u23, u24, u25, u26, u27, u28, u29, u30, u31, u32, u33, u34, u35, u36, u37, u38, u39, u40, u41, u42, u43, u44, u45, u46, u47, u48, u49, u50, u51, u52, u53, u54, u55, u56, u57, u58, u59, u60, u61, u62, u63, u64, u65, u66, u67, u68, u69, u70, u71, u72, u73, u74, u75, u76, u77, u78, u79, u80, u81, u82, u83, u84, u85, u86, u87, u88, u89, u90, u91, u92, u93, u94, u95, u96, u97, u98, u99, u100, u101, u102, u103, u104, u105, u106, u107, u108, u109, u110, u111, u112, u113, u114, u115, u116, u117, u118, u119, u120, u121, u122, u123, u124, u125, u126, u127, u128, u129, u130, u131, u132, u133, u134, u135, u136, u137, u138, u139, u140, u141, u142, u143, u144, u145, u146, u147, u148, u149, u150, u151, u152, u153, u154, u155, u156, u157, u158, u159, u160, u161, u162, u163, u164, u165, u166, u167, u168, u169, u170, u171, u172, u173, u174, u175, u176, u177, u178, u179, u180, u181, u182, u183, u184, u185, u186, u187, u188, u189, u190, u191, u192, u193, u194, u195, u196, u197, u198, u199, u200, u201, u202, u203, u204, u205, u206, u207, u208, u209, u210, u211, u212, u213, u214, u215, u216, u217, u218, u219, u220, u221, u222, u223, u224, u225, u226, u227, u228, u229, u230, u231, u232, u233, u234, u235, u236, u237, u238, u239, u240, u241, u242, u243, u244, u245, u246, u247, u248, u249, u250, u251, u252, u253, u254, u255, u256, u257, u258, u259, u260, u261, u262, u263, u264, u265, u266, u267, u268, u269, u270, u271, u272, u273, u274, u275, u276, u277, u278, u279, u280, u281, u282, u283, u284, u285, u286, u287, u288, u289, u290, u291, u292, u293, u294, u295, u296, u297, u298, u299, u300, u301, u302, u303, u304, u305, u306, u307, u308, u309, u310, u311, u312, u313, u314, u315, u316, u317, u318, u319, u320, u321, u322, u323, u324, u325, u326, u327, u328, u329, u330, u331, u332, u333, u334, u335, u336, u337, u338, u339, u340, u341, u342, u343, u344, u345, u346, u347, u348, u349, u350, u351, u352, u353, u354, u355, u356, u357, u358, u359, u360, u361, u362, u363, u364, u365, u366, u367, u368, u369, u370, u371, u372, u373], []⟩ wc := by
  conv => arg 2; whnf
  have heq := heqE
  have hS0 := hS.out
  have HR2 := hid (row8_next HR.out hcut)
  by_cases hk : K = 0
  · have hkt : (K != 0) = false := by simpa using hk
    have HM := hid hQ.out.sw
    have HN := hid (hQ.out.nrm hk)
    have h1 := fun W => iNormE_any a b c d u v x W
    have h2 := fun W => iNormE_any a b c d p q r W
    have h3 := fun W => iNormE_any a b c d P0 P1 P2 W
    have e1 : few 100 a b c d u v x = 0 → if0 (few 100 a b c d u v x) (wrap64 (de3 (mtf a b c d u v x))) = wrap64 (de3 (mtf a b c d u v x)) := fun h => by rw [h]; rfl
    have e2 : few 100 a b c d p q r = 0 → if0 (few 100 a b c d p q r) (wrap64 (de3 (mtf a b c d p q r))) = wrap64 (de3 (mtf a b c d p q r)) := fun h => by rw [h]; rfl
    have e3 : few 100 a b c d P0 P1 P2 = 0 → if0 (few 100 a b c d P0 P1 P2) (wrap64 (de3 (mtf a b c d P0 P1 P2))) = wrap64 (de3 (mtf a b c d P0 P1 P2)) := fun h => by rw [h]; rfl
    have q1 : few 100 a b c d u v x = 0 → few 100 a b c d p q r = 0 → few 100 a b c d P0 P1 P2 = 0 → wrap64 (if0 (few 100 a b c d u v x) (wrap64 (de3 (mtf a b c d u v x))) * if0 (few 100 a b c d p q r) (wrap64 (de3 (mtf a b c d p q r)))) = if0 (few 100 a b c d P0 P1 P2) (wrap64 (de3 (mtf a b c d P0 P1 P2))) := fun h h' h'' => by
      rw [e1 h, e2 h', e3 h'']; exact HN.out.symm
    generalize if0 (few 100 a b c d u v x) (wrap64 (de3 (mtf a b c d u v x))) = n1 at h1 q1
    generalize if0 (few 100 a b c d p q r) (wrap64 (de3 (mtf a b c d p q r))) = n2 at h2 q1
    generalize if0 (few 100 a b c d P0 P1 P2) (wrap64 (de3 (mtf a b c d P0 P1 P2))) = n3 at h3 q1
    generalize few 100 a b c d u v x = k1 at h1 q1
    generalize few 100 a b c d p q r = k2 at h2 q1
    generalize few 100 a b c d P0 P1 P2 = k3 at h3 q1
    have H1 := hid h1; have H2 := hid h2; have H3 := hid h3; have Q1 := hid q1
    clear h1 h2 h3 q1 e1 e2 e3 HN hQ hS
    subst hk
    obtain ⟨⟨_, f0, f1, f2, f3, _⟩, ⟨_, x0, x1, x2, _⟩, ⟨_, y0, y1, y2, _⟩, ⟨_, p0, p1, p2, _⟩⟩ := id hS0
    go_wp2_with fail
    refine (HM.out.mul _).mono ?_
    rintro e w1 ⟨rfl, hb1⟩
    have S1 := hS0.next hb1
    have B1 := Arr3.new w1 P0 P1 P2 27
    have S2 := S1.next (gr_alloc (Below.refl _ w1) (.cells #[.int .i64 P0, .int .i64 P1, .int .i64 P2] 27))
    have U2 := gr_alloc (gr_trans hcut hb1) (.cells #[.int .i64 P0, .int .i64 P1, .int .i64 P2] 27)
    clear HM hS0 S1 hb1 hcut f0 f1 f2 f3 x0 x1 x2 y0 y1 y2 p0 p1 p2
    go_upto_region 49 with fail
    obtain ⟨jb, hjb⟩ : ∃ j, j = w1.heap.size := ⟨_, rfl⟩
    rw [← hjb] at B1
    rw [← hjb]
    generalize w1.alloc (.cells #[.int .i64 P0, .int .i64 P1, .int .i64 P2] 27) = W2 at B1 S2 U2 ⊢
    clear hjb
    obtain ⟨⟨_, f0, f1, f2, f3, _⟩, ⟨_, x0, x1, x2, _⟩, ⟨_, y0, y1, y2, _⟩, ⟨_, p0, p1, p2, _⟩⟩ := id S2
    go_wp2_with fail
    refine (H1.out _).mono ?_
    rintro e w3 ⟨rfl, hb3⟩
    have S3 := S2.next hb3
    have B3 := B1.next hb3
    have U3 := gr_trans U2 hb3
    clear S2 B1 U2 hb3 H1 f0 f1 f2 f3 x0 x1 x2 y0 y1 y2 p0 p1 p2
    obtain ⟨⟨_, f0, f1, f2, f3, _⟩, ⟨_, x0, x1, x2, _⟩, ⟨_, y0, y1, y2, _⟩, ⟨_, p0, p1, p2, _⟩⟩ := id S3
    go_wp2_with fail
    refine (H2.out _).mono ?_
    rintro e w4 ⟨rfl, hb4⟩
    have S4 := S3.next hb4
    have B4 := B3.next hb4
    have U4 := gr_trans U3 hb4
    clear S3 B3 U3 hb4 H2 f0 f1 f2 f3 x0 x1 x2 y0 y1 y2 p0 p1 p2
    obtain ⟨⟨_, f0, f1, f2, f3, _⟩, ⟨_, x0, x1, x2, _⟩, ⟨_, y0, y1, y2, _⟩, ⟨_, p0, p1, p2, _⟩⟩ := id S4
    go_wp2_with fail
    refine (H3.out _).mono ?_
    rintro e w5 ⟨rfl, hb5⟩
    have S5 := S4.next hb5
    have B5 := B4.next hb5
    have U5 := gr_trans U4 hb5
    clear S4 B4 U4 hb5 H3 f0 f1 f2 f3 x0 x1 x2 y0 y1 y2 p0 p1 p2
    obtain ⟨⟨_, f0, f1, f2, f3, _⟩, ⟨_, x0, x1, x2, _⟩, ⟨_, y0, y1, y2, _⟩, ⟨_, p0, p1, p2, _⟩⟩ := id S5
    obtain ⟨_, b0, b1, b2, _⟩ := id B5
    have er := eq3_rf P0 P1 P2
    go_upto_if 342 with (go_quiet (fail))
    go_wp2_with fail
    go_upto_region 54 with fail
    clear b0 b1 b2 f0 f1 f2 f3 x0 x1 x2 y0 y1 y2 p0 p1 p2 S5 B5
    go_wp2_with fail
    all_goals (go_ret; first | exact ⟨rfl, by (repeat' (first | with_reducible exact Below.refl _ _ | with_reducible assumption | with_reducible refine gr_alloc ?_ _ | with_reducible refine gr_drew ?_ | with_reducible refine gr_drewN ?_ _ | with_reducible refine gr_trans ?_ (by assumption) | with_reducible refine gr_set ?_ ?_ _ | (simp; done) | omega | (simp; omega)))⟩ | exact ⟨ret_bool (by rw [Q1.out (by assumption) (by assumption) (by assumption)]; simp), by (repeat' (first | with_reducible exact Below.refl _ _ | with_reducible assumption | with_reducible refine gr_alloc ?_ _ | with_reducible refine gr_drew ?_ | with_reducible refine gr_drewN ?_ _ | with_reducible refine gr_trans ?_ (by assumption) | with_reducible refine gr_set ?_ ?_ _ | (simp; done) | omega | (simp; omega)))⟩)
  · have hkt : (K != 0) = true := by simpa using hk
    obtain ⟨rfl, rfl, rfl⟩ := hQ.out.bad hk
    obtain ⟨_, _, _, ⟨_, p0, p1, p2, _⟩⟩ := id hS0
    have er := eq3_rf 0 0 0
    clear hk
    go_wp2_with fail
    go_ret
    exact ⟨ret_bool (by simp), by (repeat' (first | with_reducible exact Below.refl _ _ | with_reducible assumption | with_reducible refine gr_alloc ?_ _ | with_reducible refine gr_drew ?_ | with_reducible refine gr_drewN ?_ _ | with_reducible refine gr_trans ?_ (by assumption) | with_reducible refine gr_set ?_ ?_ _ | (simp; done) | omega | (simp; omega)))⟩

end Go.Proofs.Ytambbhldhhlfgaa
