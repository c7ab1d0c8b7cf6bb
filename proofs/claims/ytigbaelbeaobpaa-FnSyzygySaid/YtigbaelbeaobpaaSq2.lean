/- FnSyzygy, cut: resultants. -/
import Derived.Test.YtigbaelbeaobpaaSq1
import Derived.Test.YtigbaelbeaobpaaDw3
import Derived.Test.YtigbaelbeaobpaaDs
namespace Go.Proofs.Ytigbaelbeaobpaa
open Go.ChangeShapes Go.WideShapes Go.ChangeAt Go.RowKit

set_option maxRecDepth 1000000 in
set_option maxHeartbeats 8000000 in
theorem sseg201_any (w : World) (a0 : Option Addr) (len0 cap0 : Nat) (z0 : List Int) (HR : Hid (IsRow .u8 w a0 len0 cap0 z0)) (hlen : len0 ≤ 9223372036854775807) (wc : World) (hcut : Below w.heap.size w wc) (u1 u2 u3 u4 u5 u6 u7 u8 u9 u10 u11 u12 u13 u14 u15 u16 u17 u18 u19 u20 u21 u22 u23 u24 u25 u26 u27 u28 u29 u30 u31 u32 u33 u34 u35 u36 u37 u38 u39 u40 u41 u42 u43 u44 u45 u46 u47 u48 u49 u50 u51 u52 u53 u54 u55 u56 u57 u58 u59 u60 u61 u62 u63 u64 u65 u66 u67 u68 u69 u70 u71 u72 u73 u74 u75 u76 u77 u78 u79 u80 u81 u82 u83 u84 u85 u86 u87 u88 u89 u90 u91 u92 u93 u94 u95 u96 u97 u98 u99 u100 u101 u102 u103 u104 u105 u106 u107 u108 u109 u110 u111 u112 u113 u114 u115 u116 u117 u118 u119 u120 u121 u122 u123 u124 u125 u126 u127 u128 u129 u130 u131 u132 u133 u134 u135 u136 u137 u138 u139 u140 u141 u142 u143 u144 u145 u146 u147 u148 u149 u150 u151 u152 u153 u154 u155 u156 u157 u158 u159 u160 u161 u162 u163 u164 u165 u166 u167 u168 u169 u170 u171 u172 u173 u174 u175 u176 u177 u178 u179 u180 u181 u182 u183 u184 u185 u186 u187 u188 u189 u190 u191 u192 u193 u194 u195 u196 u197 u198 u199 u200 u201 u202 u203 u204 u205 u206 u207 u208 u209 u210 u211 u212 u213 u214 u215 u216 u217 u218 u219 u220 u221 u222 u223 u224 u225 u226 u227 u228 u229 u230 u231 u232 u233 u234 u235 u236 u237 u238 u239 u240 u241 u242 u243 u244 u245 u246 u247 u248 u249 u250 u251 u252 u253 u254 u255 u256 u257 u258 u259 u260 u261 u262 u263 u264 u265 u266 u267 u268 u269 u270 u271 u272 u273 u274 u275 u276 u277 u278 u279 u280 u281 u282 u283 u284 u285 u286 u287 u288 u289 u290 u291 u292 u293 u294 u295 u296 u297 u298 u299 u300 u301 u302 u303 u304 u305 u306 u307 u308 u309 u310 u311 u312 u313 u314 u315 u316 u317 u318 u319 u320 : Value) :
    Code.wp Try.prog (sseg 201) (bodyPost Try.prog Try.f3 fun e w' => e = .returned (.bool true) ∧ Below w.heap.size w w') ⟨#[.slice a0 len0 cap0, u1, u2, u3, u4, u5, u6, u7, u8, u9, u10, u11, u12, u13, u14, u15, u16, u17, u18, u19, u20, u21, u22, u23, u24, u25, u26, u27, u28, u29, u30, u31, u32, u33, u34, u35, u36, u37, u38, u39, u40, u41, u42, u43, u44, u45, u46, u47, u48, u49, u50, u51, u52, u53, u54, u55, u56, u57, u58, u59, u60, u61, u62, u63, u64, u65, u66, u67, u68, u69, u70, u71, u72, u73, u74, u75, u76, u77, u78, u79, u80, u81, u82, u83, u84, u85, u86, u87, u88, u89, u90, u91, u92, u93, u94, u95, u96, u97, u98, u99, u100, u101, u102, u103, u104, u105, u106, u107, u108, u109, u110, u111, u112, u113, u114, u115, u116, u117, u118, u119, u120, u121, u122, u123, u124, u125, u126, u127, u128, u129, u130, u131, u132, u133, u134, u135, u136, u137, u138, u139, u140, u141, u142, u143, u144, u145, u146, u147, u148, u149, u150, u151, u152, u153, u154, u155, u156, u157, u158, u159, u160, u161, u162, u163, u164, u165, u166, u167, u168, u169, u170, u171, u172, u173, u174, u175, u176, u177, u178, u179, u180, u181, u182, u183, u184, u185, u186, u187, u188, u189, u190, u191, u192, u193, u194, u195, u196, u197, u198, u199, u200, u201, u202, u203, u204, u205, u206, u207, u208, u209, u210, u211, u212, u213, u214, u215, u216, u217, u218, u219, u220, u221, u222, u223, u224, u225, u226, u227, u228, u229, u230, u231, u232, u233, u234, u235, u236, u237, u238, u239, u240, u241, u242, u243, u244, u245, u246, u247, u248, u249, u250, u251, u252, u253, u254, u255, u256, u257, u258, u259, u260, u261, u262, u263, u264, u265, u266, u267, u268, u269, u270, u271, u272, u273, u274, u275, u276, u277, u278, u279, u280, u281, u282, u283, u284, u285, u286, u287, u288, u289, u290, u291, u292, u293, u294, u295, u296, u297, u298, u299, u300, u301, u302, u303, u304, u305, u306, u307, u308, u309, u310, u311, u312, u313, u314, u315, u316, u317, u318, u319, u320], []⟩ wc := by
  have HR2 := hid (row8_next HR.out hcut)
  conv => arg 2; whnf
  go_wp2_with fail
  refine (drawRe_any a0 len0 cap0 z0 _ HR2.out hlen).mono ?_
  rintro e w1 ⟨p, q, r, s, p2, q2, r2, s2, rfl, V1⟩
  have M2 := (Arr.new w1 p q r s 25).alloc (.cells #[.int .i64 p2, .int .i64 q2, .int .i64 r2, .int .i64 s2] 25)
  have X2 := Arr.new (w1.alloc (.cells #[.int .i64 p, .int .i64 q, .int .i64 r, .int .i64 s] 25)) p2 q2 r2 s2 25
  simp only [World.size_alloc] at X2
  have U2 := gr_alloc (gr_alloc (gr_trans hcut V1) (.cells #[.int .i64 p, .int .i64 q, .int .i64 r, .int .i64 s] 25)) (.cells #[.int .i64 p2, .int .i64 q2, .int .i64 r2, .int .i64 s2] 25)
  have h1 := fun W => iResultantOf_any p q r s p2 q2 r2 s2 W
  have h2 := fun W => sResultantOf_any p q r s p2 q2 r2 s2 W
  have h3 := fun W => iResultantOf_any p2 q2 r2 s2 p q r s W
  have h4 := fun W => iResultantOf_any p q r s p q r s W
  have q1 : rsc p q r s p2 q2 r2 s2 = 0 → if0 (rsc p2 q2 r2 s2 p q r s) (wrap64 (rsl p2 q2 r2 s2 p q r s)) = wrap64 (-if0 (rsc p q r s p2 q2 r2 s2) (wrap64 (rsl p q r s p2 q2 r2 s2))) ∧ rsc p2 q2 r2 s2 p q r s = 0 ∧ if0 (rsc p q r s p q r s) (wrap64 (rsl p q r s p q r s)) = 0 ∧ rsc p q r s p q r s = 0 := fun h => by
    obtain ⟨e1, e2⟩ := rsc_sw h
    refine ⟨?_, e1, ?_, e2⟩
    · rw [e1, h]; simp only [if0, if_true]; exact rsl_sw _ _ _ _ _ _ _ _
    · rw [e2]; simp only [if0, if_true]; exact rsl_se _ _ _ _
  generalize if0 (rsc p q r s p2 q2 r2 s2) (wrap64 (rsl p q r s p2 q2 r2 s2)) = v1 at h1 h2 q1
  generalize if0 (rsc p2 q2 r2 s2 p q r s) (wrap64 (rsl p2 q2 r2 s2 p q r s)) = v2 at h3 q1
  generalize if0 (rsc p q r s p q r s) (wrap64 (rsl p q r s p q r s)) = v3 at h4 q1
  generalize rsc p q r s p2 q2 r2 s2 = k at h1 h2 q1
  generalize rsc p2 q2 r2 s2 p q r s = k2 at h3 q1
  generalize rsc p q r s p q r s = k3 at h4 q1
  have H1 := hid h1; have H2 := hid h2; have H3 := hid h3; have Q1 := hid q1; have H4 := hid h4
  clear h1 h2 h3 q1 hcut V1 HR2 h4
  go_upto_region 34 with fail
  obtain ⟨j1, hj1⟩ : ∃ j, j = w1.heap.size := ⟨_, rfl⟩
  rw [← hj1] at M2 X2
  rw [← hj1]
  generalize (w1.alloc (.cells #[.int .i64 p, .int .i64 q, .int .i64 r, .int .i64 s] 25)).alloc (.cells #[.int .i64 p2, .int .i64 q2, .int .i64 r2, .int .i64 s2] 25) = W2 at M2 X2 U2 ⊢
  clear hj1
  obtain ⟨_, m0, m1, m2, m3, _⟩ := id M2
  obtain ⟨_, x0, x1, x2, x3, _⟩ := id X2
  go_wp2_with fail
  refine (H1.out _).mono ?_
  rintro e w3 ⟨rfl, hb3⟩
  clear m0 m1 m2 m3 x0 x1 x2 x3
  have M3 := M2.next hb3
  have X3 := X2.next hb3
  have U3 := gr_trans U2 hb3
  clear M2 X2 U2 hb3 H1
  obtain ⟨_, m0, m1, m2, m3, _⟩ := id M3
  obtain ⟨_, x0, x1, x2, x3, _⟩ := id X3
  go_wp2_with fail
  refine (H2.out _).mono ?_
  rintro e w4 ⟨rfl, hb4⟩
  clear m0 m1 m2 m3 x0 x1 x2 x3
  have M4 := M3.next hb4
  have X4 := X3.next hb4
  have U4 := gr_trans U3 hb4
  clear M3 X3 U3 hb4 H2
  go_upto_if 242 with (fail)
  go_cut [] (fun wx => Below w.heap.size w wx)
  case first =>
    by_cases hk : k = 0
    · have hkt : (k == 0) = true := by simpa using hk
      obtain ⟨hq, e2, e3, e4⟩ := Q1.out hk
      subst hk; subst e2; subst e3; subst e4
      obtain ⟨_, m0, m1, m2, m3, _⟩ := id M4
      obtain ⟨_, x0, x1, x2, x3, _⟩ := id X4
      go_wp2_with fail
      refine (H3.out _).mono ?_
      rintro e w5 ⟨rfl, hb5⟩
      clear m0 m1 m2 m3 x0 x1 x2 x3
      have M5 := M4.next hb5
      have U5 := gr_trans U4 hb5
      clear M4 X4 U4 hb5 H3
      obtain ⟨_, m0, m1, m2, m3, _⟩ := id M5
      go_wp2_with fail
      refine (H4.out _).mono ?_
      rintro e w6 ⟨rfl, hb6⟩
      have U6 := gr_trans U5 hb6
      clear m0 m1 m2 m3 M5 U5 hb6 H4
      subst hq
      go_wp2_with fail
      go_meet
      exact U6
    · have hkf : (k == 0) = false := by simpa using hk
      clear hk
      go_wp2_with fail
      go_meet
      exact U4
  case rest =>
    have h1 := hcut
    go_step
    exact sseg242_any w a0 len0 cap0 z0 HR hlen _ h1 _ _ _ _ _ _ _ _ _ _ _ _ _ _ _ _ _ _ _ _ _ _ _ _ _ _ _ _ _ _ _ _ _ _ _ _ _ _ _ _ _ _ _ _ _ _ _ _ _ _ _ _ _ _ _ _ _ _ _ _ _ _ _ _ _ _ _ _ _ _ _ _ _ _ _ _ _ _ _ _ _ _ _ _ _ _ _ _ _ _ _ _ _ _ _ _ _ _ _ _ _ _ _ _ _ _ _ _ _ _ _ _ _ _ _ _ _ _ _ _ _ _ _ _ _ _ _ _ _ _ _ _ _ _ _ _ _ _ _ _ _ _ _ _ _ _ _ _ _ _ _ _ _ _ _ _ _ _ _ _ _ _ _ _ _ _ _ _ _ _ _ _ _ _ _ _ _ _ _ _ _ _ _ _ _ _ _ _ _ _ _ _ _ _ _ _ _ _ _ _ _ _ _ _ _ _ _ _ _ _ _ _ _ _ _ _ _ _ _ _ _ _ _ _ _ _ _ _ _ _ _ _ _ _ _ _ _ _ _ _ _ _ _ _ _ _ _ _ _ _ _ _ _ _ _ _ _ _ _ _ _ _ _ _ _ _ _ _ _ _ _ _ _ _ _ _ _ _ _ _ _ _ _ _ _ _ _ _ _ _ _ _ _ _ _ _ _ _ _ _ _ _ _ _ _ _ _ _ _ _ _ _ _ _ _ _ _ _ _ _

end Go.Proofs.Ytigbaelbeaobpaa
