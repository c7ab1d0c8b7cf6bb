/- FnCovariants, cut: the last block: drawn places, discriminants, definite forms, contents. -/
import Derived.Test.YtambbhldhhlfgaaOpen
import Derived.Test.YtambbhldhhlfgaaDraw10
import Derived.Test.YtambbhldhhlfgaaQ3
import Derived.Test.YtambbhldhhlfgaaH
import Derived.Deep.RegionHeld3
import Derived.Deep.DeepCutAuto
namespace Go.Proofs.Ytambbhldhhlfgaa
open Go.ChangeShapes Go.WideShapes Go.ChangeAt Go.RowKit

/-- The code behind the 'if' whose test lies in slot t. -/
def hasCond (t : Nat) : Code → Bool
  | .cond (.tmp k) _ _ => k == t
  | .seq a b => hasCond t a || hasCond t b
  | .block _ c => hasCond t c
  | _ => false
def after (t : Nat) : Code → Code
  | .seq a b => if hasCond t a then b else after t b
  | .scope c => after t c
  | _ => .skip
noncomputable def cseg (t : Nat) : Code := after t (Try.f4.body.getD .skip)

set_option maxRecDepth 1000000 in
set_option maxHeartbeats 8000000 in
theorem cseg219_any (w : World) (a0 : Option Addr) (len0 cap0 : Nat) (z0 : List Int) (HR : Hid (IsRow .u8 w a0 len0 cap0 z0)) (hlen : len0 ≤ 9223372036854775807) (wc : World) (hcut : Below w.heap.size w wc) (u1 u2 u3 u4 u5 u6 u7 u8 u9 u10 u11 u12 u13 u14 u15 u16 u17 u18 u19 u20 u21 u22 u23 u24 u25 u26 u27 u28 u29 u30 u31 u32 u33 u34 u35 u36 u37 u38 u39 u40 u41 u42 u43 u44 u45 u46 u47 u48 u49 u50 u51 u52 u53 u54 u55 u56 u57 u58 u59 u60 u61 u62 u63 u64 u65 u66 u67 u68 u69 u70 u71 u72 u73 u74 u75 u76 u77 u78 u79 u80 u81 u82 u83 u84 u85 u86 u87 u88 u89 u90 u91 u92 u93 u94 u95 u96 u97 u98 u99 u100 u101 u102 u103 u104 u105 u106 u107 u108 u109 u110 u111 u112 u113 u114 u115 u116 u117 u118 u119 u120 u121 u122 u123 u124 u125 u126 u127 u128 u129 u130 u131 u132 u133 u134 u135 u136 u137 u138 u139 u140 u141 u142 u143 u144 u145 u146 u147 u148 u149 u150 u151 u152 u153 u154 u155 u156 u157 u158 u159 u160 u161 u162 u163 u164 u165 u166 u167 u168 u169 u170 u171 u172 u173 u174 u175 u176 u177 u178 u179 u180 u181 u182 u183 u184 u185 u186 u187 u188 u189 u190 u191 u192 u193 u194 u195 u196 u197 u198 u199 u200 u201 u202 u203 u204 u205 u206 u207 u208 u209 u210 u211 u212 u213 u214 u215 u216 u217 u218 u219 u220 u221 u222 u223 u224 u225 u226 u227 u228 u229 u230 u231 u232 u233 u234 u235 u236 u237 u238 u239 u240 u241 u242 u243 u244 u245 u246 u247 u248 u249 u250 u251 u252 u253 u254 u255 u256 u257 u258 u259 u260 u261 u262 u263 u264 u265 u266 u267 u268 u269 u270 u271 u272 u273 u274 u275 u276 u277 u278 u279 u280 u281 u282 u283 u284 u285 u286 u287 u288 u289 u290 u291 u292 u293 u294 u295 u296 u297 u298 u299 u300 u301 u302 u303 u304 u305 u306 u307 u308 u309 u310 u311 u312 u313 u314 u315 u316 u317 u318 u319 u320 u321 u322 u323 u324 u325 u326 u327 u328 u329 u330 u331 u332 u333 u334 u335 u336 u337 u338 u339 u340 u341 u342 u343 u344 u345 u346 : Value) :
    Code.wp Try.prog (cseg 219) (bodyPost Try.prog Try.f4 fun e w' => e = .returned (.bool true) ∧ Below w.heap.size w w') ⟨#[.slice a0 len0 cap0, u1, u2, u3, u4, u5, u6, u7, u8, u9, u10, u11, u12, u13, u14, u15, u16, u17, u18, u19, u20, u21, u22, u23, u24, u25, u26, u27, u28, u29, u30, u31, u32, u33, u34, u35, u36, u37, u38, u39, u40, u41, u42, u43, u44, u45, u46, u47, u48, u49, u50, u51, u52, u53, u54, u55, u56, u57, u58, u59, u60, u61, u62, u63, u64, u65, u66, u67, u68, u69, u70, u71, u72, u73, u74, u75, u76, u77, u78, u79, u80, u81, u82, u83, u84, u85, u86, u87, u88, u89, u90, u91, u92, u93, u94, u95, u96, u97, u98, u99, u100, u101, u102, u103, u104, u105, u106, u107, u108, u109, u110, u111, u112, u113, u114, u115, u116, u117, u118, u119, u120, u121, u122, u123, u124, u125, u126, u127, u128, u129, u130, u131, u132, u133, u134, u135, u136, u137, u138, u139, u140, u141, u142, u143, u144, u145, u146, u147, u148, u149, u150, u151, u152, u153, u154, u155, u156, u157, u158, u159, u160, u161, u162, u163, u164, u165, u166, u167, u168, u169, u170, u171, u172, u173, u174, u175, u176, u177, u178, u179, u180, u181, u182, u183, u184, u185, u186, u187, u188, u189, u190, u191, u192, u193, u194, u195, u196, u197, u198, u199, u200, u201, u202, u203, u204, u205, u206, u207, u208, u209, u210, u211, u212, u213, u214, u215, u216, u217, u218, u219, u220, u221, u222, u223, u224, u225, u226, u227, u228, u229, u230, u231, u232, u233, u234, u235, u236, u237, u238, u239, u240, u241, u242, u243, u244, u245, u246, u247, u248, u249, u250, u251, u252, u253, u254, u255, u256, u257, u258, u259, u260, u261, u262, u263, u264, u265, u266, u267, u268, u269, u270, u271, u272, u273, u274, u275, u276, u277, u278, u279, u280, u281, u282, u283, u284, u285, u286, u287, u288, u289, u290, u291, u292, u293, u294, u295, u296, u297, u298, u299, u300, u301, u302, u303, u304, u305, u306, u307, u308, u309, u310, u311, u312, u313, u314, u315, u316, u317, u318, u319, u320, u321, u322, u323, u324, u325, u326, u327, u328, u329, u330, u331, u332, u333, u334, u335, u336, u337, u338, u339, u340, u341, u342, u343, u344, u345, u346], []⟩ wc := by
  have HR2 := hid (row8_next HR.out hcut)
  conv => arg 2; whnf
  go_wp2_with fail
  refine (drawQAt_any a0 len0 cap0 z0 _ HR2.out hlen).mono ?_
  rintro e w1 ⟨p, q, r, x, y, rfl, V1⟩
  have U1 := gr_trans hcut V1
  have M2 := Arr3.new w1 p q r 49
  have U2 := gr_alloc U1 (.cells #[.int .i64 p, .int .i64 q, .int .i64 r] 49)
  clear U1 V1 hcut HR2
  have h1 := fun W => iQuadAt_any p q r x y W
  have h2 := fun W => sQuadAt_any p q r x y W
  generalize if0 (qpc p q r x y) (qv p q r x y) = v1 at h1 h2
  generalize qpc p q r x y = k1 at h1 h2
  have H1 := hid h1; have H2 := hid h2
  clear h1 h2
  go_wp2_with fail
  refine (H1.out _).mono ?_
  rintro e w3 ⟨rfl, hb3⟩
  have M3 := M2.next hb3
  have U3 := gr_trans U2 hb3
  clear M2 U2 hb3 H1
  obtain ⟨_, m0, m1, m2, _⟩ := id M3
  go_wp2_with fail
  refine (H2.out _).mono ?_
  rintro e w4 ⟨rfl, hb4⟩
  have U4 := gr_trans U3 hb4
  clear m0 m1 m2 M3 U3 hb4 H2
  have HR4 := hid (row8_next HR.out U4)
  go_wp2_with fail
  refine (drawQD_any a0 len0 cap0 z0 _ HR4.out hlen).mono ?_
  rintro e w5 ⟨p5, q5, r5, rfl, V5⟩
  have M6 := Arr3.new w5 p5 q5 r5 49
  have U6 := gr_alloc (gr_trans U4 V5) (.cells #[.int .i64 p5, .int .i64 q5, .int .i64 r5] 49)
  clear U4 V5 HR4
  have h1 := fun W => iQDisc_any p5 q5 r5 W
  have h2 := fun W => sQDisc_any p5 q5 r5 W
  generalize if0 (qcd p5 q5 r5) (dq p5 q5 r5) = v5 at h1 h2
  generalize qcd p5 q5 r5 = k5 at h1 h2
  have H1 := hid h1; have H2 := hid h2
  clear h1 h2
  go_wp2_with fail
  refine (H1.out _).mono ?_
  rintro e w7 ⟨rfl, hb7⟩
  have M7 := M6.next hb7
  have U7 := gr_trans U6 hb7
  clear M6 U6 hb7 H1
  obtain ⟨_, m0, m1, m2, _⟩ := id M7
  go_wp2_with fail
  refine (H2.out _).mono ?_
  rintro e w8 ⟨rfl, hb8⟩
  have U8 := gr_trans U7 hb8
  clear m0 m1 m2 M7 U7 hb8 H2
  have HR8 := hid (row8_next HR.out U8)
  go_wp2_with fail
  refine (drawDf_any a0 len0 cap0 z0 _ HR8.out hlen).mono ?_
  rintro e w9 ⟨p9, q9, r9, rfl, V9⟩
  have M10 := Arr3.new w9 p9 q9 r9 49
  have U10 := gr_alloc (gr_trans U8 V9) (.cells #[.int .i64 p9, .int .i64 q9, .int .i64 r9] 49)
  clear U8 V9 HR8
  have h1 := fun W => iDefinite_any p9 q9 r9 W
  have h2 := fun W => sDefinite_any p9 q9 r9 W
  generalize dfn p9 q9 r9 = v9 at h1 h2
  generalize qcd p9 q9 r9 = k9 at h1 h2
  have H1 := hid h1; have H2 := hid h2
  clear h1 h2
  go_wp2_with fail
  refine (H1.out _).mono ?_
  rintro e w11 ⟨rfl, hb11⟩
  have M11 := M10.next hb11
  have U11 := gr_trans U10 hb11
  clear M10 U10 hb11 H1
  obtain ⟨_, m0, m1, m2, _⟩ := id M11
  go_wp2_with fail
  refine (H2.out _).mono ?_
  rintro e w12 ⟨rfl, hb12⟩
  have U12 := gr_trans U11 hb12
  clear m0 m1 m2 M11 U11 hb12 H2
  have HR12 := hid (row8_next HR.out U12)
  go_wp2_with fail
  refine (drawHC_any a0 len0 cap0 z0 _ HR12.out hlen).mono ?_
  rintro e w13 ⟨p13, q13, r13, s13, rfl, V13⟩
  have M14 := Arr.new w13 p13 q13 r13 s13 25
  have U14 := gr_alloc (gr_trans U12 V13) (.cells #[.int .i64 p13, .int .i64 q13, .int .i64 r13, .int .i64 s13] 25)
  clear U12 V13 HR12
  have h1 := fun W => iHessCont_any p13 q13 r13 s13 W
  have h2 := fun W => sHessCont_any p13 q13 r13 s13 W
  generalize hcn p13 q13 r13 s13 = v13 at h1 h2
  generalize cif p13 q13 r13 s13 = k13 at h1 h2
  have H1 := hid h1; have H2 := hid h2
  clear h1 h2
  go_wp2_with fail
  refine (H1.out _).mono ?_
  rintro e w15 ⟨rfl, hb15⟩
  have M15 := M14.next hb15
  have U15 := gr_trans U14 hb15
  clear M14 U14 hb15 H1
  obtain ⟨_, m0, m1, m2, m3, _⟩ := id M15
  go_wp2_with fail
  refine (H2.out _).mono ?_
  rintro e w16 ⟨rfl, hb16⟩
  have U16 := gr_trans U15 hb16
  clear m0 m1 m2 m3 M15 U15 hb16 H2
  go_wp2
  go_ret
  exact ⟨by simp, U16⟩

end Go.Proofs.Ytambbhldhhlfgaa
