/- FnKinds, cut: the last block: roots, counts of kinds. -/
import Derived.Test.YtambbhldhhlfgaaDoorFkZ9
import Derived.Test.YtambbhldhhlfgaaDoorFkDraw13
import Derived.Test.YtambbhldhhlfgaaDoorFkZ19
import Derived.Test.YtambbhldhhlfgaaDoorFkFj3
import Derived.Test.YtambbhldhhlfgaaDoorFkPk3
import Derived.Deep.DeepCutAuto
namespace Go.Proofs.YtambbhldhhlfgaaDoor
open Go.ChangeShapes Go.WideShapes Go.ChangeAt Go.RowKit

/-- The code behind the 'if' whose test lies in slot t. -/
def hasCond (t : Nat) : Code → Bool
  | .cond (.tmp k) _ _ => k == t
  | .seq a b => hasCond t a || hasCond t b
  | .block _ c => hasCond t c
  | _ => false
def after (t : Nat) : Code → Code
  | .seq a b => if hasCond t a then b else after t b
  | .scope c => after t c
  | _ => .skip
noncomputable def kseg (t : Nat) : Code := after t (Tryd.f6.body.getD .skip)

set_option maxRecDepth 1000000 in
set_option maxHeartbeats 8000000 in
theorem kseg278_any (w : World) (a0 : Option Addr) (len0 cap0 : Nat) (z0 : List Int) (HR : Hid (IsRow .u8 w a0 len0 cap0 z0)) (hlen : len0 ≤ 9223372036854775807) (pv : Value) (wc : World) (hcut : Below w.heap.size w wc) (hG : Sen wc pv) (u1 u2 u3 u4 u5 u6 u7 u8 u9 u10 u11 u12 u13 u14 u15 u16 u17 u18 u19 u20 u21 u22 u23 u24 u25 u26 u27 u28 u29 u30 u31 u32 u33 u34 u35 u36 u37 u38 u39 u40 u41 u42 u43 u44 u45 u46 u47 u48 u49 u50 u51 u52 u53 u54 u55 u56 u57 u58 u59 u60 u61 u62 u63 u64 u65 u66 u67 u68 u69 u70 u71 u72 u73 u74 u75 u76 u77 u78 u79 u80 u81 u82 u83 u84 u85 u86 u87 u88 u89 u90 u91 u92 u93 u94 u95 u96 u97 u98 u99 u100 u101 u102 u103 u104 u105 u106 u107 u108 u109 u110 u111 u112 u113 u114 u115 u116 u117 u118 u119 u120 u121 u122 u123 u124 u125 u126 u127 u128 u129 u130 u131 u132 u133 u134 u135 u136 u137 u138 u139 u140 u141 u142 u143 u144 u145 u146 u147 u148 u149 u150 u151 u152 u153 u154 u155 u156 u157 u158 u159 u160 u161 u162 u163 u164 u165 u166 u167 u168 u169 u170 u171 u172 u173 u174 u175 u176 u177 u178 u179 u180 u181 u182 u183 u184 u185 u186 u187 u188 u189 u190 u191 u192 u193 u194 u195 u196 u197 u198 u199 u200 u201 u202 u203 u204 u205 u206 u207 u208 u209 u210 u211 u212 u213 u214 u215 u216 u217 u218 u219 u220 u221 u222 u223 u224 u225 u226 u227 u228 u229 u230 u231 u232 u233 u234 u235 u236 u237 u238 u239 u240 u241 u242 u243 u244 u245 u246 u247 u248 u249 u250 u251 u252 u253 u254 u255 u256 u257 u258 u259 u260 u261 u262 u263 u264 u265 u266 u267 u268 u269 u270 u271 u272 u273 u274 u275 u276 u277 u278 u279 u280 u281 u282 u283 u284 u285 u286 u287 u288 u289 u290 u291 u292 u293 u294 u295 u296 u297 u298 u299 u300 u301 u302 u303 u304 u305 u306 u307 u308 u309 u310 u311 u312 u313 u314 u315 u316 u317 u318 u319 u320 u321 u322 u323 u324 u325 u326 u327 u328 u329 u330 : Value) :
    Code.wp Tryd.prog (kseg 278) (bodyPost Tryd.prog Tryd.f6 fun e w' => e = .returned (.bool true) ∧ Below w.heap.size w w') ⟨#[.slice a0 len0 cap0, u1, u2, u3, u4, u5, u6, u7, u8, u9, u10, u11, u12, u13, u14, u15, u16, u17, u18, u19, u20, u21, u22, u23, u24, u25, u26, u27, u28, u29, u30, u31, u32, u33, u34, u35, u36, u37, u38, u39, u40, u41, u42, u43, u44, u45, u46, u47, u48, u49, u50, u51, u52, u53, u54, u55, u56, u57, u58, u59, u60, u61, u62, u63, u64, u65, u66, u67, u68, u69, u70, u71, u72, u73, u74, u75, u76, u77, u78, u79, u80, u81, u82, u83, u84, u85, u86, u87, u88, u89, u90, u91, u92, u93, u94, u95, u96, u97, u98, u99, u100, u101, u102, u103, u104, u105, u106, u107, u108, u109, u110, u111, u112, u113, u114, u115, u116, u117, u118, u119, u120, u121, u122, u123, u124, u125, u126, u127, u128, u129, u130, u131, u132, u133, u134, u135, u136, u137, u138, u139, u140, u141, u142, u143, u144, u145, u146, u147, u148, u149, u150, u151, u152, u153, u154, u155, u156, u157, u158, u159, u160, u161, u162, u163, u164, u165, u166, u167, u168, u169, u170, u171, u172, u173, u174, u175, u176, u177, u178, u179, u180, u181, u182, u183, u184, u185, u186, u187, u188, u189, u190, u191, u192, u193, u194, u195, u196, u197, u198, u199, u200, u201, u202, u203, u204, u205, u206, u207, u208, u209, u210, u211, u212, u213, u214, u215, u216, u217, u218, u219, u220, u221, u222, u223, u224, u225, u226, u227, u228, u229, u230, u231, u232, u233, u234, u235, u236, u237, u238, u239, u240, u241, u242, u243, u244, u245, u246, u247, u248, u249, u250, u251, u252, u253, u254, u255, u256, u257, u258, u259, u260, u261, u262, u263, u264, u265, u266, u267, u268, u269, u270, u271, u272, u273, u274, u275, u276, u277, u278, u279, u280, u281, u282, u283, u284, u285, u286, u287, u288, u289, u290, u291, u292, u293, u294, u295, u296, u297, u298, u299, u300, u301, u302, u303, u304, u305, u306, u307, u308, u309, u310, u311, u312, u313, u314, u315, u316, u317, u318, u319, u320, u321, u322, u323, u324, u325, u326, u327, u328, u329, u330], []⟩ wc := by
  have HR2 := hid (row8_next HR.out hcut)
  conv => arg 2; whnf
  go_wp2_with fail
  refine (drawRM_any a0 len0 cap0 z0 _ HR2.out hlen).mono ?_
  rintro e w1 ⟨p, q, r, s, m, rfl, V1⟩
  have M2 := Arr.new w1 p q r s 25
  have U2 := gr_alloc (gr_trans hcut V1) (.cells #[.int .i64 p, .int .i64 q, .int .i64 r, .int .i64 s] 25)
  have G2 := (hG.next V1).alloc (.cells #[.int .i64 p, .int .i64 q, .int .i64 r, .int .i64 s] 25)
  have h1 := fun W hg => iRootsModulo_any p q r s m pv W hg
  have h2 := fun W => sRootsModulo_any p q r s m W
  unfold RwOutC at h1 h2
  generalize (if rmc p q r s m = 0 then (rtp p q r s m).map rw3 else []) = R at h1 h2
  generalize rmc p q r s m = kk at h1 h2
  have H1 := hid h1; have H2 := hid h2
  clear h1 h2 hcut hG V1 HR2
  obtain ⟨_, m0, m1, m2, m3, _⟩ := id M2
  go_wp2_with fail
  refine (H1.out _ G2).mono ?_
  rintro e w3 ⟨va, rfl, hA, hb3⟩
  clear m0 m1 m2 m3
  have M3 := M2.next hb3
  have U3 := gr_trans U2 hb3
  obtain ⟨TA, A3⟩ := hA.toC
  clear M2 U2 G2 hb3 H1 hA
  obtain ⟨_, m0, m1, m2, m3, _⟩ := id M3
  go_wp2_with fail
  refine (H2.out _).mono ?_
  rintro e w4 ⟨vb, rfl, hB, hb4⟩
  have U4 := gr_trans U3 hb4
  have A4 := A3.next hb4
  obtain ⟨TB, B4⟩ := hB.toC
  clear m0 m1 m2 m3 M3 U3 A3 hb4 H2 hB
  have HA4 := hid A4; have HB4 := hid B4
  clear A4 B4
  have HR4 := hid (row8_next HR.out U4)
  go_wp2_with fail
  refine (drawCK_any a0 len0 cap0 z0 _ HR4.out hlen).mono ?_
  rintro e w5 ⟨x, y, rfl, hb5⟩
  have U5 := gr_trans U4 hb5
  have HA5 := hid (HA4.out.next hb5); have HB5 := hid (HB4.out.next hb5)
  clear U4 HA4 HB4 hb5 HR4
  have h3 := fun W => iCountKind_any x y W
  have h4 := fun W => sCountKind_any x y W
  generalize ck0 x y = c1 at h3 h4
  generalize ckc x y = c2 at h3 h4
  have H3 := hid h3; have H4 := hid h4
  clear h3 h4
  go_wp2_with fail
  refine (H3.out _).mono ?_
  rintro e w6 ⟨rfl, hb6⟩
  have U6 := gr_trans U5 hb6
  have HA6 := hid (HA5.out.next hb6); have HB6 := hid (HB5.out.next hb6)
  clear U5 HA5 HB5 hb6 H3
  go_wp2_with fail
  refine (H4.out _).mono ?_
  rintro e w7 ⟨rfl, hb7⟩
  have U7 := gr_trans U6 hb7
  have HA7 := hid (HA6.out.next hb7); have HB7 := hid (HB6.out.next hb7)
  clear U6 HA6 HB6 hb7 H4
  go_wp2_with fail
  refine (rows5_any _ _ _ _ va vb 3 _ _ TA TB _ (by omega) HA7.out HB7.out).mono ?_
  rintro e w8 ⟨rfl, hb8⟩
  have U8 := gr_trans U7 hb8
  clear U7 HA7 HB7 hb8
  go_wp2_with fail
  go_ret
  exact ⟨rfl, U8⟩

end Go.Proofs.YtambbhldhhlfgaaDoor
