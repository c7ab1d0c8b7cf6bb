/- FnRaised, cut: the second form: lowered. -/
import Derived.Test.YtambbhldhhlfgaaDoorRs6
namespace Go.Proofs.YtambbhldhhlfgaaDoor
open Go.ChangeShapes Go.WideShapes Go.ChangeAt Go.RowKit

set_option maxRecDepth 1000000 in
set_option maxHeartbeats 8000000 in
theorem rseg77_any (w : World) (a0 : Option Addr) (len0 cap0 : Nat) (z0 : List Int) (HR : Hid (IsRow .u8 w a0 len0 cap0 z0)) (hlen : len0 ≤ 9223372036854775807) (pv : Value) (HG : Hid (Sen w pv)) (wc : World) (hcut : Below w.heap.size w wc) (jf jr : Nat) (a b c d p r K P0 P1 P2 P3 : Int) (hF : Hid (RaB wc jf jr a b c d P0 P1 P2 P3)) (qF : Hid (RaQ a b c d p r K P0 P1 P2 P3)) (u1 u2 u5 u8 u9 u10 u11 u12 u13 u14 u15 u16 u17 u18 u19 u20 u21 u22 u23 u24 u25 u26 u27 u28 u29 u30 u31 u32 u33 u34 u35 u36 u37 u38 u39 u40 u41 u42 u43 u44 u45 u46 u47 u48 u49 u50 u51 u52 u53 u54 u55 u56 u57 u58 u59 u60 u61 u62 u63 u64 u65 u66 u67 u68 u69 u70 u71 u72 u73 u74 u75 u76 u77 u78 u79 u80 u81 u82 u83 u84 u85 u86 u87 u88 u89 u90 u91 u92 u93 u94 u95 u96 u97 u98 u99 u100 u101 u102 u103 u104 u105 u106 u107 u108 u109 u110 u111 u112 u113 u114 u115 u116 u117 u118 u119 u120 u121 u122 u123 u124 u125 u126 u127 u128 u129 u130 u131 u132 u133 u134 u135 u136 u137 u138 u139 u140 u141 u142 u143 u144 u145 u146 u147 u148 u149 u150 u151 u152 u153 u154 u155 u156 u157 u158 u159 u160 u161 u162 u163 u164 u165 u166 u167 u168 u169 u170 u171 u172 u173 u174 u175 u176 u177 u178 u179 u180 u181 u182 u183 u184 u185 u186 u187 u188 u189 u190 u191 u192 u193 u194 u195 u196 u197 u198 u199 u200 u201 u202 u203 u204 u205 u206 u207 u208 u209 u210 u211 u212 u213 u214 u215 u216 u217 u218 u219 u220 u221 u222 u223 u224 u225 u226 u227 u228 u229 u230 u231 u232 u233 u234 u235 u236 u237 u238 u239 u240 u241 u242 u243 u244 u245 u246 u247 u248 u249 u250 u251 u252 u253 u254 u255 u256 u257 u258 u259 u260 u261 u262 u263 u264 u265 u266 u267 u268 u269 u270 u271 u272 u273 u274 u275 u276 u277 u278 u279 u280 u281 u282 u283 u284 u285 u286 u287 u288 u289 u290 u291 u292 u293 u294 u295 u296 u297 u298 u299 u300 u301 u302 u303 u304 u305 u306 u307 u308 u309 : Value) :
    Code.wp Tryd.prog (rseg 77) (bodyPost Tryd.prog Tryd.f3 fun e w' => e = .returned (.bool true) ∧ Below w.heap.size w w') ⟨#[.slice a0 len0 cap0, u1, u2, .pointer (some ⟨jf, 0, none⟩), .int .i64 p, u5, .pointer (some ⟨jr, 0, none⟩), .int .i64 K, u8, u9, u10, u11, u12, u13, u14, u15, u16, u17, u18, u19, u20, u21, u22, u23, u24, u25, u26, u27, u28, u29, u30, u31, u32, u33, u34, u35, u36, u37, u38, u39, u40, u41, u42, u43, u44, u45, u46, u47, u48, u49, u50, u51, u52, u53, u54, u55, u56, u57, u58, u59, u60, u61, u62, u63, u64, u65, u66, u67, u68, u69, u70, u71, u72, u73, u74, u75, u76, u77, u78, u79, u80, u81, u82, u83, u84, u85, u86, u87, u88, u89, u90, u91, u92, u93, u94, u95, u96, u97, u98, u99, u100, u101, u102, u103, u104, u105, u106, u107, u108, u109, u110, u111, u112, u113, u114, u115, u116, u117, u118, u119, u120, u121, u122, u123, u124, u125, u126, u127, u128, u129, u130, u131, u132, u133, u134, u135, u136, u137, u138, u139, u140, u141, u142, u143, u144, u145, u146, u147, u148, u149, u150, u151, u152, u153, u154, u155, u156, u157, u158, u159, u160, u161, u162, u163, u164, u165, u166, u167, u168, u169, u170, u171, u172, u173, u174, u175, u176, u177, u178, u179, u180, u181, u182, u183, u184, u185, u186, u187, u188, u189, u190, u191, u192, u193, u194, u195, u196, u197, u198, u199, u200, u201, u202, u203, u204, u205, u206, u207, u208, u209, u210, u211, u212, u213, u214, u215, u216, u217, u218, u219, u220, u221, u222, u223, u224, u225, u226, u227, u228, u229, u230, u231, u232, u233, u234, u235, u236, u237, u238, u239, u240, u241, u242, u243, u244, u245, u246, u247, u248, u249, u250, u251, u252, u253, u254, u255, u256, u257, u258, u259, u260, u261, u262, u263, u264, u265, u266, u267, u268, u269, u270, u271, u272, u273, u274, u275, u276, u277, u278, u279, u280, u281, u282, u283, u284, u285, u286, u287, u288, u289, u290, u291, u292, u293, u294, u295, u296, u297, u298, u299, u300, u301, u302, u303, u304, u305, u306, u307, u308, u309], []⟩ wc := by
  conv => arg 2; whnf
  have heq := eqForm_run
  have HR2 := hid (row8_next HR.out hcut)
  have SF0 := hF
  clear hF
  go_wp2_with fail
  refine (drawLoF_any a0 len0 cap0 z0 _ HR2.out hlen).mono ?_
  rintro e w1 ⟨a2, b2, c2, d2, q, r2, rfl, V1⟩
  obtain ⟨K2, hK⟩ : ∃ k, k = lfc a2 b2 c2 d2 q r2 := ⟨_, rfl⟩
  obtain ⟨L0, hL0⟩ : ∃ k, k = if0 K2 (loA a2 b2 c2 d2 q r2) := ⟨_, rfl⟩
  obtain ⟨L1, hL1⟩ : ∃ k, k = if0 K2 (loB a2 b2 c2 d2 q r2) := ⟨_, rfl⟩
  obtain ⟨L2, hL2⟩ : ∃ k, k = if0 K2 (loC a2 b2 c2 d2 q r2) := ⟨_, rfl⟩
  obtain ⟨L3, hL3⟩ : ∃ k, k = if0 K2 (loD a2 b2 c2 d2 q r2) := ⟨_, rfl⟩
  have QQ : Hid (LoQ a2 b2 c2 d2 q r2 K2 L0 L1 L2 L3) := hid ⟨hK, hL0, hL1, hL2, hL3⟩
  clear hK hL0 hL1 hL2 hL3
  have F2 := Arr.new w1 a2 b2 c2 d2 25
  have ha1 := gr_alloc (Below.refl w1.heap.size w1) (.cells #[.int .i64 a2, .int .i64 b2, .int .i64 c2, .int .i64 d2] 25)
  have SF2 := hid ((SF0.out.next V1).next ha1)
  have U2 := gr_trans (gr_trans hcut V1) ha1
  clear V1 ha1 SF0 hcut HR2
  go_upto_region 9 with fail
  obtain ⟨jh, hjh⟩ : ∃ j, j = w1.heap.size := ⟨_, rfl⟩
  rw [← hjh] at F2
  rw [← hjh]
  generalize w1.alloc (.cells #[.int .i64 a2, .int .i64 b2, .int .i64 c2, .int .i64 d2] 25) = W2 at F2 SF2 U2 ⊢
  clear hjh
  obtain ⟨_, f0, f1, f2, f3, _⟩ := id F2
  go_wp2_with fail
  refine (QQ.out.i _).mono ?_
  rintro e w3 ⟨rfl, hb3⟩
  have ha3 := gr_alloc (Below.refl w3.heap.size w3) (.cells #[.int .i64 L0, .int .i64 L1, .int .i64 L2, .int .i64 L3] 25)
  have R4 := Arr.new w3 L0 L1 L2 L3 25
  have F4 := (F2.next hb3).next ha3
  have SF4 := hid ((SF2.out.next hb3).next ha3)
  have U4 := gr_trans (gr_trans U2 hb3) ha3
  clear F2 SF2 U2 hb3 ha3 f0 f1 f2 f3
  go_upto_region 10 with fail
  obtain ⟨j4, hj4⟩ : ∃ j, j = w3.heap.size := ⟨_, rfl⟩
  rw [← hj4] at R4
  rw [← hj4]
  generalize w3.alloc (.cells #[.int .i64 L0, .int .i64 L1, .int .i64 L2, .int .i64 L3] 25) = W4 at R4 F4 SF4 U4 ⊢
  clear hj4
  obtain ⟨_, f0, f1, f2, f3, _⟩ := id F4
  go_wp2_with fail
  refine (QQ.out.s _).mono ?_
  rintro e w5 ⟨rfl, hb5⟩
  have ha5 := gr_alloc (Below.refl w5.heap.size w5) (.cells #[.int .i64 L0, .int .i64 L1, .int .i64 L2, .int .i64 L3] 25)
  have X6 := Arr.new w5 L0 L1 L2 L3 25
  have R6 := (R4.next hb5).next ha5
  have F6 := (F4.next hb5).next ha5
  have SF6 := hid ((SF4.out.next hb5).next ha5)
  have U6 := gr_trans (gr_trans U4 hb5) ha5
  clear F4 SF4 U4 hb5 ha5 f0 f1 f2 f3 R4
  go_upto_region 11 with fail
  obtain ⟨j6, hj6⟩ : ∃ j, j = w5.heap.size := ⟨_, rfl⟩
  rw [← hj6] at X6
  rw [← hj6]
  generalize w5.alloc (.cells #[.int .i64 L0, .int .i64 L1, .int .i64 L2, .int .i64 L3] 25) = W6 at X6 R6 F6 SF6 U6 ⊢
  clear hj6
  have D6 : RaB W6 jh j4 a2 b2 c2 d2 L0 L1 L2 L3 := ⟨F6, R6⟩
  have er := eqF_rf L0 L1 L2 L3
  obtain ⟨_, x0, x1, x2, x3, _⟩ := id X6
  obtain ⟨_, y0, y1, y2, y3, _⟩ := id R6
  go_upto_if 105 with (fail)
  go_cut [] (fun wx => Below w.heap.size w wx ∧ RaB wx jf jr a b c d P0 P1 P2 P3 ∧ RaB wx jh j4 a2 b2 c2 d2 L0 L1 L2 L3)
  case first =>
    go_wp2_with fail
    go_meet
    exact ⟨U6, SF6.out, D6⟩
  case rest =>
    obtain ⟨U, S, S3⟩ := hcut
    go_step
    exact rseg105_any w a0 len0 cap0 z0 HR hlen pv HG _ U jf jr a b c d p r K P0 P1 P2 P3 (hid S) qF jh j4 a2 b2 c2 d2 q r2 K2 L0 L1 L2 L3 (hid S3) QQ _ _ _ _ _ _ _ _ _ _ _ _ _ _ _ _ _ _ _ _ _ _ _ _ _ _ _ _ _ _ _ _ _ _ _ _ _ _ _ _ _ _ _ _ _ _ _ _ _ _ _ _ _ _ _ _ _ _ _ _ _ _ _ _ _ _ _ _ _ _ _ _ _ _ _ _ _ _ _ _ _ _ _ _ _ _ _ _ _ _ _ _ _ _ _ _ _ _ _ _ _ _ _ _ _ _ _ _ _ _ _ _ _ _ _ _ _ _ _ _ _ _ _ _ _ _ _ _ _ _ _ _ _ _ _ _ _ _ _ _ _ _ _ _ _ _ _ _ _ _ _ _ _ _ _ _ _ _ _ _ _ _ _ _ _ _ _ _ _ _ _ _ _ _ _ _ _ _ _ _ _ _ _ _ _ _ _ _ _ _ _ _ _ _ _ _ _ _ _ _ _ _ _ _ _ _ _ _ _ _ _ _ _ _ _ _ _ _ _ _ _ _ _ _ _ _ _ _ _ _ _ _ _ _ _ _ _ _ _ _ _ _ _ _ _ _ _ _ _ _ _ _ _ _ _ _ _ _ _ _ _ _ _ _ _ _ _ _ _ _ _ _ _ _ _ _ _ _ _ _ _ _ _ _ _ _ _ _ _ _ _ _ _ _ _ _ _ _ _ _ _

end Go.Proofs.YtambbhldhhlfgaaDoor
