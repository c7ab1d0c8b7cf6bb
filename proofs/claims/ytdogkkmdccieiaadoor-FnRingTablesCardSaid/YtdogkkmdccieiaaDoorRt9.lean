/- FnRingTables, cut: an inverse, twice. -/
import Derived.Test.YtdogkkmdccieiaaDoorRt8
namespace Go.Proofs.YtdogkkmdccieiaaDoor
open Go.ChangeShapes Go.WideShapes Go.ChangeAt Go.RowKit

set_option maxRecDepth 1000000 in
set_option maxHeartbeats 8000000 in
theorem tseg73_any (w : World) (a0 : Option Addr) (len0 cap0 : Nat) (z0 : List Int) (HR : Hid (IsRow .u8 w a0 len0 cap0 z0)) (hlen : len0 ≤ 9223372036854775807) (pv : Value) (hg : Hid (SenU w pv)) (wc : World) (hcut : Below w.heap.size w wc) (jf jx : Nat) (a b c d u v x n1 K1 : Int) (hA : Hid (RtZ wc jf jx a b c d u v x)) (hV : Hid (RtV a b c d u v x n1 K1)) (u1 u2 u7 u8 u9 u10 u11 u12 u13 u14 u15 u16 u17 u18 u19 u20 u21 u22 u23 u24 u25 u26 u27 u28 u29 u30 u31 u32 u33 u34 u35 u36 u37 u38 u39 u40 u41 u42 u43 u44 u45 u46 u47 u48 u49 u50 u51 u52 u53 u54 u55 u56 u57 u58 u59 u60 u61 u62 u63 u64 u65 u66 u67 u68 u69 u70 u71 u72 u73 u74 u75 u76 u77 u78 u79 u80 u81 u82 u83 u84 u85 u86 u87 u88 u89 u90 u91 u92 u93 u94 u95 u96 u97 u98 u99 u100 u101 u102 u103 u104 u105 u106 u107 u108 u109 u110 u111 u112 u113 u114 u115 u116 u117 u118 u119 u120 u121 u122 u123 u124 u125 u126 u127 u128 u129 u130 u131 u132 u133 u134 u135 u136 u137 u138 u139 u140 u141 u142 u143 u144 u145 u146 u147 u148 u149 u150 u151 u152 u153 u154 u155 u156 u157 u158 u159 u160 u161 u162 u163 u164 u165 u166 u167 u168 u169 u170 u171 u172 u173 u174 u175 u176 u177 u178 u179 u180 u181 u182 u183 u184 u185 u186 u187 u188 u189 u190 u191 u192 u193 u194 u195 u196 u197 u198 u199 u200 u201 u202 u203 u204 u205 u206 u207 u208 u209 u210 u211 u212 u213 u214 u215 u216 u217 u218 u219 u220 u221 u222 u223 u224 u225 u226 u227 u228 u229 u230 u231 u232 u233 u234 u235 u236 u237 u238 u239 u240 u241 u242 u243 u244 u245 u246 u247 u248 u249 u250 u251 u252 u253 u254 u255 u256 u257 u258 u259 u260 u261 u262 u263 u264 u265 u266 u267 u268 u269 u270 u271 u272 u273 u274 u275 u276 u277 u278 u279 u280 u281 u282 u283 u284 u285 u286 u287 u288 u289 u290 u291 u292 u293 u294 u295 u296 u297 u298 u299 u300 u301 u302 u303 u304 : Value) :
    Code.wp Tryd.prog (tseg 73) (bodyPost Tryd.prog Tryd.f3 fun e w' => e = .returned (.bool true) ∧ Below w.heap.size w w') ⟨#[.slice a0 len0 cap0, u1, u2, .pointer (some ⟨jf, 0, none⟩), .pointer (some ⟨jx, 0, none⟩), .int .i64 n1, .int .i64 K1, u7, u8, u9, u10, u11, u12, u13, u14, u15, u16, u17, u18, u19, u20, u21, u22, u23, u24, u25, u26, u27, u28, u29, u30, u31, u32, u33, u34, u35, u36, u37, u38, u39, u40, u41, u42, u43, u44, u45, u46, u47, u48, u49, u50, u51, u52, u53, u54, u55, u56, u57, u58, u59, u60, u61, u62, u63, u64, u65, u66, u67, u68, u69, u70, u71, u72, u73, u74, u75, u76, u77, u78, u79, u80, u81, u82, u83, u84, u85, u86, u87, u88, u89, u90, u91, u92, u93, u94, u95, u96, u97, u98, u99, u100, u101, u102, u103, u104, u105, u106, u107, u108, u109, u110, u111, u112, u113, u114, u115, u116, u117, u118, u119, u120, u121, u122, u123, u124, u125, u126, u127, u128, u129, u130, u131, u132, u133, u134, u135, u136, u137, u138, u139, u140, u141, u142, u143, u144, u145, u146, u147, u148, u149, u150, u151, u152, u153, u154, u155, u156, u157, u158, u159, u160, u161, u162, u163, u164, u165, u166, u167, u168, u169, u170, u171, u172, u173, u174, u175, u176, u177, u178, u179, u180, u181, u182, u183, u184, u185, u186, u187, u188, u189, u190, u191, u192, u193, u194, u195, u196, u197, u198, u199, u200, u201, u202, u203, u204, u205, u206, u207, u208, u209, u210, u211, u212, u213, u214, u215, u216, u217, u218, u219, u220, u221, u222, u223, u224, u225, u226, u227, u228, u229, u230, u231, u232, u233, u234, u235, u236, u237, u238, u239, u240, u241, u242, u243, u244, u245, u246, u247, u248, u249, u250, u251, u252, u253, u254, u255, u256, u257, u258, u259, u260, u261, u262, u263, u264, u265, u266, u267, u268, u269, u270, u271, u272, u273, u274, u275, u276, u277, u278, u279, u280, u281, u282, u283, u284, u285, u286, u287, u288, u289, u290, u291, u292, u293, u294, u295, u296, u297, u298, u299, u300, u301, u302, u303, u304], []⟩ wc := by
  conv => arg 2; whnf
  have heq := heqE
  have HR2 := hid (row8_next HR.out hcut)
  have HG0 := hid (hg.out.next hcut)
  have S0 := hA
  clear hA
  go_wp2_with fail
  refine (drawIv_any a0 len0 cap0 z0 _ HR2.out hlen).mono ?_
  rintro e' w1 ⟨p, q, r, s, y0, y1, y2, rfl, hb1⟩
  have ha1 := gr_alloc (gr_alloc hb1 (.cells #[.int .i64 p, .int .i64 q, .int .i64 r, .int .i64 s] 25)) (.cells #[.int .i64 y0, .int .i64 y1, .int .i64 y2] 27)
  have F1 := (Arr.new w1 p q r s 25).alloc (.cells #[.int .i64 y0, .int .i64 y1, .int .i64 y2] 27)
  have X1 := Arr3.new (w1.alloc (.cells #[.int .i64 p, .int .i64 q, .int .i64 r, .int .i64 s] 25)) y0 y1 y2 27
  simp only [World.size_alloc] at X1
  have S1 := hid (S0.out.next ha1); have HG1 := hid (HG0.out.next ha1)
  have U1 := gr_trans hcut ha1
  clear S0 HG0 hcut hb1 ha1 HR2
  go_upto_region 9 with fail
  obtain ⟨j1, hj1⟩ : ∃ j, j = w1.heap.size := ⟨_, rfl⟩
  rw [← hj1] at F1 X1
  rw [← hj1]
  generalize (w1.alloc (.cells #[.int .i64 p, .int .i64 q, .int .i64 r, .int .i64 s] 25)).alloc (.cells #[.int .i64 y0, .int .i64 y1, .int .i64 y2] 27) = W1 at F1 X1 S1 HG1 U1 ⊢
  clear hj1
  have P1 : RtZ W1 j1 (j1 + 1) p q r s y0 y1 y2 := ⟨F1, X1⟩
  clear F1 X1
  have hx := fun W h => iInverseElem_any p q r s y0 y1 y2 pv W h
  have hy := fun W => sInverseElem_any p q r s y0 y1 y2 W
  have ht := RtI.mk' p q r s y0 y1 y2
  generalize if0 (ivc p q r s y0 y1 y2) (iv0 p q r s y0 y1 y2) = i0 at hx hy ht
  generalize if0 (ivc p q r s y0 y1 y2) (iv1 p q r s y0 y1 y2) = i1 at hx hy ht
  generalize if0 (ivc p q r s y0 y1 y2) (iv2 p q r s y0 y1 y2) = i2 at hx hy ht
  generalize ivc p q r s y0 y1 y2 = K2 at hx hy ht
  have HX := hid hx; have HY := hid hy; have HT := hid ht
  clear hx hy ht
  obtain ⟨⟨_, f0, f1, f2, f3, _⟩, ⟨_, x0, x1, x2, _⟩⟩ := id P1
  go_wp2_with fail
  refine (HX.out _ HG1.out).mono ?_
  rintro e' w2 ⟨rfl, hb2⟩
  have ha2 := gr_alloc hb2 (.cells #[.int .i64 i0, .int .i64 i1, .int .i64 i2] 27)
  have I2 := Arr3.new w2 i0 i1 i2 27
  have S2 := hid (S1.out.next ha2)
  have P2 := P1.next ha2
  have U2 := gr_trans U1 ha2
  clear S1 HG1 P1 U1 hb2 ha2 HX f0 f1 f2 f3 x0 x1 x2
  go_upto_region 10 with fail
  obtain ⟨ji, hji⟩ : ∃ j, j = w2.heap.size := ⟨_, rfl⟩
  rw [← hji] at I2
  rw [← hji]
  generalize w2.alloc (.cells #[.int .i64 i0, .int .i64 i1, .int .i64 i2] 27) = W2 at I2 S2 P2 U2 ⊢
  clear hji
  obtain ⟨⟨_, f0, f1, f2, f3, _⟩, ⟨_, x0, x1, x2, _⟩⟩ := id P2
  go_wp2_with fail
  refine (HY.out _).mono ?_
  rintro e' w3 ⟨rfl, hb3⟩
  have ha3 := gr_alloc hb3 (.cells #[.int .i64 i0, .int .i64 i1, .int .i64 i2] 27)
  have J3 := Arr3.new w3 i0 i1 i2 27
  have I3 := I2.next ha3
  have S3 := hid (S2.out.next ha3)
  have P3 := P2.next ha3
  have U3 := gr_trans U2 ha3
  clear S2 P2 U2 I2 hb3 ha3 HY f0 f1 f2 f3 x0 x1 x2
  go_upto_region 11 with fail
  obtain ⟨jj, hjj⟩ : ∃ j, j = w3.heap.size := ⟨_, rfl⟩
  rw [← hjj] at J3
  rw [← hjj]
  generalize w3.alloc (.cells #[.int .i64 i0, .int .i64 i1, .int .i64 i2] 27) = W3 at I3 J3 S3 P3 U3 ⊢
  clear hjj
  have Y3 : RtY W3 j1 (j1 + 1) ji p q r s y0 y1 y2 i0 i1 i2 := ⟨P3.F, P3.Z, I3⟩
  have er := eq3_self i0 i1 i2
  obtain ⟨_, b0, b1, b2, _⟩ := id I3
  obtain ⟨_, d0, d1, d2, _⟩ := id J3
  have HY3 := hid Y3
  clear P3 I3 J3 Y3
  go_upto_if 98 with (fail)
  go_cut [] (fun wx => Below w.heap.size w wx ∧ Below W3.heap.size W3 wx)
  case first =>
    go_wp2_with fail
    go_meet
    exact ⟨by (repeat' (first | with_reducible exact Below.refl _ _ | with_reducible assumption | with_reducible refine gr_alloc ?_ _ | with_reducible refine gr_drew ?_ | with_reducible refine gr_drewN ?_ _ | with_reducible refine gr_trans ?_ (by assumption) | with_reducible refine gr_set ?_ ?_ _ | (simp; done) | omega | (simp; omega))), by (repeat' (first | with_reducible exact Below.refl _ _ | with_reducible assumption | with_reducible refine gr_alloc ?_ _ | with_reducible refine gr_drew ?_ | with_reducible refine gr_drewN ?_ _ | with_reducible refine gr_trans ?_ (by assumption) | with_reducible refine gr_set ?_ ?_ _ | (simp; done) | omega | (simp; omega)))⟩
  case rest =>
    obtain ⟨U, V⟩ := hcut
    go_step
    exact tseg98_any w a0 len0 cap0 z0 HR hlen pv hg _ U jf jx a b c d u v x n1 K1 (hid (S3.out.next V)) hV j1 (j1 + 1) ji p q r s y0 y1 y2 i0 i1 i2 K2 (hid (HY3.out.next V)) HT _ _ _ _ _ _ _ _ _ _ _ _ _ _ _ _ _ _ _ _ _ _ _ _ _ _ _ _ _ _ _ _ _ _ _ _ _ _ _ _ _ _ _ _ _ _ _ _ _ _ _ _ _ _ _ _ _ _ _ _ _ _ _ _ _ _ _ _ _ _ _ _ _ _ _ _ _ _ _ _ _ _ _ _ _ _ _ _ _ _ _ _ _ _ _ _ _ _ _ _ _ _ _ _ _ _ _ _ _ _ _ _ _ _ _ _ _ _ _ _ _ _ _ _ _ _ _ _ _ _ _ _ _ _ _ _ _ _ _ _ _ _ _ _ _ _ _ _ _ _ _ _ _ _ _ _ _ _ _ _ _ _ _ _ _ _ _ _ _ _ _ _ _ _ _ _ _ _ _ _ _ _ _ _ _ _ _ _ _ _ _ _ _ _ _ _ _ _ _ _ _ _ _ _ _ _ _ _ _ _ _ _ _ _ _ _ _ _ _ _ _ _ _ _ _ _ _ _ _ _ _ _ _ _ _ _ _ _ _ _ _ _ _ _ _ _ _ _ _ _ _ _ _ _ _ _ _ _ _ _ _ _ _ _ _ _ _ _ _ _ _ _ _ _ _ _ _ _ _ _ _ _ _ _ _ _ _ _ _ _ _ _ _ _ _ _ 

end Go.Proofs.YtdogkkmdccieiaaDoor
