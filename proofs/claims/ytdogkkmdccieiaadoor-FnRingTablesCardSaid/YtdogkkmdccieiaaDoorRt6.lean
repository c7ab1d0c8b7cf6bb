/- FnRingTables, cut: the form of a table. -/
import Derived.Test.YtdogkkmdccieiaaDoorRt5
namespace Go.Proofs.YtdogkkmdccieiaaDoor
open Go.ChangeShapes Go.WideShapes Go.ChangeAt Go.RowKit

set_option maxRecDepth 1000000 in
set_option maxHeartbeats 8000000 in
theorem tseg144_any (w : World) (a0 : Option Addr) (len0 cap0 : Nat) (z0 : List Int) (HR : Hid (IsRow .u8 w a0 len0 cap0 z0)) (hlen : len0 ≤ 9223372036854775807) (pv : Value) (hg : Hid (SenU w pv)) (wc : World) (hcut : Below w.heap.size w wc) (jf jx : Nat) (a b c d u v x n1 K1 : Int) (hA : Hid (RtZ wc jf jx a b c d u v x)) (hV : Hid (RtV a b c d u v x n1 K1)) (jg jy ji : Nat) (p q r s y0 y1 y2 i0 i1 i2 K2 : Int) (hB : Hid (RtY wc jg jy ji p q r s y0 y1 y2 i0 i1 i2)) (hI : Hid (RtI p q r s y0 y1 y2 i0 i1 i2 K2)) (jh jz : Nat) (e f g h z0' z1' z2' n3 K3 : Int) (hC : Hid (RtZ wc jh jz e f g h z0' z1' z2')) (hD : Hid (RtD e f g h z0' z1' z2' n3 K3)) (jk : Nat) (k0 k1 k2 k3 K4 : Int) (vt : Value) (hE : Hid (Arr wc jk k0 k1 k2 k3)) (hT : Hid (K4 = 0 → RdW wc vt 3 (g9 (np k0 k2) k1 (ng k0) (np k0 k3) 0 0 (np k1 k3) k3 (ng k2)))) (hF : Hid (RtT k0 k1 k2 k3 K4)) (u1 u2 u7 u8 u13 u14 u19 u20 u24 u25 u26 u27 u28 u29 u30 u31 u32 u33 u34 u35 u36 u37 u38 u39 u40 u41 u42 u43 u44 u45 u46 u47 u48 u49 u50 u51 u52 u53 u54 u55 u56 u57 u58 u59 u60 u61 u62 u63 u64 u65 u66 u67 u68 u69 u70 u71 u72 u73 u74 u75 u76 u77 u78 u79 u80 u81 u82 u83 u84 u85 u86 u87 u88 u89 u90 u91 u92 u93 u94 u95 u96 u97 u98 u99 u100 u101 u102 u103 u104 u105 u106 u107 u108 u109 u110 u111 u112 u113 u114 u115 u116 u117 u118 u119 u120 u121 u122 u123 u124 u125 u126 u127 u128 u129 u130 u131 u132 u133 u134 u135 u136 u137 u138 u139 u140 u141 u142 u143 u144 u145 u146 u147 u148 u149 u150 u151 u152 u153 u154 u155 u156 u157 u158 u159 u160 u161 u162 u163 u164 u165 u166 u167 u168 u169 u170 u171 u172 u173 u174 u175 u176 u177 u178 u179 u180 u181 u182 u183 u184 u185 u186 u187 u188 u189 u190 u191 u192 u193 u194 u195 u196 u197 u198 u199 u200 u201 u202 u203 u204 u205 u206 u207 u208 u209 u210 u211 u212 u213 u214 u215 u216 u217 u218 u219 u220 u221 u222 u223 u224 u225 u226 u227 u228 u229 u230 u231 u232 u233 u234 u235 u236 u237 u238 u239 u240 u241 u242 u243 u244 u245 u246 u247 u248 u249 u250 u251 u252 u253 u254 u255 u256 u257 u258 u259 u260 u261 u262 u263 u264 u265 u266 u267 u268 u269 u270 u271 u272 u273 u274 u275 u276 u277 u278 u279 u280 u281 u282 u283 u284 u285 u286 u287 u288 u289 u290 u291 u292 u293 u294 u295 u296 u297 u298 u299 u300 u301 u302 u303 u304 : Value) :
    Code.wp Tryd.prog (tseg 144) (bodyPost Tryd.prog Tryd.f3 fun e w' => e = .returned (.bool true) ∧ Below w.heap.size w w') ⟨#[.slice a0 len0 cap0, u1, u2, .pointer (some ⟨jf, 0, none⟩), .pointer (some ⟨jx, 0, none⟩), .int .i64 n1, .int .i64 K1, u7, u8, .pointer (some ⟨jg, 0, none⟩), .pointer (some ⟨jy, 0, none⟩), .pointer (some ⟨ji, 0, none⟩), .int .i64 K2, u13, u14, .pointer (some ⟨jh, 0, none⟩), .pointer (some ⟨jz, 0, none⟩), .int .i64 n3, .int .i64 K3, u19, u20, .pointer (some ⟨jk, 0, none⟩), vt, .int .i64 K4, u24, u25, u26, u27, u28, u29, u30, u31, u32, u33, u34, u35, u36, u37, u38, u39, u40, u41, u42, u43, u44, u45, u46, u47, u48, u49, u50, u51, u52, u53, u54, u55, u56, u57, u58, u59, u60, u61, u62, u63, u64, u65, u66, u67, u68, u69, u70, u71, u72, u73, u74, u75, u76, u77, u78, u79, u80, u81, u82, u83, u84, u85, u86, u87, u88, u89, u90, u91, u92, u93, u94, u95, u96, u97, u98, u99, u100, u101, u102, u103, u104, u105, u106, u107, u108, u109, u110, u111, u112, u113, u114, u115, u116, u117, u118, u119, u120, u121, u122, u123, u124, u125, u126, u127, u128, u129, u130, u131, u132, u133, u134, u135, u136, u137, u138, u139, u140, u141, u142, u143, u144, u145, u146, u147, u148, u149, u150, u151, u152, u153, u154, u155, u156, u157, u158, u159, u160, u161, u162, u163, u164, u165, u166, u167, u168, u169, u170, u171, u172, u173, u174, u175, u176, u177, u178, u179, u180, u181, u182, u183, u184, u185, u186, u187, u188, u189, u190, u191, u192, u193, u194, u195, u196, u197, u198, u199, u200, u201, u202, u203, u204, u205, u206, u207, u208, u209, u210, u211, u212, u213, u214, u215, u216, u217, u218, u219, u220, u221, u222, u223, u224, u225, u226, u227, u228, u229, u230, u231, u232, u233, u234, u235, u236, u237, u238, u239, u240, u241, u242, u243, u244, u245, u246, u247, u248, u249, u250, u251, u252, u253, u254, u255, u256, u257, u258, u259, u260, u261, u262, u263, u264, u265, u266, u267, u268, u269, u270, u271, u272, u273, u274, u275, u276, u277, u278, u279, u280, u281, u282, u283, u284, u285, u286, u287, u288, u289, u290, u291, u292, u293, u294, u295, u296, u297, u298, u299, u300, u301, u302, u303, u304], []⟩ wc := by
  conv => arg 2; whnf
  have heq := heqF
  have HR2 := hid (row8_next HR.out hcut)
  have S0 := hA; have Y0 := hB; have Z0 := hC; have E0 := hE; have T0 := hT
  clear hA hB hC hE hT
  go_wp2_with fail
  refine (drawFT_any a0 len0 cap0 z0 _ HR2.out hlen).mono ?_
  rintro e' w1 ⟨vl, nl, gl, rfl, _, L1, hb1⟩
  have S1 := hid (S0.out.next hb1); have Y1 := hid (Y0.out.next hb1); have Z1 := hid (Z0.out.next hb1); have E1 := hid (E0.out.next hb1); have T1 := hid (fun h => (T0.out h).nextw hb1)
  have U1 := gr_trans hcut hb1
  have hx := fun W h => iFOT_any vl nl gl W h
  have hy := fun W h => sFOT_any vl nl gl W h
  have hK : foc nl gl = foc nl gl := rfl
  generalize hk5 : foc nl gl = K5 at hx hy
  generalize if0 K5 (ng (gl 2)) = o0 at hx hy
  generalize if0 K5 (fo1 gl) = o1 at hx hy
  generalize if0 K5 (fo2 gl) = o2 at hx hy
  generalize if0 K5 (gl 7) = o3 at hx hy
  have HX := hid hx; have HY := hid hy; have HK5 := hid hk5.symm
  clear hx hy hk5 hK S0 Y0 Z0 E0 T0 hcut hb1 HR2
  go_wp2_with fail
  refine (HX.out _ L1).mono ?_
  rintro e' w2 ⟨rfl, hb2⟩
  have ha2 := gr_alloc hb2 (.cells #[.int .i64 o0, .int .i64 o1, .int .i64 o2, .int .i64 o3] 25)
  have P3 := Arr.new w2 o0 o1 o2 o3 25
  have S3 := hid (S1.out.next ha2); have Y3 := hid (Y1.out.next ha2); have Z3 := hid (Z1.out.next ha2); have E3 := hid (E1.out.next ha2); have T3 := hid (fun h => (T1.out h).nextw ha2)
  have L3 := L1.nextw ha2
  have U3 := gr_trans U1 ha2
  clear S1 Y1 Z1 E1 T1 L1 U1 ha2 hb2 HX
  go_upto_region 25 with fail
  obtain ⟨jp, hjp⟩ : ∃ j, j = w2.heap.size := ⟨_, rfl⟩
  rw [← hjp] at P3
  rw [← hjp]
  generalize w2.alloc (.cells #[.int .i64 o0, .int .i64 o1, .int .i64 o2, .int .i64 o3] 25) = W3 at P3 S3 Y3 Z3 E3 T3 L3 U3 ⊢
  clear hjp
  go_wp2_with fail
  refine (HY.out _ L3).mono ?_
  rintro e' w4 ⟨rfl, hb4⟩
  have ha4 := gr_alloc hb4 (.cells #[.int .i64 o0, .int .i64 o1, .int .i64 o2, .int .i64 o3] 25)
  have P5 := P3.next ha4
  have Q5 := Arr.new w4 o0 o1 o2 o3 25
  have S5 := hid (S3.out.next ha4); have Y5 := hid (Y3.out.next ha4); have Z5 := hid (Z3.out.next ha4); have E5 := hid (E3.out.next ha4); have T5 := hid (fun h => (T3.out h).nextw ha4)
  have L5 := L3.nextw ha4
  have U5 := gr_trans U3 ha4
  clear S3 Y3 Z3 E3 T3 L3 U3 ha4 hb4 HY P3
  go_upto_region 26 with fail
  obtain ⟨jq, hjq⟩ : ∃ j, j = w4.heap.size := ⟨_, rfl⟩
  rw [← hjq] at Q5
  rw [← hjq]
  generalize w4.alloc (.cells #[.int .i64 o0, .int .i64 o1, .int .i64 o2, .int .i64 o3] 25) = W5 at P5 Q5 S5 Y5 Z5 E5 T5 L5 U5 ⊢
  clear hjq
  have er : (o0 == o0 && o1 == o1 && o2 == o2 && o3 == o3) = true := by simp
  obtain ⟨_, p0, p1, p2, p3, _⟩ := id P5
  obtain ⟨_, q0, q1, q2, q3, _⟩ := id Q5
  go_upto_if 164 with (fail)
  go_cut [] (fun wx => Below w.heap.size w wx ∧ Below W5.heap.size W5 wx)
  case first =>
    go_wp2_with fail
    go_meet
    exact ⟨by (repeat' (first | with_reducible exact Below.refl _ _ | with_reducible assumption | with_reducible refine gr_alloc ?_ _ | with_reducible refine gr_drew ?_ | with_reducible refine gr_drewN ?_ _ | with_reducible refine gr_trans ?_ (by assumption) | with_reducible refine gr_set ?_ ?_ _ | (simp; done) | omega | (simp; omega))), by (repeat' (first | with_reducible exact Below.refl _ _ | with_reducible assumption | with_reducible refine gr_alloc ?_ _ | with_reducible refine gr_drew ?_ | with_reducible refine gr_drewN ?_ _ | with_reducible refine gr_trans ?_ (by assumption) | with_reducible refine gr_set ?_ ?_ _ | (simp; done) | omega | (simp; omega)))⟩
  case rest =>
    obtain ⟨U, V⟩ := hcut
    go_step
    exact tseg164_any w a0 len0 cap0 z0 HR hlen pv hg _ U jf jx a b c d u v x n1 K1 (hid (S5.out.next V)) hV jg jy ji p q r s y0 y1 y2 i0 i1 i2 K2 (hid (Y5.out.next V)) hI jh jz e f g h z0' z1' z2' n3 K3 (hid (Z5.out.next V)) hD jk k0 k1 k2 k3 K4 vt (hid (E5.out.next V)) (hid (fun h => (T5.out h).nextw V)) hF vl nl gl K5 (hid (L5.nextw V)) HK5 _ _ _ _ _ _ _ _ _ _ _ _ _ _ _ _ _ _ _ _ _ _ _ _ _ _ _ _ _ _ _ _ _ _ _ _ _ _ _ _ _ _ _ _ _ _ _ _ _ _ _ _ _ _ _ _ _ _ _ _ _ _ _ _ _ _ _ _ _ _ _ _ _ _ _ _ _ _ _ _ _ _ _ _ _ _ _ _ _ _ _ _ _ _ _ _ _ _ _ _ _ _ _ _ _ _ _ _ _ _ _ _ _ _ _ _ _ _ _ _ _ _ _ _ _ _ _ _ _ _ _ _ _ _ _ _ _ _ _ _ _ _ _ _ _ _ _ _ _ _ _ _ _ _ _ _ _ _ _ _ _ _ _ _ _ _ _ _ _ _ _ _ _ _ _ _ _ _ _ _ _ _ _ _ _ _ _ _ _ _ _ _ _ _ _ _ _ _ _ _ _ _ _ _ _ _ _ _ _ _ _ _ _ _ _ _ _ _ _ _ _ _ _ _ _ _ _ _ _ _ _ _ _ _ _ _ _ _ _ _ _ _ _ _ _ _ _ _ _ _ _ _ _ _ _ _ _ _ _ _ _ _ _ _ _ _ _ _ _ _ _ _ _ _ _ _ _ _ _ _ _ _ _ _ _ _ _ 

end Go.Proofs.YtdogkkmdccieiaaDoor
