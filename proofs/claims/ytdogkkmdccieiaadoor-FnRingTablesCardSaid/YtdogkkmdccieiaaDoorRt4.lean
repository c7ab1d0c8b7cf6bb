/- FnRingTables, cut: the form of the table of a form. -/
import Derived.Test.YtdogkkmdccieiaaDoorRt3
namespace Go.Proofs.YtdogkkmdccieiaaDoor
open Go.ChangeShapes Go.WideShapes Go.ChangeAt Go.RowKit

set_option maxRecDepth 1000000 in
set_option maxHeartbeats 8000000 in
theorem tseg190_any (w : World) (a0 : Option Addr) (len0 cap0 : Nat) (z0 : List Int) (HR : Hid (IsRow .u8 w a0 len0 cap0 z0)) (hlen : len0 ≤ 9223372036854775807) (pv : Value) (hg : Hid (SenU w pv)) (wc : World) (hcut : Below w.heap.size w wc) (jf jx : Nat) (a b c d u v x n1 K1 : Int) (hA : Hid (RtZ wc jf jx a b c d u v x)) (hV : Hid (RtV a b c d u v x n1 K1)) (jg jy ji : Nat) (p q r s y0 y1 y2 i0 i1 i2 K2 : Int) (hB : Hid (RtY wc jg jy ji p q r s y0 y1 y2 i0 i1 i2)) (hI : Hid (RtI p q r s y0 y1 y2 i0 i1 i2 K2)) (jh jz : Nat) (e f g h z0' z1' z2' n3 K3 : Int) (hC : Hid (RtZ wc jh jz e f g h z0' z1' z2')) (hD : Hid (RtD e f g h z0' z1' z2' n3 K3)) (jk : Nat) (k0 k1 k2 k3 K4 : Int) (vt : Value) (hE : Hid (Arr wc jk k0 k1 k2 k3)) (hT : Hid (K4 = 0 → RdW wc vt 3 (g9 (np k0 k2) k1 (ng k0) (np k0 k3) 0 0 (np k1 k3) k3 (ng k2)))) (hF : Hid (RtT k0 k1 k2 k3 K4)) (u1 u2 u7 u8 u13 u14 u19 u20 u24 u25 u26 u27 u28 u29 u30 u31 u32 u33 u34 u35 u36 u37 u38 u39 u40 u41 u42 u43 u44 u45 u46 u47 u48 u49 u50 u51 u52 u53 u54 u55 u56 u57 u58 u59 u60 u61 u62 u63 u64 u65 u66 u67 u68 u69 u70 u71 u72 u73 u74 u75 u76 u77 u78 u79 u80 u81 u82 u83 u84 u85 u86 u87 u88 u89 u90 u91 u92 u93 u94 u95 u96 u97 u98 u99 u100 u101 u102 u103 u104 u105 u106 u107 u108 u109 u110 u111 u112 u113 u114 u115 u116 u117 u118 u119 u120 u121 u122 u123 u124 u125 u126 u127 u128 u129 u130 u131 u132 u133 u134 u135 u136 u137 u138 u139 u140 u141 u142 u143 u144 u145 u146 u147 u148 u149 u150 u151 u152 u153 u154 u155 u156 u157 u158 u159 u160 u161 u162 u163 u164 u165 u166 u167 u168 u169 u170 u171 u172 u173 u174 u175 u176 u177 u178 u179 u180 u181 u182 u183 u184 u185 u186 u187 u188 u189 u190 u191 u192 u193 u194 u195 u196 u197 u198 u199 u200 u201 u202 u203 u204 u205 u206 u207 u208 u209 u210 u211 u212 u213 u214 u215 u216 u217 u218 u219 u220 u221 u222 u223 u224 u225 u226 u227 u228 u229 u230 u231 u232 u233 u234 u235 u236 u237 u238 u239 u240 u241 u242 u243 u244 u245 u246 u247 u248 u249 u250 u251 u252 u253 u254 u255 u256 u257 u258 u259 u260 u261 u262 u263 u264 u265 u266 u267 u268 u269 u270 u271 u272 u273 u274 u275 u276 u277 u278 u279 u280 u281 u282 u283 u284 u285 u286 u287 u288 u289 u290 u291 u292 u293 u294 u295 u296 u297 u298 u299 u300 u301 u302 u303 u304 : Value) :
    Code.wp Tryd.prog (tseg 190) (bodyPost Tryd.prog Tryd.f3 fun e w' => e = .returned (.bool true) ∧ Below w.heap.size w w') ⟨#[.slice a0 len0 cap0, u1, u2, .pointer (some ⟨jf, 0, none⟩), .pointer (some ⟨jx, 0, none⟩), .int .i64 n1, .int .i64 K1, u7, u8, .pointer (some ⟨jg, 0, none⟩), .pointer (some ⟨jy, 0, none⟩), .pointer (some ⟨ji, 0, none⟩), .int .i64 K2, u13, u14, .pointer (some ⟨jh, 0, none⟩), .pointer (some ⟨jz, 0, none⟩), .int .i64 n3, .int .i64 K3, u19, u20, .pointer (some ⟨jk, 0, none⟩), vt, .int .i64 K4, u24, u25, u26, u27, u28, u29, u30, u31, u32, u33, u34, u35, u36, u37, u38, u39, u40, u41, u42, u43, u44, u45, u46, u47, u48, u49, u50, u51, u52, u53, u54, u55, u56, u57, u58, u59, u60, u61, u62, u63, u64, u65, u66, u67, u68, u69, u70, u71, u72, u73, u74, u75, u76, u77, u78, u79, u80, u81, u82, u83, u84, u85, u86, u87, u88, u89, u90, u91, u92, u93, u94, u95, u96, u97, u98, u99, u100, u101, u102, u103, u104, u105, u106, u107, u108, u109, u110, u111, u112, u113, u114, u115, u116, u117, u118, u119, u120, u121, u122, u123, u124, u125, u126, u127, u128, u129, u130, u131, u132, u133, u134, u135, u136, u137, u138, u139, u140, u141, u142, u143, u144, u145, u146, u147, u148, u149, u150, u151, u152, u153, u154, u155, u156, u157, u158, u159, u160, u161, u162, u163, u164, u165, u166, u167, u168, u169, u170, u171, u172, u173, u174, u175, u176, u177, u178, u179, u180, u181, u182, u183, u184, u185, u186, u187, u188, u189, u190, u191, u192, u193, u194, u195, u196, u197, u198, u199, u200, u201, u202, u203, u204, u205, u206, u207, u208, u209, u210, u211, u212, u213, u214, u215, u216, u217, u218, u219, u220, u221, u222, u223, u224, u225, u226, u227, u228, u229, u230, u231, u232, u233, u234, u235, u236, u237, u238, u239, u240, u241, u242, u243, u244, u245, u246, u247, u248, u249, u250, u251, u252, u253, u254, u255, u256, u257, u258, u259, u260, u261, u262, u263, u264, u265, u266, u267, u268, u269, u270, u271, u272, u273, u274, u275, u276, u277, u278, u279, u280, u281, u282, u283, u284, u285, u286, u287, u288, u289, u290, u291, u292, u293, u294, u295, u296, u297, u298, u299, u300, u301, u302, u303, u304], []⟩ wc := by
  conv => arg 2; whnf
  have heq := heqF
  go_upto_if 192 with (fail)
  go_cut [] (fun wx => Below w.heap.size w wx ∧ RtZ wx jf jx a b c d u v x ∧ RtY wx jg jy ji p q r s y0 y1 y2 i0 i1 i2 ∧ RtZ wx jh jz e f g h z0' z1' z2')
  case first =>
    have hS0 := hA.out
    have hY0 := hB.out
    have hZ0 := hC.out
    have hE0 := hE.out
    by_cases hk : K4 = 0
    · have hkt : (K4 == 0) = true := by simpa using hk
      obtain ⟨o0, o1, o2, o3, Ko, hfo, hor⟩ := hF.out hk
      have HF := hid (hfo vt wc (hT.out hk)); have HO := hid hor
      clear hA hB hC hE hI hD hF hT hV hk hfo hor
      go_wp2_with fail
      refine HF.out.mono ?_
      rintro e' w1 ⟨rfl, hb1⟩
      have ha1 := gr_alloc hb1 (.cells #[.int .i64 o0, .int .i64 o1, .int .i64 o2, .int .i64 o3] 25)
      have B2 := Arr.new w1 o0 o1 o2 o3 25
      have S2 := hid (hS0.next ha1); have Y2 := hid (hY0.next ha1); have Z2 := hid (hZ0.next ha1); have E2 := hE0.next ha1
      have U2 := gr_trans hcut ha1
      clear hS0 hY0 hZ0 hE0 hcut HF hb1 ha1
      go_upto_region 36 with fail
      obtain ⟨js, hjs⟩ : ∃ j, j = w1.heap.size := ⟨_, rfl⟩
      rw [← hjs] at B2
      rw [← hjs]
      generalize w1.alloc (.cells #[.int .i64 o0, .int .i64 o1, .int .i64 o2, .int .i64 o3] 25) = W2 at B2 S2 Y2 Z2 E2 U2 ⊢
      clear hjs
      rcases HO.out with rfl | ⟨rfl, rfl, rfl, rfl, rfl⟩
      · clear HO B2 E2
        go_wp2_with fail
        go_meet
        exact ⟨by (repeat' (first | with_reducible exact Below.refl _ _ | with_reducible assumption | with_reducible refine gr_alloc ?_ _ | with_reducible refine gr_drew ?_ | with_reducible refine gr_drewN ?_ _ | with_reducible refine gr_trans ?_ (by assumption) | with_reducible refine gr_set ?_ ?_ _ | (simp; done) | omega | (simp; omega))), S2.out.next (by (repeat' (first | with_reducible exact Below.refl _ _ | with_reducible assumption | with_reducible refine gr_alloc ?_ _ | with_reducible refine gr_drew ?_ | with_reducible refine gr_drewN ?_ _ | with_reducible refine gr_trans ?_ (by assumption) | with_reducible refine gr_set ?_ ?_ _ | (simp; done) | omega | (simp; omega)))), Y2.out.next (by (repeat' (first | with_reducible exact Below.refl _ _ | with_reducible assumption | with_reducible refine gr_alloc ?_ _ | with_reducible refine gr_drew ?_ | with_reducible refine gr_drewN ?_ _ | with_reducible refine gr_trans ?_ (by assumption) | with_reducible refine gr_set ?_ ?_ _ | (simp; done) | omega | (simp; omega)))), Z2.out.next (by (repeat' (first | with_reducible exact Below.refl _ _ | with_reducible assumption | with_reducible refine gr_alloc ?_ _ | with_reducible refine gr_drew ?_ | with_reducible refine gr_drewN ?_ _ | with_reducible refine gr_trans ?_ (by assumption) | with_reducible refine gr_set ?_ ?_ _ | (simp; done) | omega | (simp; omega))))⟩
      · clear HO
        obtain ⟨_, b0, b1, b2, b3, _⟩ := id B2
        obtain ⟨_, g0, g1, g2, g3, _⟩ := id E2
        have er : (o0 == o0 && o1 == o1 && o2 == o2 && o3 == o3) = true := by simp
        go_wp2_with fail
        go_meet
        exact ⟨by (repeat' (first | with_reducible exact Below.refl _ _ | with_reducible assumption | with_reducible refine gr_alloc ?_ _ | with_reducible refine gr_drew ?_ | with_reducible refine gr_drewN ?_ _ | with_reducible refine gr_trans ?_ (by assumption) | with_reducible refine gr_set ?_ ?_ _ | (simp; done) | omega | (simp; omega))), S2.out.next (by (repeat' (first | with_reducible exact Below.refl _ _ | with_reducible assumption | with_reducible refine gr_alloc ?_ _ | with_reducible refine gr_drew ?_ | with_reducible refine gr_drewN ?_ _ | with_reducible refine gr_trans ?_ (by assumption) | with_reducible refine gr_set ?_ ?_ _ | (simp; done) | omega | (simp; omega)))), Y2.out.next (by (repeat' (first | with_reducible exact Below.refl _ _ | with_reducible assumption | with_reducible refine gr_alloc ?_ _ | with_reducible refine gr_drew ?_ | with_reducible refine gr_drewN ?_ _ | with_reducible refine gr_trans ?_ (by assumption) | with_reducible refine gr_set ?_ ?_ _ | (simp; done) | omega | (simp; omega)))), Z2.out.next (by (repeat' (first | with_reducible exact Below.refl _ _ | with_reducible assumption | with_reducible refine gr_alloc ?_ _ | with_reducible refine gr_drew ?_ | with_reducible refine gr_drewN ?_ _ | with_reducible refine gr_trans ?_ (by assumption) | with_reducible refine gr_set ?_ ?_ _ | (simp; done) | omega | (simp; omega))))⟩
    · have hkt : (K4 == 0) = false := by simpa using hk
      go_wp2_with fail
      go_meet
      exact ⟨hcut, hS0, hY0, hZ0⟩
  case rest =>
    obtain ⟨U, S, Y, Z⟩ := hcut
    go_step
    exact tseg192_any w a0 len0 cap0 z0 HR hlen pv hg _ U jf jx a b c d u v x n1 K1 (hid S) hV jg jy ji p q r s y0 y1 y2 i0 i1 i2 K2 (hid Y) hI jh jz e f g h z0' z1' z2' n3 K3 (hid Z) hD _ _ _ _ _ _ _ _ _ _ _ _ _ _ _ _ _ _ _ _ _ _ _ _ _ _ _ _ _ _ _ _ _ _ _ _ _ _ _ _ _ _ _ _ _ _ _ _ _ _ _ _ _ _ _ _ _ _ _ _ _ _ _ _ _ _ _ _ _ _ _ _ _ _ _ _ _ _ _ _ _ _ _ _ _ _ _ _ _ _ _ _ _ _ _ _ _ _ _ _ _ _ _ _ _ _ _ _ _ _ _ _ _ _ _ _ _ _ _ _ _ _ _ _ _ _ _ _ _ _ _ _ _ _ _ _ _ _ _ _ _ _ _ _ _ _ _ _ _ _ _ _ _ _ _ _ _ _ _ _ _ _ _ _ _ _ _ _ _ _ _ _ _ _ _ _ _ _ _ _ _ _ _ _ _ _ _ _ _ _ _ _ _ _ _ _ _ _ _ _ _ _ _ _ _ _ _ _ _ _ _ _ _ _ _ _ _ _ _ _ _ _ _ _ _ _ _ _ _ _ _ _ _ _ _ _ _ _ _ _ _ _ _ _ _ _ _ _ _ _ _ _ _ _ _ _ _ _ _ _ _ _ _ _ _ _ _ _ _ _ _ _ _ _ _ _ _ _ _ _ _ _ _ _ _ _ _ _ _ _ _ _ 

end Go.Proofs.YtdogkkmdccieiaaDoor
