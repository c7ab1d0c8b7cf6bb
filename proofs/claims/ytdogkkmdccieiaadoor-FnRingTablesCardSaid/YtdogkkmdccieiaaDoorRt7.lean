/- FnRingTables, cut: the table of a form. -/
import Derived.Test.YtdogkkmdccieiaaDoorRt6
namespace Go.Proofs.YtdogkkmdccieiaaDoor
open Go.ChangeShapes Go.WideShapes Go.ChangeAt Go.RowKit

set_option maxRecDepth 1000000 in
set_option maxHeartbeats 8000000 in
theorem tseg123_any (w : World) (a0 : Option Addr) (len0 cap0 : Nat) (z0 : List Int) (HR : Hid (IsRow .u8 w a0 len0 cap0 z0)) (hlen : len0 ≤ 9223372036854775807) (pv : Value) (hg : Hid (SenU w pv)) (wc : World) (hcut : Below w.heap.size w wc) (jf jx : Nat) (a b c d u v x n1 K1 : Int) (hA : Hid (RtZ wc jf jx a b c d u v x)) (hV : Hid (RtV a b c d u v x n1 K1)) (jg jy ji : Nat) (p q r s y0 y1 y2 i0 i1 i2 K2 : Int) (hB : Hid (RtY wc jg jy ji p q r s y0 y1 y2 i0 i1 i2)) (hI : Hid (RtI p q r s y0 y1 y2 i0 i1 i2 K2)) (jh jz : Nat) (e f g h z0' z1' z2' n3 K3 : Int) (hC : Hid (RtZ wc jh jz e f g h z0' z1' z2')) (hD : Hid (RtD e f g h z0' z1' z2' n3 K3)) (u1 u2 u7 u8 u13 u14 u19 u20 u21 u22 u23 u24 u25 u26 u27 u28 u29 u30 u31 u32 u33 u34 u35 u36 u37 u38 u39 u40 u41 u42 u43 u44 u45 u46 u47 u48 u49 u50 u51 u52 u53 u54 u55 u56 u57 u58 u59 u60 u61 u62 u63 u64 u65 u66 u67 u68 u69 u70 u71 u72 u73 u74 u75 u76 u77 u78 u79 u80 u81 u82 u83 u84 u85 u86 u87 u88 u89 u90 u91 u92 u93 u94 u95 u96 u97 u98 u99 u100 u101 u102 u103 u104 u105 u106 u107 u108 u109 u110 u111 u112 u113 u114 u115 u116 u117 u118 u119 u120 u121 u122 u123 u124 u125 u126 u127 u128 u129 u130 u131 u132 u133 u134 u135 u136 u137 u138 u139 u140 u141 u142 u143 u144 u145 u146 u147 u148 u149 u150 u151 u152 u153 u154 u155 u156 u157 u158 u159 u160 u161 u162 u163 u164 u165 u166 u167 u168 u169 u170 u171 u172 u173 u174 u175 u176 u177 u178 u179 u180 u181 u182 u183 u184 u185 u186 u187 u188 u189 u190 u191 u192 u193 u194 u195 u196 u197 u198 u199 u200 u201 u202 u203 u204 u205 u206 u207 u208 u209 u210 u211 u212 u213 u214 u215 u216 u217 u218 u219 u220 u221 u222 u223 u224 u225 u226 u227 u228 u229 u230 u231 u232 u233 u234 u235 u236 u237 u238 u239 u240 u241 u242 u243 u244 u245 u246 u247 u248 u249 u250 u251 u252 u253 u254 u255 u256 u257 u258 u259 u260 u261 u262 u263 u264 u265 u266 u267 u268 u269 u270 u271 u272 u273 u274 u275 u276 u277 u278 u279 u280 u281 u282 u283 u284 u285 u286 u287 u288 u289 u290 u291 u292 u293 u294 u295 u296 u297 u298 u299 u300 u301 u302 u303 u304 : Value) :
    Code.wp Tryd.prog (tseg 123) (bodyPost Tryd.prog Tryd.f3 fun e w' => e = .returned (.bool true) ∧ Below w.heap.size w w') ⟨#[.slice a0 len0 cap0, u1, u2, .pointer (some ⟨jf, 0, none⟩), .pointer (some ⟨jx, 0, none⟩), .int .i64 n1, .int .i64 K1, u7, u8, .pointer (some ⟨jg, 0, none⟩), .pointer (some ⟨jy, 0, none⟩), .pointer (some ⟨ji, 0, none⟩), .int .i64 K2, u13, u14, .pointer (some ⟨jh, 0, none⟩), .pointer (some ⟨jz, 0, none⟩), .int .i64 n3, .int .i64 K3, u19, u20, u21, u22, u23, u24, u25, u26, u27, u28, u29, u30, u31, u32, u33, u34, u35, u36, u37, u38, u39, u40, u41, u42, u43, u44, u45, u46, u47, u48, u49, u50, u51, u52, u53, u54, u55, u56, u57, u58, u59, u60, u61, u62, u63, u64, u65, u66, u67, u68, u69, u70, u71, u72, u73, u74, u75, u76, u77, u78, u79, u80, u81, u82, u83, u84, u85, u86, u87, u88, u89, u90, u91, u92, u93, u94, u95, u96, u97, u98, u99, u100, u101, u102, u103, u104, u105, u106, u107, u108, u109, u110, u111, u112, u113, u114, u115, u116, u117, u118, u119, u120, u121, u122, u123, u124, u125, u126, u127, u128, u129, u130, u131, u132, u133, u134, u135, u136, u137, u138, u139, u140, u141, u142, u143, u144, u145, u146, u147, u148, u149, u150, u151, u152, u153, u154, u155, u156, u157, u158, u159, u160, u161, u162, u163, u164, u165, u166, u167, u168, u169, u170, u171, u172, u173, u174, u175, u176, u177, u178, u179, u180, u181, u182, u183, u184, u185, u186, u187, u188, u189, u190, u191, u192, u193, u194, u195, u196, u197, u198, u199, u200, u201, u202, u203, u204, u205, u206, u207, u208, u209, u210, u211, u212, u213, u214, u215, u216, u217, u218, u219, u220, u221, u222, u223, u224, u225, u226, u227, u228, u229, u230, u231, u232, u233, u234, u235, u236, u237, u238, u239, u240, u241, u242, u243, u244, u245, u246, u247, u248, u249, u250, u251, u252, u253, u254, u255, u256, u257, u258, u259, u260, u261, u262, u263, u264, u265, u266, u267, u268, u269, u270, u271, u272, u273, u274, u275, u276, u277, u278, u279, u280, u281, u282, u283, u284, u285, u286, u287, u288, u289, u290, u291, u292, u293, u294, u295, u296, u297, u298, u299, u300, u301, u302, u303, u304], []⟩ wc := by
  conv => arg 2; whnf
  have HR2 := hid (row8_next HR.out hcut)
  have S0 := hA; have Y0 := hB; have Z0 := hC
  clear hA hB hC
  go_wp2_with fail
  refine (drawTF_any a0 len0 cap0 z0 _ HR2.out hlen).mono ?_
  rintro e' w1 ⟨k0, k1, k2, k3, rfl, hb1⟩
  have ha1 := gr_alloc hb1 (.cells #[.int .i64 k0, .int .i64 k1, .int .i64 k2, .int .i64 k3] 25)
  have E1 := Arr.new w1 k0 k1 k2 k3 25
  have S1 := hid (S0.out.next ha1); have Y1 := hid (Y0.out.next ha1); have Z1 := hid (Z0.out.next ha1)
  have U1 := gr_trans hcut ha1
  have hx := fun W => iTableOf_any k0 k1 k2 k3 W
  have hy := fun W => sTableOf_any k0 k1 k2 k3 W
  have ht := RtT.mk' k0 k1 k2 k3
  obtain ⟨K4, hK4⟩ : ∃ K, K = toc k0 k1 k2 k3 := ⟨_, rfl⟩
  rw [← hK4] at hx hy ht
  obtain ⟨gt, hg'⟩ : ∃ g, g = g9 (np k0 k2) k1 (ng k0) (np k0 k3) 0 0 (np k1 k3) k3 (ng k2) := ⟨_, rfl⟩
  rw [← hg'] at hx hy
  unfold ElsOut at hx hy
  obtain ⟨n4, hn4⟩ : ∃ n, n = (if K4 = 0 then 3 else 0) := ⟨_, rfl⟩
  rw [← hn4] at hx hy
  have HN4 := hid hn4
  clear hn4
  have HX := hid hx; have HY := hid hy; have HT := hid ht; have HG := hid hg'
  clear hx hy ht hg' hK4 S0 Y0 Z0 hcut hb1 ha1 HR2
  go_upto_region 19 with fail
  obtain ⟨jk, hjk⟩ : ∃ j, j = w1.heap.size := ⟨_, rfl⟩
  rw [← hjk] at E1
  rw [← hjk]
  generalize w1.alloc (.cells #[.int .i64 k0, .int .i64 k1, .int .i64 k2, .int .i64 k3] 25) = W1 at E1 S1 Y1 Z1 U1 ⊢
  clear hjk
  obtain ⟨_, f0, f1, f2, f3, _⟩ := id E1
  go_wp2_with fail
  refine (HX.out _).mono ?_
  rintro e' w2 ⟨vt, rfl, hO2, hb2⟩
  have D2 := hO2.rd
  have S2 := hid (S1.out.next hb2); have Y2 := hid (Y1.out.next hb2); have Z2 := hid (Z1.out.next hb2)
  have E2 := E1.next hb2
  have U2 := gr_trans U1 hb2
  clear S1 Y1 Z1 E1 U1 hb2 HX hO2 f0 f1 f2 f3
  obtain ⟨_, f0, f1, f2, f3, _⟩ := id E2
  go_wp2_with fail
  refine (HY.out _).mono ?_
  rintro e' w3 ⟨vu, rfl, hO3, hb3⟩
  have D3 := D2.nextw hb3
  have G3 := hO3.rd
  have S3 := hid (S2.out.next hb3); have Y3 := hid (Y2.out.next hb3); have Z3 := hid (Z2.out.next hb3)
  have E3 := hid (E2.next hb3)
  have U3 := gr_trans U2 hb3
  clear S2 Y2 Z2 E2 U2 hb3 HY hO3 D2 f0 f1 f2 f3
  have HE9 := hid (elems9_any vt vu _ gt w3 D3 G3)
  have HD3 := hid D3
  clear D3 G3
  go_upto_if 144 with ((go_at_call 18; refine HE9.out.mono ?_; rintro e' w4 ⟨rfl, hb4⟩))
  go_cut [] (fun wx => Below w.heap.size w wx ∧ Below w3.heap.size w3 wx)
  case first =>
    go_wp2_with fail
    go_meet
    exact ⟨by (repeat' (first | with_reducible exact Below.refl _ _ | with_reducible assumption | with_reducible refine gr_alloc ?_ _ | with_reducible refine gr_drew ?_ | with_reducible refine gr_drewN ?_ _ | with_reducible refine gr_trans ?_ (by assumption) | with_reducible refine gr_set ?_ ?_ _ | (simp; done) | omega | (simp; omega))), by (repeat' (first | with_reducible exact Below.refl _ _ | with_reducible assumption | with_reducible refine gr_alloc ?_ _ | with_reducible refine gr_drew ?_ | with_reducible refine gr_drewN ?_ _ | with_reducible refine gr_trans ?_ (by assumption) | with_reducible refine gr_set ?_ ?_ _ | (simp; done) | omega | (simp; omega)))⟩
  case rest =>
    obtain ⟨U, V⟩ := hcut
    have D4 : K4 = 0 → RdW _ vt 3 (g9 (np k0 k2) k1 (ng k0) (np k0 k3) 0 0 (np k1 k3) k3 (ng k2)) := fun h => by
      have := HD3.out.nextw V
      rw [HN4.out, if_pos h, HG.out] at this
      exact this
    go_step
    exact tseg144_any w a0 len0 cap0 z0 HR hlen pv hg _ U jf jx a b c d u v x n1 K1 (hid (S3.out.next V)) hV jg jy ji p q r s y0 y1 y2 i0 i1 i2 K2 (hid (Y3.out.next V)) hI jh jz e f g h z0' z1' z2' n3 K3 (hid (Z3.out.next V)) hD jk k0 k1 k2 k3 K4 vt (hid (E3.out.next V)) (hid D4) HT _ _ _ _ _ _ _ _ _ _ _ _ _ _ _ _ _ _ _ _ _ _ _ _ _ _ _ _ _ _ _ _ _ _ _ _ _ _ _ _ _ _ _ _ _ _ _ _ _ _ _ _ _ _ _ _ _ _ _ _ _ _ _ _ _ _ _ _ _ _ _ _ _ _ _ _ _ _ _ _ _ _ _ _ _ _ _ _ _ _ _ _ _ _ _ _ _ _ _ _ _ _ _ _ _ _ _ _ _ _ _ _ _ _ _ _ _ _ _ _ _ _ _ _ _ _ _ _ _ _ _ _ _ _ _ _ _ _ _ _ _ _ _ _ _ _ _ _ _ _ _ _ _ _ _ _ _ _ _ _ _ _ _ _ _ _ _ _ _ _ _ _ _ _ _ _ _ _ _ _ _ _ _ _ _ _ _ _ _ _ _ _ _ _ _ _ _ _ _ _ _ _ _ _ _ _ _ _ _ _ _ _ _ _ _ _ _ _ _ _ _ _ _ _ _ _ _ _ _ _ _ _ _ _ _ _ _ _ _ _ _ _ _ _ _ _ _ _ _ _ _ _ _ _ _ _ _ _ _ _ _ _ _ _ _ _ _ _ _ _ _ _ _ _ _ _ _ _ _ _ _ _ _ _ _ _ _ _ _ 

end Go.Proofs.YtdogkkmdccieiaaDoor
