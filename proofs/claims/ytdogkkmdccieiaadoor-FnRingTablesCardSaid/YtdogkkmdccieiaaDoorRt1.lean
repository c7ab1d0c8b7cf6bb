/- FnRingTables, cut: the index and the value. -/
import Derived.Test.YtdogkkmdccieiaaDoorRt0
namespace Go.Proofs.YtdogkkmdccieiaaDoor
open Go.ChangeShapes Go.WideShapes Go.ChangeAt Go.RowKit

set_option maxRecDepth 1000000 in
set_option maxHeartbeats 8000000 in
theorem tseg264_any (w : World) (a0 : Option Addr) (len0 cap0 : Nat) (z0 : List Int) (_ : Hid (IsRow .u8 w a0 len0 cap0 z0)) (_ : len0 ≤ 9223372036854775807) (pv : Value) (_ : Hid (SenU w pv)) (wc : World) (hcut : Below w.heap.size w wc) (jf jx : Nat) (a b c d u v x n1 K1 : Int) (hA : Hid (RtZ wc jf jx a b c d u v x)) (hV : Hid (RtV a b c d u v x n1 K1)) (u1 u2 u7 u8 u9 u10 u11 u12 u13 u14 u15 u16 u17 u18 u19 u20 u21 u22 u23 u24 u25 u26 u27 u28 u29 u30 u31 u32 u33 u34 u35 u36 u37 u38 u39 u40 u41 u42 u43 u44 u45 u46 u47 u48 u49 u50 u51 u52 u53 u54 u55 u56 u57 u58 u59 u60 u61 u62 u63 u64 u65 u66 u67 u68 u69 u70 u71 u72 u73 u74 u75 u76 u77 u78 u79 u80 u81 u82 u83 u84 u85 u86 u87 u88 u89 u90 u91 u92 u93 u94 u95 u96 u97 u98 u99 u100 u101 u102 u103 u104 u105 u106 u107 u108 u109 u110 u111 u112 u113 u114 u115 u116 u117 u118 u119 u120 u121 u122 u123 u124 u125 u126 u127 u128 u129 u130 u131 u132 u133 u134 u135 u136 u137 u138 u139 u140 u141 u142 u143 u144 u145 u146 u147 u148 u149 u150 u151 u152 u153 u154 u155 u156 u157 u158 u159 u160 u161 u162 u163 u164 u165 u166 u167 u168 u169 u170 u171 u172 u173 u174 u175 u176 u177 u178 u179 u180 u181 u182 u183 u184 u185 u186 u187 u188 u189 u190 u191 u192 u193 u194 u195 u196 u197 u198 u199 u200 u201 u202 u203 u204 u205 u206 u207 u208 u209 u210 u211 u212 u213 u214 u215 u216 u217 u218 u219 u220 u221 u222 u223 u224 u225 u226 u227 u228 u229 u230 u231 u232 u233 u234 u235 u236 u237 u238 u239 u240 u241 u242 u243 u244 u245 u246 u247 u248 u249 u250 u251 u252 u253 u254 u255 u256 u257 u258 u259 u260 u261 u262 u263 u264 u265 u266 u267 u268 u269 u270 u271 u272 u273 u274 u275 u276 u277 u278 u279 u280 u281 u282 u283 u284 u285 u286 u287 u288 u289 u290 u291 u292 u293 u294 u295 u296 u297 u298 u299 u300 u301 u302 u303 u304 : Value) :
    Code.wp Tryd.prog (tseg 264) (bodyPost Tryd.prog Tryd.f3 fun e w' => e = .returned (.bool true) ∧ Below w.heap.size w w') ⟨#[.slice a0 len0 cap0, u1, u2, .pointer (some ⟨jf, 0, none⟩), .pointer (some ⟨jx, 0, none⟩), .int .i64 n1, .int .i64 K1, u7, u8, u9, u10, u11, u12, u13, u14, u15, u16, u17, u18, u19, u20, u21, u22, u23, u24, u25, u26, u27, u28, u29, u30, u31, u32, u33, u34, u35, u36, u37, u38, u39, u40, u41, u42, u43, u44, u45, u46, u47, u48, u49, u50, u51, u52, u53, u54, u55, u56, u57, u58, u59, u60, u61, u62, u63, u64, u65, u66, u67, u68, u69, u70, u71, u72, u73, u74, u75, u76, u77, u78, u79, u80, u81, u82, u83, u84, u85, u86, u87, u88, u89, u90, u91, u92, u93, u94, u95, u96, u97, u98, u99, u100, u101, u102, u103, u104, u105, u106, u107, u108, u109, u110, u111, u112, u113, u114, u115, u116, u117, u118, u119, u120, u121, u122, u123, u124, u125, u126, u127, u128, u129, u130, u131, u132, u133, u134, u135, u136, u137, u138, u139, u140, u141, u142, u143, u144, u145, u146, u147, u148, u149, u150, u151, u152, u153, u154, u155, u156, u157, u158, u159, u160, u161, u162, u163, u164, u165, u166, u167, u168, u169, u170, u171, u172, u173, u174, u175, u176, u177, u178, u179, u180, u181, u182, u183, u184, u185, u186, u187, u188, u189, u190, u191, u192, u193, u194, u195, u196, u197, u198, u199, u200, u201, u202, u203, u204, u205, u206, u207, u208, u209, u210, u211, u212, u213, u214, u215, u216, u217, u218, u219, u220, u221, u222, u223, u224, u225, u226, u227, u228, u229, u230, u231, u232, u233, u234, u235, u236, u237, u238, u239, u240, u241, u242, u243, u244, u245, u246, u247, u248, u249, u250, u251, u252, u253, u254, u255, u256, u257, u258, u259, u260, u261, u262, u263, u264, u265, u266, u267, u268, u269, u270, u271, u272, u273, u274, u275, u276, u277, u278, u279, u280, u281, u282, u283, u284, u285, u286, u287, u288, u289, u290, u291, u292, u293, u294, u295, u296, u297, u298, u299, u300, u301, u302, u303, u304], []⟩ wc := by
  conv => arg 2; whnf
  have hS0 := hA.out
  obtain ⟨V1, V2⟩ := hV.out
  clear hA hV
  by_cases hk : K1 = 0
  · have hkt : (K1 != 0) = false := by simpa using hk
    obtain ⟨hp, hv⟩ := V1 hk
    have hva := fun W => iValueAt_any a b c d v x W
    rw [hp] at hva
    have hv' : va0 a b c d v x = n1 ∨ (¬ va0 a b c d v x = n1 ∧ IntKind.i64.wrap (-n1) = va0 a b c d v x) := hv.imp id (fun h => ⟨h.1, by rw [IntWalk.i64_left]; exact h.2⟩)
    generalize va0 a b c d v x = y at hva hv'
    have HVA := hid hva; have HV := hid hv'
    clear hva hv hv' V1 V2 hp hk
    obtain ⟨⟨_, f0, f1, f2, f3, _⟩, ⟨_, x0, x1, x2, _⟩⟩ := id hS0
    go_wp2_with fail
    refine (HVA.out _).mono ?_
    rintro e w1 ⟨rfl, hb1⟩
    have U1 : Below w.heap.size w w1 := by (repeat' (first | with_reducible exact Below.refl _ _ | with_reducible assumption | with_reducible refine gr_alloc ?_ _ | with_reducible refine gr_drew ?_ | with_reducible refine gr_drewN ?_ _ | with_reducible refine gr_trans ?_ (by assumption) | with_reducible refine gr_set ?_ ?_ _ | (simp; done) | omega | (simp; omega)))
    clear f0 f1 f2 f3 x0 x1 x2 hS0
    rcases HV.out with rfl | ⟨hne, hw⟩
    · go_wp2_with fail
      go_ret
      exact ⟨ret_bool (by simp), by (repeat' (first | with_reducible exact Below.refl _ _ | with_reducible assumption | with_reducible refine gr_alloc ?_ _ | with_reducible refine gr_drew ?_ | with_reducible refine gr_drewN ?_ _ | with_reducible refine gr_trans ?_ (by assumption) | with_reducible refine gr_set ?_ ?_ _ | (simp; done) | omega | (simp; omega)))⟩
    · have h1 : (y == n1) = false := by simpa using hne
      have h2 : (y == y) = true := by simp
      go_wp2_with fail
      go_ret
      exact ⟨ret_bool (by simp), by (repeat' (first | with_reducible exact Below.refl _ _ | with_reducible assumption | with_reducible refine gr_alloc ?_ _ | with_reducible refine gr_drew ?_ | with_reducible refine gr_drewN ?_ _ | with_reducible refine gr_trans ?_ (by assumption) | with_reducible refine gr_set ?_ ?_ _ | (simp; done) | omega | (simp; omega)))⟩
  · have hkt : (K1 != 0) = true := by simpa using hk
    have e := V2 hk
    subst e
    clear V1 V2 hk hS0
    go_wp2_with fail
    go_ret
    exact ⟨ret_bool (by simp), by (repeat' (first | with_reducible exact Below.refl _ _ | with_reducible assumption | with_reducible refine gr_alloc ?_ _ | with_reducible refine gr_drew ?_ | with_reducible refine gr_drewN ?_ _ | with_reducible refine gr_trans ?_ (by assumption) | with_reducible refine gr_set ?_ ?_ _ | (simp; done) | omega | (simp; omega)))⟩


end Go.Proofs.YtdogkkmdccieiaaDoor
