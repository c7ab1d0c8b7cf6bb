/- FnMatrices, cut: the second block: inverse matrices. -/
import Derived.Test.YtodbbbgokegehaaFm3
namespace Go.Proofs.Ytodbbbgokegehaa
open Go.ChangeShapes Go.WideShapes Go.ChangeAt Go.RowKit

set_option maxRecDepth 1000000 in
set_option maxHeartbeats 8000000 in
theorem seg82_any (w : World) (a0 : Option Addr) (len0 cap0 : Nat) (z0 : List Int) (HR : Hid (IsRow .u8 w a0 len0 cap0 z0)) (hlen : len0 ≤ 9223372036854775807) (wc : World) (hcut : Below w.heap.size w wc) (u1 u2 u3 u4 u5 u6 u7 u8 u9 u10 u11 u12 u13 u14 u15 u16 u17 u18 u19 u20 u21 u22 u23 u24 u25 u26 u27 u28 u29 u30 u31 u32 u33 u34 u35 u36 u37 u38 u39 u40 u41 u42 u43 u44 u45 u46 u47 u48 u49 u50 u51 u52 u53 u54 u55 u56 u57 u58 u59 u60 u61 u62 u63 u64 u65 u66 u67 u68 u69 u70 u71 u72 u73 u74 u75 u76 u77 u78 u79 u80 u81 u82 u83 u84 u85 u86 u87 u88 u89 u90 u91 u92 u93 u94 u95 u96 u97 u98 u99 u100 u101 u102 u103 u104 u105 u106 u107 u108 u109 u110 u111 u112 u113 u114 u115 u116 u117 u118 u119 u120 u121 u122 u123 u124 u125 u126 u127 u128 u129 u130 u131 u132 u133 u134 u135 u136 u137 u138 u139 u140 u141 u142 u143 u144 u145 u146 u147 u148 u149 u150 u151 u152 u153 u154 u155 u156 u157 u158 u159 u160 u161 u162 u163 u164 u165 u166 u167 u168 u169 u170 u171 u172 u173 u174 u175 u176 u177 u178 u179 u180 u181 u182 u183 u184 u185 u186 u187 u188 u189 u190 u191 u192 u193 u194 u195 u196 u197 u198 u199 u200 u201 u202 u203 u204 u205 u206 u207 u208 u209 u210 u211 u212 u213 u214 u215 u216 u217 u218 u219 u220 u221 u222 u223 u224 u225 u226 u227 u228 u229 u230 u231 u232 u233 u234 u235 u236 u237 u238 u239 u240 u241 u242 u243 u244 u245 u246 u247 u248 u249 u250 u251 u252 u253 u254 u255 u256 u257 u258 u259 u260 u261 u262 u263 u264 u265 u266 u267 u268 u269 u270 u271 u272 u273 u274 u275 u276 u277 u278 u279 u280 u281 u282 u283 u284 u285 u286 u287 u288 u289 u290 u291 u292 u293 u294 u295 u296 u297 u298 u299 : Value) :
    Code.wp Try.prog (seg 82) (bodyPost Try.prog Try.f3 fun e w' => e = .returned (.bool true) ∧ Below w.heap.size w w') ⟨#[.slice a0 len0 cap0, u1, u2, u3, u4, u5, u6, u7, u8, u9, u10, u11, u12, u13, u14, u15, u16, u17, u18, u19, u20, u21, u22, u23, u24, u25, u26, u27, u28, u29, u30, u31, u32, u33, u34, u35, u36, u37, u38, u39, u40, u41, u42, u43, u44, u45, u46, u47, u48, u49, u50, u51, u52, u53, u54, u55, u56, u57, u58, u59, u60, u61, u62, u63, u64, u65, u66, u67, u68, u69, u70, u71, u72, u73, u74, u75, u76, u77, u78, u79, u80, u81, u82, u83, u84, u85, u86, u87, u88, u89, u90, u91, u92, u93, u94, u95, u96, u97, u98, u99, u100, u101, u102, u103, u104, u105, u106, u107, u108, u109, u110, u111, u112, u113, u114, u115, u116, u117, u118, u119, u120, u121, u122, u123, u124, u125, u126, u127, u128, u129, u130, u131, u132, u133, u134, u135, u136, u137, u138, u139, u140, u141, u142, u143, u144, u145, u146, u147, u148, u149, u150, u151, u152, u153, u154, u155, u156, u157, u158, u159, u160, u161, u162, u163, u164, u165, u166, u167, u168, u169, u170, u171, u172, u173, u174, u175, u176, u177, u178, u179, u180, u181, u182, u183, u184, u185, u186, u187, u188, u189, u190, u191, u192, u193, u194, u195, u196, u197, u198, u199, u200, u201, u202, u203, u204, u205, u206, u207, u208, u209, u210, u211, u212, u213, u214, u215, u216, u217, u218, u219, u220, u221, u222, u223, u224, u225, u226, u227, u228, u229, u230, u231, u232, u233, u234, u235, u236, u237, u238, u239, u240, u241, u242, u243, u244, u245, u246, u247, u248, u249, u250, u251, u252, u253, u254, u255, u256, u257, u258, u259, u260, u261, u262, u263, u264, u265, u266, u267, u268, u269, u270, u271, u272, u273, u274, u275, u276, u277, u278, u279, u280, u281, u282, u283, u284, u285, u286, u287, u288, u289, u290, u291, u292, u293, u294, u295, u296, u297, u298, u299], []⟩ wc := by
  have hem := eqMatrix_run
  have hef := eqForm_run
  have HR2 := hid (row8_next HR.out hcut)
  conv => arg 2; whnf
  go_wp2_with fail
  refine (drawInv_any a0 len0 cap0 z0 _ HR2.out hlen).mono ?_
  rintro e w1 ⟨a, b, c, d, rfl, V1⟩
  have U1 := gr_trans hcut V1
  have M2 := Arr.new w1 a b c d 25
  have U2 := gr_alloc U1 (.cells #[.int .i64 a, .int .i64 b, .int .i64 c, .int .i64 d] 25)
  clear U1 V1 hcut HR2
  obtain ⟨K, hK⟩ : ∃ K, K = ivc a b c d := ⟨_, rfl⟩
  obtain ⟨n0, hn0⟩ : ∃ n, n = if0 K (det a b c d * d) := ⟨_, rfl⟩
  obtain ⟨n1, hn1⟩ : ∃ n, n = if0 K (-(det a b c d * b)) := ⟨_, rfl⟩
  obtain ⟨n2, hn2⟩ : ∃ n, n = if0 K (-(det a b c d * c)) := ⟨_, rfl⟩
  obtain ⟨n3, hn3⟩ : ∃ n, n = if0 K (det a b c d * a) := ⟨_, rfl⟩
  have hi := fun W => iInverse_any a b c d W
  have hs := fun W => sInverse_any a b c d W
  rw [← hK, ← hn0, ← hn1, ← hn2, ← hn3] at hi hs
  have HI := hid hi; have HS := hid hs; have HK := hid hK; have HN0 := hid hn0; have HN1 := hid hn1; have HN2 := hid hn2; have HN3 := hid hn3
  clear hi hs hK hn0 hn1 hn2 hn3
  go_wp2_with fail
  refine (HI.out _).mono ?_
  rintro e w3 ⟨rfl, hb3⟩
  have M3 := (M2.next hb3).alloc (.cells #[.int .i64 n0, .int .i64 n1, .int .i64 n2, .int .i64 n3] 25)
  have X3 := Arr.new w3 n0 n1 n2 n3 25
  have U3 := gr_alloc (gr_trans U2 hb3) (.cells #[.int .i64 n0, .int .i64 n1, .int .i64 n2, .int .i64 n3] 25)
  have hl3 := (M2.next hb3).lt
  clear M2 U2 hb3 HI
  obtain ⟨_, m0, m1, m2, m3, _⟩ := id M3
  go_wp2_with fail
  refine (HS.out _).mono ?_
  rintro e w4 ⟨rfl, hb4⟩
  clear m0 m1 m2 m3
  have M4 := (M3.next hb4).alloc (.cells #[.int .i64 n0, .int .i64 n1, .int .i64 n2, .int .i64 n3] 25)
  have X4 := (X3.next hb4).alloc (.cells #[.int .i64 n0, .int .i64 n1, .int .i64 n2, .int .i64 n3] 25)
  have Y4 := Arr.new w4 n0 n1 n2 n3 25
  have U4 := gr_alloc (gr_trans U3 hb4) (.cells #[.int .i64 n0, .int .i64 n1, .int .i64 n2, .int .i64 n3] 25)
  have hl4 := (X3.next hb4).lt
  clear M3 X3 U3 hb4 HS
  go_upto_region 17 with fail
  generalize hj1 : w1.heap.size = k1 at M4 hl3 ⊢
  generalize hj3 : w3.heap.size = k3 at X4 hl3 hl4 ⊢
  generalize hj4 : w4.heap.size = k4 at Y4 hl4 ⊢
  generalize w4.alloc (.cells #[.int .i64 n0, .int .i64 n1, .int .i64 n2, .int .i64 n3] 25) = W at M4 X4 Y4 U4 ⊢
  clear hj1 hj3 hj4 hl3 hl4
  obtain ⟨_, x0, x1, x2, x3, _⟩ := id X4
  obtain ⟨_, y0, y1, y2, y3, _⟩ := id Y4
  go_upto_if 136 with (fail)
  clear x0 x1 x2 x3 y0 y1 y2 y3 Y4
  go_cut [] (fun wx => Below w.heap.size w wx)
  case first =>
    by_cases hk : K = 0
    · have kk := HK.out
      rw [hk] at kk
      obtain ⟨hf, hg⟩ := ivc_0 kk.symm
      obtain ⟨g, hgd⟩ : ∃ g, g = det a b c d := ⟨_, rfl⟩
      rw [← hgd] at hg
      have e0 : n0 = g * d := by rw [HN0.out, hk, hgd]; simp [if0]
      have e1 : n1 = -(g * b) := by rw [HN1.out, hk, hgd]; simp [if0]
      have e2 : n2 = -(g * c) := by rw [HN2.out, hk, hgd]; simp [if0]
      have e3 : n3 = g * a := by rw [HN3.out, hk, hgd]; simp [if0]
      have hif := inv_isF hf hg
      obtain ⟨q0, q1, q2, q3⟩ := inv_mul hf hgd.symm hg
      rw [← e0, ← e1, ← e2, ← e3] at hif
      rw [← e0, ← e2] at q0 q2
      rw [← e1, ← e3] at q1 q3
      have hmc : mulc a b c d n0 n1 n2 n3 = 0 := by simp only [mulc, hf, hif, q0, q1, q2, q3]; rfl
      have hm := fun W => iMul_any a b c d n0 n1 n2 n3 W
      rw [hmc, q0, q1, q2, q3] at hm
      have HM := hid hm
      clear hm hmc q0 q1 q2 q3 hif e0 e1 e2 e3 hg hgd hf kk
      subst hk
      obtain ⟨_, m0, m1, m2, m3, _⟩ := id M4
      obtain ⟨_, x0, x1, x2, x3, _⟩ := id X4
      go_wp2_with fail
      refine (HM.out _).mono ?_
      simp only [if0, if_true]
      rintro e v1 ⟨rfl, hv1⟩
      have U5 := gr_alloc (gr_trans U4 hv1) (.cells #[.int .i64 1, .int .i64 0, .int .i64 0, .int .i64 1] 25)
      clear m0 m1 m2 m3 x0 x1 x2 x3 M4 X4 U4 hv1 HM
      go_wp2_with fail
      go_meet
      exact U5
    · have hkf : (K == 0) = false := by simpa using hk
      clear hk
      go_wp2_with fail
      go_meet
      exact U4
  case rest =>
    go_step
    exact seg136_any w a0 len0 cap0 z0 HR hlen wc hcut _ _ _ _ _ _ _ _ _ _ _ _ _ _ _ _ _ _ _ _ _ _ _ _ _ _ _ _ _ _ _ _ _ _ _ _ _ _ _ _ _ _ _ _ _ _ _ _ _ _ _ _ _ _ _ _ _ _ _ _ _ _ _ _ _ _ _ _ _ _ _ _ _ _ _ _ _ _ _ _ _ _ _ _ _ _ _ _ _ _ _ _ _ _ _ _ _ _ _ _ _ _ _ _ _ _ _ _ _ _ _ _ _ _ _ _ _ _ _ _ _ _ _ _ _ _ _ _ _ _ _ _ _ _ _ _ _ _ _ _ _ _ _ _ _ _ _ _ _ _ _ _ _ _ _ _ _ _ _ _ _ _ _ _ _ _ _ _ _ _ _ _ _ _ _ _ _ _ _ _ _ _ _ _ _ _ _ _ _ _ _ _ _ _ _ _ _ _ _ _ _ _ _ _ _ _ _ _ _ _ _ _ _ _ _ _ _ _ _ _ _ _ _ _ _ _ _ _ _ _ _ _ _ _ _ _ _ _ _ _ _ _ _ _ _ _ _ _ _ _ _ _ _ _ _ _ _ _ _ _ _ _ _ _ _ _ _ _ _ _ _ _ _ _ _ _ _ _ _ _ _ _ _ _ _ _ _ _ _ _ _ _ _ _ _ _ _ _ _

end Go.Proofs.Ytodbbbgokegehaa
