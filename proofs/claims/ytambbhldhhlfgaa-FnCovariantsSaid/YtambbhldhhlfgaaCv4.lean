/- FnCovariants, cut: changed quadratic forms have the values at the places changed. -/
import Derived.Test.YtambbhldhhlfgaaCv3
import Derived.Test.YtambbhldhhlfgaaCv5
import Derived.Test.YtambbhldhhlfgaaMath
namespace Go.Proofs.Ytambbhldhhlfgaa
open Go.ChangeShapes Go.WideShapes Go.ChangeAt Go.RowKit

theorem wr_am3 (a k p : Int) : wrap64 (a + wrap64 k * p) = wrap64 (a + k * p) := by rw [← wr_ar, wr_ml, wr_ar]
theorem wr_mm3 (h k1 p k2 q k3 r : Int) : wrap64 (h + wrap64 k1 * p + wrap64 k2 * q + wrap64 k3 * r) = wrap64 (h + k1 * p + k2 * q + k3 * r) := by
  rw [wr_am3, ← wr_al (h + wrap64 k1 * p + wrap64 k2 * q), wr_am3, ← wr_al (h + wrap64 k1 * p), wr_am3]
  simp only [wr_al]
theorem qv_wr (a b c x y : Int) : qv a b c x y = wrap64 (a * x * x + b * x * y + c * y * y) := by
  simp only [qv, pl, mu, wr_al, wr_ar, wr_ml]
theorem qm_wr (a b c p q r s : Int) : qm a b c p q r s = wrap64 (2 * a * p * q + b * (p * s + q * r) + 2 * c * r * s) := by
  simp only [qm, pl, mu, wr_al, wr_ar, wr_ml, wr_mr]
/-- A changed quadratic form has at 1, -2 the value of the form at the place changed. -/
theorem qv_ch (a b c p q r s : Int) : qv (qv a b c p r) (qm a b c p q r s) (qv a b c q s) 1 (-2) = qv a b c (p - 2 * q) (r - 2 * s) := by
  rw [qv_wr (qv a b c p r), qv_wr a b c p r, qv_wr a b c q s, qm_wr, qv_wr a b c (p - 2 * q)]
  have e : ∀ A B C : Int, A * 1 * 1 + B * 1 * -2 + C * -2 * -2 = 0 + A * 1 + B * -2 + C * 4 := fun A B C => by omega
  rw [e, wr_mm3]
  exact congrArg wrap64 (by grind)
theorem cqc_0 {a b c p q r s : Int} (h : cqc a b c p q r s = 0) : isQ a b c = true ∧ isF p q r s = true ∧ isQ (qv a b c p r) (qm a b c p q r s) (qv a b c q s) = true := by
  unfold cqc at h
  split at h <;> (try split at h) <;> simp_all

def snd2 : Code → Code
  | .seq (.seq _ b) _ => b
  | c => c
noncomputable def snd22 : Code := snd2 (cseg 177)
theorem cseg177_eq : cseg 177 = .seq (.seq fst22 snd22) (cseg 219) := by kernel_rfl

set_option maxRecDepth 1000000 in
set_option maxHeartbeats 8000000 in
theorem cseg177_any (w : World) (a0 : Option Addr) (len0 cap0 : Nat) (z0 : List Int) (HR : Hid (IsRow .u8 w a0 len0 cap0 z0)) (hlen : len0 ≤ 9223372036854775807) (wc : World) (hcut : Below w.heap.size w wc) (j1 jb j3 : Nat) (x y z p q r s n0 n1 n2 K : Int) (F : Arr3 wc j1 x y z) (L : Arr wc jb p q r s) (X : Arr3 wc j3 n0 n1 n2) (HK : Hid (K = cqc x y z p q r s)) (HN0 : Hid (n0 = if0 K (qv x y z p r))) (HN1 : Hid (n1 = if0 K (qm x y z p q r s))) (HN2 : Hid (n2 = if0 K (qv x y z q s))) (u1 u2 u3 u4 u5 u6 u7 u8 u9 u10 u11 u12 u13 u14 u15 u20 u21 u22 u23 u24 u25 u26 u27 u28 u29 u30 u31 u32 u33 u34 u35 u36 u37 u38 u39 u40 u41 u42 u43 u44 u45 u46 u47 u48 u49 u50 u51 u52 u53 u54 u55 u56 u57 u58 u59 u60 u61 u62 u63 u64 u65 u66 u67 u68 u69 u70 u71 u72 u73 u74 u75 u76 u77 u78 u79 u80 u81 u82 u83 u84 u85 u86 u87 u88 u89 u90 u91 u92 u93 u94 u95 u96 u97 u98 u99 u100 u101 u102 u103 u104 u105 u106 u107 u108 u109 u110 u111 u112 u113 u114 u115 u116 u117 u118 u119 u120 u121 u122 u123 u124 u125 u126 u127 u128 u129 u130 u131 u132 u133 u134 u135 u136 u137 u138 u139 u140 u141 u142 u143 u144 u145 u146 u147 u148 u149 u150 u151 u152 u153 u154 u155 u156 u157 u158 u159 u160 u161 u162 u163 u164 u165 u166 u167 u168 u169 u170 u171 u172 u173 u174 u175 u176 u177 u178 u179 u180 u181 u182 u183 u184 u185 u186 u187 u188 u189 u190 u191 u192 u193 u194 u195 u196 u197 u198 u199 u200 u201 u202 u203 u204 u205 u206 u207 u208 u209 u210 u211 u212 u213 u214 u215 u216 u217 u218 u219 u220 u221 u222 u223 u224 u225 u226 u227 u228 u229 u230 u231 u232 u233 u234 u235 u236 u237 u238 u239 u240 u241 u242 u243 u244 u245 u246 u247 u248 u249 u250 u251 u252 u253 u254 u255 u256 u257 u258 u259 u260 u261 u262 u263 u264 u265 u266 u267 u268 u269 u270 u271 u272 u273 u274 u275 u276 u277 u278 u279 u280 u281 u282 u283 u284 u285 u286 u287 u288 u289 u290 u291 u292 u293 u294 u295 u296 u297 u298 u299 u300 u301 u302 u303 u304 u305 u306 u307 u308 u309 u310 u311 u312 u313 u314 u315 u316 u317 u318 u319 u320 u321 u322 u323 u324 u325 u326 u327 u328 u329 u330 u331 u332 u333 u334 u335 u336 u337 u338 u339 u340 u341 u342 u343 u344 u345 u346 : Value) :
    Code.wp Try.prog (cseg 177) (bodyPost Try.prog Try.f4 fun e w' => e = .returned (.bool true) ∧ Below w.heap.size w w') ⟨#[.slice a0 len0 cap0, u1, u2, u3, u4, u5, u6, u7, u8, u9, u10, u11, u12, u13, u14, u15, .pointer (some ⟨j1, 0, none⟩), .pointer (some ⟨jb, 0, none⟩), .pointer (some ⟨j3, 0, none⟩), .int .i64 K, u20, u21, u22, u23, u24, u25, u26, u27, u28, u29, u30, u31, u32, u33, u34, u35, u36, u37, u38, u39, u40, u41, u42, u43, u44, u45, u46, u47, u48, u49, u50, u51, u52, u53, u54, u55, u56, u57, u58, u59, u60, u61, u62, u63, u64, u65, u66, u67, u68, u69, u70, u71, u72, u73, u74, u75, u76, u77, u78, u79, u80, u81, u82, u83, u84, u85, u86, u87, u88, u89, u90, u91, u92, u93, u94, u95, u96, u97, u98, u99, u100, u101, u102, u103, u104, u105, u106, u107, u108, u109, u110, u111, u112, u113, u114, u115, u116, u117, u118, u119, u120, u121, u122, u123, u124, u125, u126, u127, u128, u129, u130, u131, u132, u133, u134, u135, u136, u137, u138, u139, u140, u141, u142, u143, u144, u145, u146, u147, u148, u149, u150, u151, u152, u153, u154, u155, u156, u157, u158, u159, u160, u161, u162, u163, u164, u165, u166, u167, u168, u169, u170, u171, u172, u173, u174, u175, u176, u177, u178, u179, u180, u181, u182, u183, u184, u185, u186, u187, u188, u189, u190, u191, u192, u193, u194, u195, u196, u197, u198, u199, u200, u201, u202, u203, u204, u205, u206, u207, u208, u209, u210, u211, u212, u213, u214, u215, u216, u217, u218, u219, u220, u221, u222, u223, u224, u225, u226, u227, u228, u229, u230, u231, u232, u233, u234, u235, u236, u237, u238, u239, u240, u241, u242, u243, u244, u245, u246, u247, u248, u249, u250, u251, u252, u253, u254, u255, u256, u257, u258, u259, u260, u261, u262, u263, u264, u265, u266, u267, u268, u269, u270, u271, u272, u273, u274, u275, u276, u277, u278, u279, u280, u281, u282, u283, u284, u285, u286, u287, u288, u289, u290, u291, u292, u293, u294, u295, u296, u297, u298, u299, u300, u301, u302, u303, u304, u305, u306, u307, u308, u309, u310, u311, u312, u313, u314, u315, u316, u317, u318, u319, u320, u321, u322, u323, u324, u325, u326, u327, u328, u329, u330, u331, u332, u333, u334, u335, u336, u337, u338, u339, u340, u341, u342, u343, u344, u345, u346], []⟩ wc := by
  rw [cseg177_eq]
  refine wp_seq_k (fun K0 hK0 => ?_)
  refine wp_seq ?_
  refine r22_any a0 len0 cap0 _ j1 jb j3 p q r s K L _ _ _ _ _ _ _ _ _ _ _ _ _ _ _ _ _ _ _ _ _ _ _ _ _ _ _ _ _ _ _ _ _ _ _ _ _ _ _ _ _ _ _ _ _ _ _ _ _ _ _ _ _ _ _ _ _ _ _ _ _ _ _ _ _ _ _ _ _ _ _ _ _ _ _ _ _ _ _ _ _ _ _ _ _ _ _ _ _ _ _ _ _ _ _ _ _ _ _ _ _ _ _ _ _ _ _ _ _ _ _ _ _ _ _ _ _ _ _ _ _ _ _ _ _ _ _ _ _ _ _ _ _ _ _ _ _ _ _ _ _ _ _ _ _ _ _ _ _ _ _ _ _ _ _ _ _ _ _ _ _ _ _ _ _ _ _ _ _ _ _ _ _ _ _ _ _ _ _ _ _ _ _ _ _ _ _ _ _ _ _ _ _ _ _ _ _ _ _ _ _ _ _ _ _ _ _ _ _ _ _ _ _ _ _ _ _ _ _ _ _ _ _ _ _ _ _ _ _ _ _ _ _ _ _ _ _ _ _ _ _ _ _ _ _ _ _ _ _ _ _ _ _ _ _ _ _ _ _ _ _ _ _ _ _ _ _ _ _ _ _ _ _ _ _ _ _ _ _ _ _ _ _ _ _ _ _ _ _ _ _ _ _ _ _ _ _ _ _ _ _ _ _ _ _ _ _ _ _ _ _ _ _ _ _ _ _ _ _ _ _ _ _ _ _ _ _ _ _ _ _ _ _ _ _ _ _ _ _ _ _ _ _ (fun _ _ _ _ _ _ _ _ _ _ _ _ _ _ _ _ _ _ _ _ _ _ _ _ _ _ _ _ _ _ _ _ _ _ _ _ _ _ _ _ _ bb hbb => ?_)
  have hfin : ∀ wd, Below w.heap.size w wd → ∀ (u2 u22 u23 u24 u25 : Value) (REST : Prop), True := fun _ _ _ _ _ _ _ _ => trivial
  clear hfin
  show Code.wp Try.prog snd22 _ _ _
  conv => arg 2; whnf
  dsimp -failIfUnchanged only
  cases bb
  · go_wp2_with fail
    refine cseg219_any w a0 len0 cap0 z0 HR hlen _ hcut _ _ _ _ _ _ _ _ _ _ _ _ _ _ _ _ _ _ _ _ _ _ _ _ _ _ _ _ _ _ _ _ _ _ _ _ _ _ _ _ _ _ _ _ _ _ _ _ _ _ _ _ _ _ _ _ _ _ _ _ _ _ _ _ _ _ _ _ _ _ _ _ _ _ _ _ _ _ _ _ _ _ _ _ _ _ _ _ _ _ _ _ _ _ _ _ _ _ _ _ _ _ _ _ _ _ _ _ _ _ _ _ _ _ _ _ _ _ _ _ _ _ _ _ _ _ _ _ _ _ _ _ _ _ _ _ _ _ _ _ _ _ _ _ _ _ _ _ _ _ _ _ _ _ _ _ _ _ _ _ _ _ _ _ _ _ _ _ _ _ _ _ _ _ _ _ _ _ _ _ _ _ _ _ _ _ _ _ _ _ _ _ _ _ _ _ _ _ _ _ _ _ _ _ _ _ _ _ _ _ _ _ _ _ _ _ _ _ _ _ _ _ _ _ _ _ _ _ _ _ _ _ _ _ _ _ _ _ _ _ _ _ _ _ _ _ _ _ _ _ _ _ _ _ _ _ _ _ _ _ _ _ _ _ _ _ _ _ _ _ _ _ _ _ _ _ _ _ _ _ _ _ _ _ _ _ _ _ _ _ _ _ _ _ _ _ _ _ _ _ _ _ _ _ _ _ _ _ _ _ _ _ _ _ _ _ _ _ _ _ _ _ _ _ _ _ _ _ _ _ _ _ _ _ _ _ _ _ _ _ _ _ _ _ _ _
  · obtain ⟨hk, ⟨hp1, hp2⟩, ⟨hq1, hq2⟩, ⟨hr1, hr2⟩, ⟨hs1, hs2⟩⟩ := hbb rfl
    clear hbb
    have kk := HK.out
    rw [hk] at kk
    have HKz := hid hk
    obtain ⟨hq, _, hn⟩ := cqc_0 kk.symm
    have e0 : n0 = qv x y z p r := by rw [HN0.out, hk]; simp [if0]
    have e1 : n1 = qm x y z p q r s := by rw [HN1.out, hk]; simp [if0]
    have e2 : n2 = qv x y z q s := by rw [HN2.out, hk]; simp [if0]
    have hch := qv_ch x y z p q r s
    rw [← e0, ← e1, ← e2] at hn hch
    have k1 : qpc n0 n1 n2 1 (-2) = 0 := by unfold qpc; rw [hn]; rfl
    have k2 : qpc x y z (p - 2 * q) (r - 2 * s) = 0 := by
      unfold qpc; rw [hq, rng_mk (show -100 ≤ p - 2 * q by omega) (show p - 2 * q ≤ 100 by omega), rng_mk (show -100 ≤ r - 2 * s by omega) (show r - 2 * s ≤ 100 by omega)]; rfl
    have c1 := fun W => iQuadAt_any n0 n1 n2 1 (-2) W
    have c2 := fun W => iQuadAt_any x y z (p - 2 * q) (r - 2 * s) W
    rw [k1, hch] at c1
    rw [k2] at c2
    simp only [if0, if_true] at c1 c2
    generalize qv x y z (p - 2 * q) (r - 2 * s) = V at c1 c2
    have C1 := hid c1; have C2 := hid c2
    clear c1 c2 k1 k2 hch hn hq e0 e1 e2 kk hk HKz
    obtain ⟨_, x0, x1, x2, _⟩ := id X
    go_wp2_with fail
    refine (C1.out _).mono ?_
    rintro e v1 ⟨rfl, hv1⟩
    have F6 := F.next hv1
    have L6 := L.next hv1
    have U6 := gr_trans hcut hv1
    clear x0 x1 x2 F L X hcut hv1 C1
    obtain ⟨_, f0, f1, f2, _⟩ := id F6
    obtain ⟨_, d0, d1, d2, d3, _⟩ := id L6
    go_wp2_with fail
    refine (C2.out _).mono ?_
    rintro e v2 ⟨rfl, hv2⟩
    have U7 := gr_trans U6 hv2
    clear f0 f1 f2 d0 d1 d2 d3 F6 L6 U6 hv2 C2
    go_wp2_with fail
    refine cseg219_any w a0 len0 cap0 z0 HR hlen _ U7 _ _ _ _ _ _ _ _ _ _ _ _ _ _ _ _ _ _ _ _ _ _ _ _ _ _ _ _ _ _ _ _ _ _ _ _ _ _ _ _ _ _ _ _ _ _ _ _ _ _ _ _ _ _ _ _ _ _ _ _ _ _ _ _ _ _ _ _ _ _ _ _ _ _ _ _ _ _ _ _ _ _ _ _ _ _ _ _ _ _ _ _ _ _ _ _ _ _ _ _ _ _ _ _ _ _ _ _ _ _ _ _ _ _ _ _ _ _ _ _ _ _ _ _ _ _ _ _ _ _ _ _ _ _ _ _ _ _ _ _ _ _ _ _ _ _ _ _ _ _ _ _ _ _ _ _ _ _ _ _ _ _ _ _ _ _ _ _ _ _ _ _ _ _ _ _ _ _ _ _ _ _ _ _ _ _ _ _ _ _ _ _ _ _ _ _ _ _ _ _ _ _ _ _ _ _ _ _ _ _ _ _ _ _ _ _ _ _ _ _ _ _ _ _ _ _ _ _ _ _ _ _ _ _ _ _ _ _ _ _ _ _ _ _ _ _ _ _ _ _ _ _ _ _ _ _ _ _ _ _ _ _ _ _ _ _ _ _ _ _ _ _ _ _ _ _ _ _ _ _ _ _ _ _ _ _ _ _ _ _ _ _ _ _ _ _ _ _ _ _ _ _ _ _ _ _ _ _ _ _ _ _ _ _ _ _ _ _ _ _ _ _ _ _ _ _ _ _ _ _ _ _ _ _ _ _ _ _ _ _ _ _ _ _ _ _

end Go.Proofs.Ytambbhldhhlfgaa
