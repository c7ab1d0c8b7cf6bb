/- FnSyzygy, cut: Hessians of changed forms. -/
import Derived.Test.YtigbaelbeaobpaaSq5
namespace Go.Proofs.Ytigbaelbeaobpaa
open Go.ChangeShapes Go.WideShapes Go.ChangeAt Go.RowKit

set_option maxRecDepth 1000000 in
set_option maxHeartbeats 8000000 in
theorem sseg86_any (w : World) (a0 : Option Addr) (len0 cap0 : Nat) (z0 : List Int) (HR : Hid (IsRow .u8 w a0 len0 cap0 z0)) (hlen : len0 ≤ 9223372036854775807) (wc : World) (hcut : Below w.heap.size w wc) (u1 u2 u3 u4 u5 u6 u7 u8 u9 u10 u11 u12 u13 u14 u15 u16 u17 u18 u19 u20 u21 u22 u23 u24 u25 u26 u27 u28 u29 u30 u31 u32 u33 u34 u35 u36 u37 u38 u39 u40 u41 u42 u43 u44 u45 u46 u47 u48 u49 u50 u51 u52 u53 u54 u55 u56 u57 u58 u59 u60 u61 u62 u63 u64 u65 u66 u67 u68 u69 u70 u71 u72 u73 u74 u75 u76 u77 u78 u79 u80 u81 u82 u83 u84 u85 u86 u87 u88 u89 u90 u91 u92 u93 u94 u95 u96 u97 u98 u99 u100 u101 u102 u103 u104 u105 u106 u107 u108 u109 u110 u111 u112 u113 u114 u115 u116 u117 u118 u119 u120 u121 u122 u123 u124 u125 u126 u127 u128 u129 u130 u131 u132 u133 u134 u135 u136 u137 u138 u139 u140 u141 u142 u143 u144 u145 u146 u147 u148 u149 u150 u151 u152 u153 u154 u155 u156 u157 u158 u159 u160 u161 u162 u163 u164 u165 u166 u167 u168 u169 u170 u171 u172 u173 u174 u175 u176 u177 u178 u179 u180 u181 u182 u183 u184 u185 u186 u187 u188 u189 u190 u191 u192 u193 u194 u195 u196 u197 u198 u199 u200 u201 u202 u203 u204 u205 u206 u207 u208 u209 u210 u211 u212 u213 u214 u215 u216 u217 u218 u219 u220 u221 u222 u223 u224 u225 u226 u227 u228 u229 u230 u231 u232 u233 u234 u235 u236 u237 u238 u239 u240 u241 u242 u243 u244 u245 u246 u247 u248 u249 u250 u251 u252 u253 u254 u255 u256 u257 u258 u259 u260 u261 u262 u263 u264 u265 u266 u267 u268 u269 u270 u271 u272 u273 u274 u275 u276 u277 u278 u279 u280 u281 u282 u283 u284 u285 u286 u287 u288 u289 u290 u291 u292 u293 u294 u295 u296 u297 u298 u299 u300 u301 u302 u303 u304 u305 u306 u307 u308 u309 u310 u311 u312 u313 u314 u315 u316 u317 u318 u319 u320 : Value) :
    Code.wp Try.prog (sseg 86) (bodyPost Try.prog Try.f3 fun e w' => e = .returned (.bool true) ∧ Below w.heap.size w w') ⟨#[.slice a0 len0 cap0, u1, u2, u3, u4, u5, u6, u7, u8, u9, u10, u11, u12, u13, u14, u15, u16, u17, u18, u19, u20, u21, u22, u23, u24, u25, u26, u27, u28, u29, u30, u31, u32, u33, u34, u35, u36, u37, u38, u39, u40, u41, u42, u43, u44, u45, u46, u47, u48, u49, u50, u51, u52, u53, u54, u55, u56, u57, u58, u59, u60, u61, u62, u63, u64, u65, u66, u67, u68, u69, u70, u71, u72, u73, u74, u75, u76, u77, u78, u79, u80, u81, u82, u83, u84, u85, u86, u87, u88, u89, u90, u91, u92, u93, u94, u95, u96, u97, u98, u99, u100, u101, u102, u103, u104, u105, u106, u107, u108, u109, u110, u111, u112, u113, u114, u115, u116, u117, u118, u119, u120, u121, u122, u123, u124, u125, u126, u127, u128, u129, u130, u131, u132, u133, u134, u135, u136, u137, u138, u139, u140, u141, u142, u143, u144, u145, u146, u147, u148, u149, u150, u151, u152, u153, u154, u155, u156, u157, u158, u159, u160, u161, u162, u163, u164, u165, u166, u167, u168, u169, u170, u171, u172, u173, u174, u175, u176, u177, u178, u179, u180, u181, u182, u183, u184, u185, u186, u187, u188, u189, u190, u191, u192, u193, u194, u195, u196, u197, u198, u199, u200, u201, u202, u203, u204, u205, u206, u207, u208, u209, u210, u211, u212, u213, u214, u215, u216, u217, u218, u219, u220, u221, u222, u223, u224, u225, u226, u227, u228, u229, u230, u231, u232, u233, u234, u235, u236, u237, u238, u239, u240, u241, u242, u243, u244, u245, u246, u247, u248, u249, u250, u251, u252, u253, u254, u255, u256, u257, u258, u259, u260, u261, u262, u263, u264, u265, u266, u267, u268, u269, u270, u271, u272, u273, u274, u275, u276, u277, u278, u279, u280, u281, u282, u283, u284, u285, u286, u287, u288, u289, u290, u291, u292, u293, u294, u295, u296, u297, u298, u299, u300, u301, u302, u303, u304, u305, u306, u307, u308, u309, u310, u311, u312, u313, u314, u315, u316, u317, u318, u319, u320], []⟩ wc := by
  have HR2 := hid (row8_next HR.out hcut)
  conv => arg 2; whnf
  have hone := True.intro
  go_wp2_with fail
  refine (drawCh_any a0 len0 cap0 z0 _ HR2.out hlen).mono ?_
  rintro e w1 ⟨p, q, r, s, P, Q, R, S, rfl, V1⟩
  have M2 := (Arr.new w1 p q r s 25).alloc (.cells #[.int .i64 P, .int .i64 Q, .int .i64 R, .int .i64 S] 34)
  have X2 := Arr.new (w1.alloc (.cells #[.int .i64 p, .int .i64 q, .int .i64 r, .int .i64 s] 25)) P Q R S 34
  simp only [World.size_alloc] at X2
  have U2 := gr_alloc (gr_alloc (gr_trans hcut V1) (.cells #[.int .i64 p, .int .i64 q, .int .i64 r, .int .i64 s] 25)) (.cells #[.int .i64 P, .int .i64 Q, .int .i64 R, .int .i64 S] 34)
  obtain ⟨n0, hn0⟩ : ∃ n, n = if0 (chc p q r s P Q R S) (cA p q r s P R) := ⟨_, rfl⟩
  obtain ⟨n1, hn1⟩ : ∃ n, n = if0 (chc p q r s P Q R S) (cB p q r s P Q R S) := ⟨_, rfl⟩
  obtain ⟨n2, hn2⟩ : ∃ n, n = if0 (chc p q r s P Q R S) (cC p q r s P Q R S) := ⟨_, rfl⟩
  obtain ⟨n3, hn3⟩ : ∃ n, n = if0 (chc p q r s P Q R S) (cA p q r s Q S) := ⟨_, rfl⟩
  have c1 := fun W => iChangeForm_any p q r s P Q R S W
  rw [← hn0, ← hn1, ← hn2, ← hn3] at c1
  have c3 := fun W => iDet_any P Q R S W
  have c4 := fun W => iHessianOf_any p q r s W
  have c5 := fun W => iChQ_any (ifF p q r s (h1 p q r)) (ifF p q r s (h2 p q r s)) (ifF p q r s (h3 q r s)) P Q R S W
  have c6 := fun W => iHessianOf_any n0 n1 n2 n3 W
  have q1 : chc p q r s P Q R S = 0 → cif P Q R S = 0 ∧ ((det0 P Q R S = 1 ∨ det0 P Q R S = -1) → cif p q r s = 0 ∧ cif n0 n1 n2 n3 = 0 ∧ cqc (ifF p q r s (h1 p q r)) (ifF p q r s (h2 p q r s)) (ifF p q r s (h3 q r s)) P Q R S = 0 ∧
      if0 (cqc (ifF p q r s (h1 p q r)) (ifF p q r s (h2 p q r s)) (ifF p q r s (h3 q r s)) P Q R S) (qv (ifF p q r s (h1 p q r)) (ifF p q r s (h2 p q r s)) (ifF p q r s (h3 q r s)) P R) = ifF n0 n1 n2 n3 (h1 n0 n1 n2) ∧
      if0 (cqc (ifF p q r s (h1 p q r)) (ifF p q r s (h2 p q r s)) (ifF p q r s (h3 q r s)) P Q R S) (qm (ifF p q r s (h1 p q r)) (ifF p q r s (h2 p q r s)) (ifF p q r s (h3 q r s)) P Q R S) = ifF n0 n1 n2 n3 (h2 n0 n1 n2 n3) ∧
      if0 (cqc (ifF p q r s (h1 p q r)) (ifF p q r s (h2 p q r s)) (ifF p q r s (h3 q r s)) P Q R S) (qv (ifF p q r s (h1 p q r)) (ifF p q r s (h2 p q r s)) (ifF p q r s (h3 q r s)) Q S) = ifF n0 n1 n2 n3 (h3 n1 n2 n3)) := fun h => by
    obtain ⟨hf, hm, hn⟩ := chc_0 h
    obtain ⟨hP, hQ, hR, hS⟩ := isF_t hm
    have hd : det0 P Q R S = P * S - Q * R := by
      have : det0 P Q R S = det P Q R S := by simp [det0, hm]
      rw [this]; exact det_eq hP hQ hR hS
    refine ⟨by simp [cif, hm], fun hu => ?_⟩
    rw [h] at hn0 hn1 hn2 hn3
    simp only [if0, if_true] at hn0 hn1 hn2 hn3
    obtain ⟨k1, k2, k3, k4, k5, k6⟩ := sz_hes h hd hu hn0 hn1 hn2 hn3
    rw [k3]
    simp only [if0, if_true]
    exact ⟨k1, k2, trivial, k4, k5, k6⟩
  clear hn0 hn1 hn2 hn3
  generalize if0 (cqc (ifF p q r s (h1 p q r)) (ifF p q r s (h2 p q r s)) (ifF p q r s (h3 q r s)) P Q R S) (qv (ifF p q r s (h1 p q r)) (ifF p q r s (h2 p q r s)) (ifF p q r s (h3 q r s)) P R) = d1 at c5 q1
  generalize if0 (cqc (ifF p q r s (h1 p q r)) (ifF p q r s (h2 p q r s)) (ifF p q r s (h3 q r s)) P Q R S) (qm (ifF p q r s (h1 p q r)) (ifF p q r s (h2 p q r s)) (ifF p q r s (h3 q r s)) P Q R S) = d2 at c5 q1
  generalize if0 (cqc (ifF p q r s (h1 p q r)) (ifF p q r s (h2 p q r s)) (ifF p q r s (h3 q r s)) P Q R S) (qv (ifF p q r s (h1 p q r)) (ifF p q r s (h2 p q r s)) (ifF p q r s (h3 q r s)) Q S) = d3 at c5 q1
  generalize cqc (ifF p q r s (h1 p q r)) (ifF p q r s (h2 p q r s)) (ifF p q r s (h3 q r s)) P Q R S = k5 at c5 q1
  generalize ifF p q r s (h1 p q r) = b1 at c4 c5
  generalize ifF p q r s (h2 p q r s) = b2 at c4 c5
  generalize ifF p q r s (h3 q r s) = b3 at c4 c5
  generalize ifF n0 n1 n2 n3 (h1 n0 n1 n2) = e1 at c6 q1
  generalize ifF n0 n1 n2 n3 (h2 n0 n1 n2 n3) = e2 at c6 q1
  generalize ifF n0 n1 n2 n3 (h3 n1 n2 n3) = e3 at c6 q1
  generalize cif n0 n1 n2 n3 = k6 at c6 q1
  generalize cif p q r s = k4 at c4 q1
  generalize cif P Q R S = k3 at c3 q1
  generalize det0 P Q R S = g at c3 q1
  generalize chc p q r s P Q R S = k at c1 q1
  have C1 := hid c1; have C3 := hid c3; have C4 := hid c4; have C5 := hid c5; have C6 := hid c6; have Q1 := hid q1
  clear c1 c3 c4 c5 c6 q1 hcut V1 HR2
  go_upto_region 13 with fail
  obtain ⟨j1, hj1⟩ : ∃ j, j = w1.heap.size := ⟨_, rfl⟩
  rw [← hj1] at M2 X2
  rw [← hj1]
  generalize (w1.alloc (.cells #[.int .i64 p, .int .i64 q, .int .i64 r, .int .i64 s] 25)).alloc (.cells #[.int .i64 P, .int .i64 Q, .int .i64 R, .int .i64 S] 34) = W2 at M2 X2 U2 ⊢
  clear hj1
  obtain ⟨_, m0, m1, m2, m3, _⟩ := id M2
  obtain ⟨_, x0, x1, x2, x3, _⟩ := id X2
  go_wp2_with fail
  refine (C1.out _).mono ?_
  rintro e w3 ⟨rfl, hb3⟩
  clear m0 m1 m2 m3 x0 x1 x2 x3
  have M3 := (M2.next hb3).alloc (.cells #[.int .i64 n0, .int .i64 n1, .int .i64 n2, .int .i64 n3] 25)
  have X3 := (X2.next hb3).alloc (.cells #[.int .i64 n0, .int .i64 n1, .int .i64 n2, .int .i64 n3] 25)
  have Y3 := Arr.new w3 n0 n1 n2 n3 25
  have U3 := gr_alloc (gr_trans U2 hb3) (.cells #[.int .i64 n0, .int .i64 n1, .int .i64 n2, .int .i64 n3] 25)
  have hl3 := (X2.next hb3).lt
  clear M2 X2 U2 hb3 C1
  go_upto_if 130 with (fail)
  obtain ⟨j3, hj3⟩ : ∃ j, j = w3.heap.size := ⟨_, rfl⟩
  rw [← hj3] at Y3 hl3
  rw [← hj3]
  generalize w3.alloc (.cells #[.int .i64 n0, .int .i64 n1, .int .i64 n2, .int .i64 n3] 25) = W3 at M3 X3 Y3 U3 ⊢
  clear hj3
  go_cut [] (fun wx => Below w.heap.size w wx)
  case first =>
    by_cases hk : k = 0
    · have hkt : (k == 0) = true := by simpa using hk
      obtain ⟨rfl, hq⟩ := Q1.out hk
      have HQ := hid hq
      subst hk
      clear hq Q1
      obtain ⟨_, x0, x1, x2, x3, _⟩ := id X3
      go_wp2_with fail
      refine (C3.out _).mono ?_
      rintro e w4 ⟨rfl, hb4⟩
      clear x0 x1 x2 x3
      have M4 := M3.next hb4
      have X4 := X3.next hb4
      have Y4 := Y3.next hb4
      have U4 := gr_trans U3 hb4
      clear M3 X3 Y3 U3 hb4 C3
      go_upto_region 18 with fail
      go_cut [143] (fun s143 wx => (∃ b : Bool, s143 = .bool b ∧ (b = true ↔ (g = 1 ∨ g = -1))) ∧ w4 = wx)
      case first =>
        by_cases q1 : g = 1
        · have b1 : (g == 1) = true := by simpa using q1
          go_wp2_with fail
          go_meet
          exact ⟨⟨_, rfl, by simp [q1]⟩, rfl⟩
        · have b1 : (g == 1) = false := by simpa using q1
          by_cases q2 : g = -1
          · have b2 : (g == -1) = true := by simpa using q2
            go_wp2_with fail
            go_meet
            exact ⟨⟨_, rfl, by simp [q2]⟩, rfl⟩
          · have b2 : (g == -1) = false := by simpa using q2
            go_wp2_with fail
            go_meet
            exact ⟨⟨_, rfl, by simp [q1, q2]⟩, rfl⟩
      case rest =>
        obtain ⟨⟨b, rfl, hbg⟩, rfl⟩ := hcut
        have HU := hid (fun h : b = true => HQ.out (hbg.1 h))
        clear hbg HQ
        go_step
        refine c143_any w w4 a0 len0 cap0 b j1 j3 p q r s P Q R S n0 n1 n2 n3 b1 b2 b3 d1 d2 d3 e1 e2 e3 _ _ _ M4 X4 Y4 U4 C4 C5 C6 HU _ _ _ _ _ _ _ _ _ _ _ _ _ _ _ _ _ _ _ _ _ _ _ _ _ _ _ _ _ _ _ _ _ _ _ _ _ _ _ _ _ _ _ _ _ _ _ _ _ _ _ _ _ _ _ _ _ _ _ _ _ _ _ _ _ _ _ _ _ _ _ _ _ _ _ _ _ _ _ _ _ _ _ _ _ _ _ _ _ _ _ _ _ _ _ _ _ _ _ _ _ _ _ _ _ _ _ _ _ _ _ _ _ _ _ _ _ _ _ _ _ _ _ _ _ _ _ _ _ _ _ _ _ _ _ _ _ _ _ _ _ _ _ _ _ _ _ _ _ _ _ _ _ _ _ _ _ _ _ _ _ _ _ _ _ _ _ _ _ _ _ _ _ _ _ _ _ _ _ _ _ _ _ _ _ _ _ _ _ _ _ _ _ _ _ _ _ _ _ _ _ _ _ _ _ _ _ _ _ _ _ _ _ _ _ _ _ _ _ _ _ _ _ _ _ _ _ _ _ _ _ _ _ _ _ _ _ _ _ _ _ _ _ _ _ _ _ _ _ _ _ _ _ _ _ _ _ _ _ _ _ _ _ _ _ _ _ _ _ _ _ _ _ _ _ _ _ _ _ _ _ _ _ _ _ _ _ _ _ _ _ _ _ _ _ _ _ _ _ _ _ _ _ _ _ _ _ _ _ _ _ _ _ _ _ _ _ (fun _ _ _ _ _ _ _ _ _ _ _ _ _ _ _ _ _ _ _ _ _ _ _ _ _ _ _ _ _ _ _ _ _ _ _ _ _ wx hwx => ?_)
        go_wp2_with fail
        go_meet
        exact hwx
    · have hkf : (k == 0) = false := by simpa using hk
      clear hk
      go_wp2_with fail
      go_meet
      exact U3
  case rest =>
    have h1 := hcut
    go_step
    exact sseg130_any w a0 len0 cap0 z0 HR hlen _ h1 _ _ _ _ _ _ _ _ _ _ _ _ _ _ _ _ _ _ _ _ _ _ _ _ _ _ _ _ _ _ _ _ _ _ _ _ _ _ _ _ _ _ _ _ _ _ _ _ _ _ _ _ _ _ _ _ _ _ _ _ _ _ _ _ _ _ _ _ _ _ _ _ _ _ _ _ _ _ _ _ _ _ _ _ _ _ _ _ _ _ _ _ _ _ _ _ _ _ _ _ _ _ _ _ _ _ _ _ _ _ _ _ _ _ _ _ _ _ _ _ _ _ _ _ _ _ _ _ _ _ _ _ _ _ _ _ _ _ _ _ _ _ _ _ _ _ _ _ _ _ _ _ _ _ _ _ _ _ _ _ _ _ _ _ _ _ _ _ _ _ _ _ _ _ _ _ _ _ _ _ _ _ _ _ _ _ _ _ _ _ _ _ _ _ _ _ _ _ _ _ _ _ _ _ _ _ _ _ _ _ _ _ _ _ _ _ _ _ _ _ _ _ _ _ _ _ _ _ _ _ _ _ _ _ _ _ _ _ _ _ _ _ _ _ _ _ _ _ _ _ _ _ _ _ _ _ _ _ _ _ _ _ _ _ _ _ _ _ _ _ _ _ _ _ _ _ _ _ _ _ _ _ _ _ _ _ _ _ _ _ _ _ _ _ _ _ _ _ _ _ _ _ _ _ _ _ _ _ _ _ _ _ _ _ _ _ _ _ _ _

end Go.Proofs.Ytigbaelbeaobpaa
