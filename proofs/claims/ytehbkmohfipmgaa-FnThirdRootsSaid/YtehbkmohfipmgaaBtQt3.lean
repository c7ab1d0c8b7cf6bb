/- FnThirdRoots, cut: is it a triple form? -/
import Derived.Test.YtehbkmohfipmgaaBtQt2
import Derived.Deep.DeepCutAuto
namespace Go.Proofs.Ytehbkmohfipmgaa
open Go.ChangeShapes Go.WideShapes Go.ChangeAt Go.RowKit

set_option maxRecDepth 1000000 in
set_option maxHeartbeats 8000000 in
theorem tseg124_any (w : World) (a0 : Option Addr) (len0 cap0 : Nat) (wc : World) (hcut0 : Below w.heap.size w wc) (jf jr jq : Nat) (a b c d r0 r1 r2 q0 q1 q2 : Int) (v4 : Value) (L : Nat) (G : Nat → Int) (v19 : Value) (M : Nat) (H : Nat → Int) (k1 k2 k3 k4 n : Int) (tr : Bool) (hE : Hid (TrB wc jf jr jq a b c d r0 r1 r2 q0 q1 q2 v4 L G v19 M H)) (hQ3 : Hid (TrQ3 L G k1)) (hQ2 : Hid (TrQ2 a b c d r0 r1 r2 k2 k3 tr)) (u1 u2 u3 u6 u7 u11 u12 u15 u16 u21 u22 u23 u24 u25 u26 u27 u28 u29 u30 u31 u32 u33 u34 u35 u36 u37 u38 u39 u40 u41 u42 u43 u44 u45 u46 u47 u48 u49 u50 u51 u52 u53 u54 u55 u56 u57 u58 u59 u60 u61 u62 u63 u64 u65 u66 u67 u68 u69 u70 u71 u72 u73 u74 u75 u76 u77 u78 u79 u80 u81 u82 u83 u84 u85 u86 u87 u88 u89 u90 u91 u92 u93 u94 u95 u96 u97 u98 u99 u100 u101 u102 u103 u104 u105 u106 u107 u108 u109 u110 u111 u112 u113 u114 u115 u116 u117 u118 u119 u120 u121 u122 u123 u124 u125 u126 u127 u128 u129 u130 u131 u132 u133 u134 u135 u136 u137 u138 u139 u140 u141 u142 u143 u144 u145 u146 u147 u148 u149 u150 u151 u152 u153 u154 u155 u156 u157 u158 u159 u160 u161 u162 u163 u164 u165 u166 u167 u168 u169 u170 u171 u172 u173 u174 u175 u176 u177 u178 u179 u180 u181 u182 u183 u184 u185 u186 u187 u188 u189 u190 u191 u192 u193 u194 u195 u196 u197 u198 u199 u200 u201 u202 u203 u204 u205 u206 u207 u208 u209 u210 u211 u212 u213 u214 u215 u216 u217 u218 u219 u220 u221 u222 u223 u224 u225 u226 u227 u228 u229 u230 u231 u232 u233 u234 u235 u236 u237 u238 : Value) :
    Code.wp Try.prog (tseg 124) (bodyPost Try.prog Try.f4 fun e w' => e = .returned (.bool true) ∧ Below w.heap.size w w') ⟨#[.slice a0 len0 cap0, u1, u2, u3, v4, .int .i64 k1, u6, u7, .pointer (some ⟨jf, 0, none⟩), .pointer (some ⟨jr, 0, none⟩), .int .i64 k2, u11, u12, .bool tr, .int .i64 k3, u15, u16, .pointer (some ⟨jq, 0, none⟩), .int .i64 n, v19, .int .i64 k4, u21, u22, u23, u24, u25, u26, u27, u28, u29, u30, u31, u32, u33, u34, u35, u36, u37, u38, u39, u40, u41, u42, u43, u44, u45, u46, u47, u48, u49, u50, u51, u52, u53, u54, u55, u56, u57, u58, u59, u60, u61, u62, u63, u64, u65, u66, u67, u68, u69, u70, u71, u72, u73, u74, u75, u76, u77, u78, u79, u80, u81, u82, u83, u84, u85, u86, u87, u88, u89, u90, u91, u92, u93, u94, u95, u96, u97, u98, u99, u100, u101, u102, u103, u104, u105, u106, u107, u108, u109, u110, u111, u112, u113, u114, u115, u116, u117, u118, u119, u120, u121, u122, u123, u124, u125, u126, u127, u128, u129, u130, u131, u132, u133, u134, u135, u136, u137, u138, u139, u140, u141, u142, u143, u144, u145, u146, u147, u148, u149, u150, u151, u152, u153, u154, u155, u156, u157, u158, u159, u160, u161, u162, u163, u164, u165, u166, u167, u168, u169, u170, u171, u172, u173, u174, u175, u176, u177, u178, u179, u180, u181, u182, u183, u184, u185, u186, u187, u188, u189, u190, u191, u192, u193, u194, u195, u196, u197, u198, u199, u200, u201, u202, u203, u204, u205, u206, u207, u208, u209, u210, u211, u212, u213, u214, u215, u216, u217, u218, u219, u220, u221, u222, u223, u224, u225, u226, u227, u228, u229, u230, u231, u232, u233, u234, u235, u236, u237, u238], []⟩ wc := by
  dsimp only
  conv => arg 2; whnf
  go_upto_region 29 with fail
  go_cut [153] (fun s153 wx => (∃ bq, s153 = .bool bq ∧ bq = false) ∧ wc = wx)
  case first =>
    by_cases h3 : k3 = 0
    · have hb3 : (k3 == 0) = true := by simpa using h3
      have ht0 := hQ2.out.1 h3
      by_cases h2 : k2 = 0
      · have hb2 : (k2 == 0) = true := by simpa using h2
        have ht : tr = true := by rw [ht0]; simpa using h2
        have HT := hid ht
        clear h3 h2 hQ2 hQ3 hE ht ht0
        go_wp2_with fail
        go_meet
        exact ⟨⟨_, rfl, by have := HT.out; simp [this]⟩, rfl⟩
      · have hb2 : (k2 == 0) = false := by simpa using h2
        have ht : tr = false := by rw [ht0]; simpa using h2
        have HT := hid ht
        clear h3 h2 hQ2 hQ3 hE ht ht0
        go_wp2_with fail
        go_meet
        exact ⟨⟨_, rfl, by have := HT.out; simp [this]⟩, rfl⟩
    · have hb3 : (k3 == 0) = false := by simpa using h3
      clear h3 hQ2 hQ3 hE
      go_wp2_with fail
      go_meet
      exact ⟨⟨_, rfl, rfl⟩, rfl⟩
  case rest =>
    obtain ⟨⟨bq, rfl, rfl⟩, rfl⟩ := hcut
    go_upto_if 153 with (fail)
    go_cut [] (fun wx => wc = wx)
    case first =>
      clear hQ2 hQ3 hE
      go_wp2_with fail
      go_meet
      rfl
    case rest =>
      subst hcut
      go_step
      exact tseg153_any w a0 len0 cap0 _ hcut0 jf jr jq a b c d r0 r1 r2 q0 q1 q2 v4 L G v19 M H k1 k2 k3 k4 n tr hE hQ3 hQ2 _ _ _ _ _ _ _ _ _ _ _ _ _ _ _ _ _ _ _ _ _ _ _ _ _ _ _ _ _ _ _ _ _ _ _ _ _ _ _ _ _ _ _ _ _ _ _ _ _ _ _ _ _ _ _ _ _ _ _ _ _ _ _ _ _ _ _ _ _ _ _ _ _ _ _ _ _ _ _ _ _ _ _ _ _ _ _ _ _ _ _ _ _ _ _ _ _ _ _ _ _ _ _ _ _ _ _ _ _ _ _ _ _ _ _ _ _ _ _ _ _ _ _ _ _ _ _ _ _ _ _ _ _ _ _ _ _ _ _ _ _ _ _ _ _ _ _ _ _ _ _ _ _ _ _ _ _ _ _ _ _ _ _ _ _ _ _ _ _ _ _ _ _ _ _ _ _ _ _ _ _ _ _ _ _ _ _ _ _ _ _ _ _ _ _ _ _ _ _ _ _ _ _ _ _ _ _ _ _ _ _ _ _ _ _ _ _ _ _ _ _ _ _ _ _ _ _

end Go.Proofs.Ytehbkmohfipmgaa
