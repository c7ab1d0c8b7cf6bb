/- FnQuadratics, cut: definite forms. -/
import Derived.Test.YtehbkmohfipmgaaWc1
import Derived.Deep.DeepCutAuto
import Derived.Deep.RegionHeld3
namespace Go.Proofs.Ytehbkmohfipmgaa
open Go.ChangeShapes Go.WideShapes Go.ChangeAt Go.RowKit

set_option maxRecDepth 1000000 in
set_option maxHeartbeats 8000000 in
theorem useg174_any (w : World) (a0 : Option Addr) (len0 cap0 : Nat) (wc : World) (hcut0 : Below w.heap.size w wc) (jq js jc ju : Nat) (a b c x y z p q r s0 s1 s2 : Int) (v19 : Value) (L : Nat) (G : Nat → Int) (k1 k2 k3 k4 k5 d o : Int) (df : Bool) (hE : Hid (QuB wc jq js jc ju a b c x y z p q r s0 s1 s2 v19 L G)) (hQ1 : Hid (QuQ1 a b c x y z p q r k1)) (hQ3 : Hid (df = decide (k2 = 0))) (u1 u2 u7 u8 u10 u12 u13 u16 u17 u21 u22 u25 u26 u27 u28 u29 u30 u31 u32 u33 u34 u35 u36 u37 u38 u39 u40 u41 u42 u43 u44 u45 u46 u47 u48 u49 u50 u51 u52 u53 u54 u55 u56 u57 u58 u59 u60 u61 u62 u63 u64 u65 u66 u67 u68 u69 u70 u71 u72 u73 u74 u75 u76 u77 u78 u79 u80 u81 u82 u83 u84 u85 u86 u87 u88 u89 u90 u91 u92 u93 u94 u95 u96 u97 u98 u99 u100 u101 u102 u103 u104 u105 u106 u107 u108 u109 u110 u111 u112 u113 u114 u115 u116 u117 u118 u119 u120 u121 u122 u123 u124 u125 u126 u127 u128 u129 u130 u131 u132 u133 u134 u135 u136 u137 u138 u139 u140 u141 u142 u143 u144 u145 u146 u147 u148 u149 u150 u151 u152 u153 u154 u155 u156 u157 u158 u159 u160 u161 u162 u163 u164 u165 u166 u167 u168 u169 u170 u171 u172 u173 u174 u175 u176 u177 u178 u179 u180 u181 u182 u183 u184 u185 u186 u187 u188 u189 u190 u191 u192 u193 u194 u195 u196 u197 u198 u199 u200 u201 u202 u203 u204 u205 u206 u207 u208 u209 u210 u211 u212 u213 u214 u215 u216 u217 u218 u219 u220 u221 u222 u223 u224 u225 u226 u227 u228 u229 u230 u231 u232 u233 u234 u235 u236 u237 u238 u239 u240 u241 u242 u243 u244 u245 u246 u247 u248 u249 u250 u251 u252 u253 u254 : Value) :
    Code.wp Try.prog (useg 174) (bodyPost Try.prog Try.f3 fun e w' => e = .returned (.bool true) ∧ Below w.heap.size w w') ⟨#[.slice a0 len0 cap0, u1, u2, .pointer (some ⟨jq, 0, none⟩), .pointer (some ⟨js, 0, none⟩), .pointer (some ⟨jc, 0, none⟩), .int .i64 k1, u7, u8, .pointer (some ⟨ju, 0, none⟩), u10, .int .i64 k2, u12, u13, .bool df, .int .i64 k3, u16, u17, .int .i64 d, v19, .int .i64 k4, u21, u22, .int .i64 o, .int .i64 k5, u25, u26, u27, u28, u29, u30, u31, u32, u33, u34, u35, u36, u37, u38, u39, u40, u41, u42, u43, u44, u45, u46, u47, u48, u49, u50, u51, u52, u53, u54, u55, u56, u57, u58, u59, u60, u61, u62, u63, u64, u65, u66, u67, u68, u69, u70, u71, u72, u73, u74, u75, u76, u77, u78, u79, u80, u81, u82, u83, u84, u85, u86, u87, u88, u89, u90, u91, u92, u93, u94, u95, u96, u97, u98, u99, u100, u101, u102, u103, u104, u105, u106, u107, u108, u109, u110, u111, u112, u113, u114, u115, u116, u117, u118, u119, u120, u121, u122, u123, u124, u125, u126, u127, u128, u129, u130, u131, u132, u133, u134, u135, u136, u137, u138, u139, u140, u141, u142, u143, u144, u145, u146, u147, u148, u149, u150, u151, u152, u153, u154, u155, u156, u157, u158, u159, u160, u161, u162, u163, u164, u165, u166, u167, u168, u169, u170, u171, u172, u173, u174, u175, u176, u177, u178, u179, u180, u181, u182, u183, u184, u185, u186, u187, u188, u189, u190, u191, u192, u193, u194, u195, u196, u197, u198, u199, u200, u201, u202, u203, u204, u205, u206, u207, u208, u209, u210, u211, u212, u213, u214, u215, u216, u217, u218, u219, u220, u221, u222, u223, u224, u225, u226, u227, u228, u229, u230, u231, u232, u233, u234, u235, u236, u237, u238, u239, u240, u241, u242, u243, u244, u245, u246, u247, u248, u249, u250, u251, u252, u253, u254], []⟩ wc := by
  dsimp only
  conv => arg 2; whnf
  go_upto_region 38 with fail
  go_cut [213] (fun s213 wx => (∃ bq, s213 = .bool bq ∧ bq = false) ∧ wc = wx)
  case first =>
    by_cases h3 : k3 = 0
    · have hb3 : (k3 == 0) = true := by simpa using h3
      have ht0 := hQ3.out
      by_cases h2 : k2 = 0
      · have hb2 : (k2 == 0) = true := by simpa using h2
        have ht : df = true := by rw [ht0]; simpa using h2
        have HT := hid ht
        clear h3 h2 hQ3 hQ1 hE ht ht0
        go_wp2_with fail
        go_meet
        exact ⟨⟨_, rfl, by have := HT.out; simp [this]⟩, rfl⟩
      · have hb2 : (k2 == 0) = false := by simpa using h2
        have ht : df = false := by rw [ht0]; simpa using h2
        have HT := hid ht
        clear h3 h2 hQ3 hQ1 hE ht ht0
        go_wp2_with fail
        go_meet
        exact ⟨⟨_, rfl, by have := HT.out; simp [this]⟩, rfl⟩
    · have hb3 : (k3 == 0) = false := by simpa using h3
      clear h3 hQ3 hQ1 hE
      go_wp2_with fail
      go_meet
      exact ⟨⟨_, rfl, rfl⟩, rfl⟩
  case rest =>
    obtain ⟨⟨bq, rfl, rfl⟩, rfl⟩ := hcut
    go_upto_if 213 with (fail)
    go_cut [] (fun wx => wc = wx)
    case first =>
      clear hQ3 hQ1 hE
      go_wp2_with fail
      go_meet
      rfl
    case rest =>
      subst hcut
      go_step
      exact useg213_any w a0 len0 cap0 _ hcut0 jq js jc ju a b c x y z p q r s0 s1 s2 v19 L G k1 k2 k3 k4 k5 d o df hE hQ1 _ _ _ _ _ _ _ _ _ _ _ _ _ _ _ _ _ _ _ _ _ _ _ _ _ _ _ _ _ _ _ _ _ _ _ _ _ _ _ _ _ _ _ _ _ _ _ _ _ _ _ _ _ _ _ _ _ _ _ _ _ _ _ _ _ _ _ _ _ _ _ _ _ _ _ _ _ _ _ _ _ _ _ _ _ _ _ _ _ _ _ _ _ _ _ _ _ _ _ _ _ _ _ _ _ _ _ _ _ _ _ _ _ _ _ _ _ _ _ _ _ _ _ _ _ _ _ _ _ _ _ _ _ _ _ _ _ _ _ _ _ _ _ _ _ _ _ _ _ _ _ _ _ _ _ _ _ _ _ _ _ _ _ _ _ _ _ _ _ _ _ _ _ _ _ _ _ _ _ _ _ _ _ _ _ _ _ _ _ _ _ _ _ _ _ _ _ _ _ _ _ _ _ _ _ _ _ _ _ _ _ _ _ _ _ _ _ _ _ _ _ _ _ _ _ _ _ _ _ _ _ _ _ _ _ _ _ _ _ _ _

end Go.Proofs.Ytehbkmohfipmgaa
