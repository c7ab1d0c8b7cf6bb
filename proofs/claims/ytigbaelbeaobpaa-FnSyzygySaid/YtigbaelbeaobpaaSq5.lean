/- FnSyzygy, cut: the Hessian of the changed form is compared. -/
import Derived.Test.YtigbaelbeaobpaaSq3
namespace Go.Proofs.Ytigbaelbeaobpaa
open Go.ChangeShapes Go.WideShapes Go.ChangeAt Go.RowKit

theorem eqQ_run (a b c p q r : Int) (w : World) : (Op.equalIn 10000 41 (.agg #[.int .i64 a, .int .i64 b, .int .i64 c]) (.agg #[.int .i64 p, .int .i64 q, .int .i64 r])).run Try.prog w = .ok (a == p && b == q && c == r) w := by
  have u := Try.underlying2
  have ia := Try.isAgg2
  have z := Try.sizeOf2
  rw [show (10000 : Nat) = 9999 + 1 from rfl, Op.equalIn]
  simp only [Sem.run_bind, run_underlying Try.underlying41, Result.andThen_ok]
  simp only [Std.Legacy.Range.forIn_eq_forIn_range', Std.Legacy.Range.size, Nat.sub_zero, Nat.add_sub_cancel, Nat.div_one, List.range'_succ, List.range'_zero, List.forIn_cons, List.forIn_nil]
  go_simp
  by_cases h1 : a = p <;> by_cases h2 : b = q <;> by_cases h3 : c = r <;> simp [h1, h2, h3]


def hasC (t : Nat) : Code → Bool
  | .cond (.tmp k) _ _ => k == t
  | .seq a b => hasC t a || hasC t b
  | .block _ c => hasC t c
  | .scope c => hasC t c
  | _ => false
def thenC (t : Nat) : Code → Code
  | .cond (.tmp k) a _ => if k == t then a else .skip
  | .seq a b => if hasC t a then thenC t a else thenC t b
  | .scope c => thenC t c
  | .block _ c => thenC t c
  | _ => .skip
def condC (t : Nat) : Code → Code
  | .cond (.tmp k) a b => if k == t then .cond (.tmp k) a b else .skip
  | .seq a b => if hasC t a then condC t a else condC t b
  | .scope c => condC t c
  | .block _ c => condC t c
  | _ => .skip

set_option maxRecDepth 1000000 in
set_option maxHeartbeats 8000000 in
theorem c143_any (w w4 : World) (a0 : Option Addr) (len0 cap0 : Nat) (b : Bool) (j1 j3 : Nat) (p q r s P Q R S n0 n1 n2 n3 b1 b2 b3 d1 d2 d3 e1 e2 e3 k4 k5 k6 : Int)
    (M4 : Arr w4 j1 p q r s) (X4 : Arr w4 (j1 + 1) P Q R S) (Y4 : Arr w4 j3 n0 n1 n2 n3) (U4 : Below w.heap.size w w4)
    (C4 : Hid (∀ W : World, Calls Try.prog 13 #[.agg #[.int .i64 p, .int .i64 q, .int .i64 r, .int .i64 s]] W fun e w' => e = .returned (.tuple #[.agg #[.int .i64 b1, .int .i64 b2, .int .i64 b3], .int .i64 k4]) ∧ Below W.heap.size W w'))
    (C5 : Hid (∀ W : World, Calls Try.prog 14 #[.agg #[.int .i64 b1, .int .i64 b2, .int .i64 b3], .agg #[.int .i64 P, .int .i64 Q, .int .i64 R, .int .i64 S]] W fun e w' => e = .returned (.tuple #[.agg #[.int .i64 d1, .int .i64 d2, .int .i64 d3], .int .i64 k5]) ∧ Below W.heap.size W w'))
    (C6 : Hid (∀ W : World, Calls Try.prog 13 #[.agg #[.int .i64 n0, .int .i64 n1, .int .i64 n2, .int .i64 n3]] W fun e w' => e = .returned (.tuple #[.agg #[.int .i64 e1, .int .i64 e2, .int .i64 e3], .int .i64 k6]) ∧ Below W.heap.size W w'))
    (HQ : Hid (b = true → k4 = 0 ∧ k6 = 0 ∧ k5 = 0 ∧ d1 = e1 ∧ d2 = e2 ∧ d3 = e3)) (u1 u2 u3 u4 u5 u6 u7 u8 u9 u10 u11 u15 u16 u17 u18 u19 u20 u21 u22 u23 u24 u25 u26 u27 u28 u29 u30 u31 u32 u33 u34 u35 u36 u37 u38 u39 u40 u41 u42 u43 u44 u45 u46 u47 u48 u49 u50 u51 u52 u53 u54 u55 u56 u57 u58 u59 u60 u61 u62 u63 u64 u65 u66 u67 u68 u69 u70 u71 u72 u73 u74 u75 u76 u77 u78 u79 u80 u81 u82 u83 u84 u85 u86 u87 u88 u89 u90 u91 u92 u93 u94 u95 u96 u97 u98 u99 u100 u101 u102 u103 u104 u105 u106 u107 u108 u109 u110 u111 u112 u113 u114 u115 u116 u117 u118 u119 u120 u121 u122 u123 u124 u125 u126 u127 u128 u129 u130 u131 u132 u133 u134 u135 u136 u137 u138 u139 u140 u141 u142 u144 u145 u146 u147 u148 u149 u150 u151 u152 u153 u154 u155 u156 u157 u158 u159 u160 u161 u162 u163 u164 u165 u166 u167 u168 u169 u170 u171 u172 u173 u174 u175 u176 u177 u178 u179 u180 u181 u182 u183 u184 u185 u186 u187 u188 u189 u190 u191 u192 u193 u194 u195 u196 u197 u198 u199 u200 u201 u202 u203 u204 u205 u206 u207 u208 u209 u210 u211 u212 u213 u214 u215 u216 u217 u218 u219 u220 u221 u222 u223 u224 u225 u226 u227 u228 u229 u230 u231 u232 u233 u234 u235 u236 u237 u238 u239 u240 u241 u242 u243 u244 u245 u246 u247 u248 u249 u250 u251 u252 u253 u254 u255 u256 u257 u258 u259 u260 u261 u262 u263 u264 u265 u266 u267 u268 u269 u270 u271 u272 u273 u274 u275 u276 u277 u278 u279 u280 u281 u282 u283 u284 u285 u286 u287 u288 u289 u290 u291 u292 u293 u294 u295 u296 u297 u298 u299 u300 u301 u302 u303 u304 u305 u306 u307 u308 u309 u310 u311 u312 u313 u314 u315 u316 u317 u318 u319 u320 : Value) (QQ : Exit → Act → World → Prop)
    (hQ : ∀ v18 v19 v20 v21 v22 v23 v144 v145 v146 v147 v148 v149 v150 v151 v152 v153 v154 v155 v156 v157 v158 v159 v160 v161 v162 v163 v164 v165 v166 v167 v168 v169 v170 v171 v172 v173 v174 : Value, ∀ wx, Below w.heap.size w wx → QQ .normal ⟨((.slice a0 len0 cap0) :: (u1) :: (u2) :: (u3) :: (u4) :: (u5) :: (u6) :: (u7) :: (u8) :: (u9) :: (u10) :: (u11) :: (.pointer (some ⟨j1, 0, none⟩)) :: (.pointer (some ⟨j1 + 1, 0, none⟩)) :: (.pointer (some ⟨j3, 0, none⟩)) :: (u15) :: (u16) :: (u17) :: (v18) :: (v19) :: (v20) :: (v21) :: (v22) :: (v23) :: (u24) :: (u25) :: (u26) :: (u27) :: (u28) :: (u29) :: (u30) :: (u31) :: (u32) :: (u33) :: (u34) :: (u35) :: (u36) :: (u37) :: (u38) :: (u39) :: (u40) :: (u41) :: (u42) :: (u43) :: (u44) :: (u45) :: (u46) :: (u47) :: (u48) :: (u49) :: (u50) :: (u51) :: (u52) :: (u53) :: (u54) :: (u55) :: (u56) :: (u57) :: (u58) :: (u59) :: (u60) :: (u61) :: (u62) :: (u63) :: (u64) :: (u65) :: (u66) :: (u67) :: (u68) :: (u69) :: (u70) :: (u71) :: (u72) :: (u73) :: (u74) :: (u75) :: (u76) :: (u77) :: (u78) :: (u79) :: (u80) :: (u81) :: (u82) :: (u83) :: (u84) :: (u85) :: (u86) :: (u87) :: (u88) :: (u89) :: (u90) :: (u91) :: (u92) :: (u93) :: (u94) :: (u95) :: (u96) :: (u97) :: (u98) :: (u99) :: (u100) :: (u101) :: (u102) :: (u103) :: (u104) :: (u105) :: (u106) :: (u107) :: (u108) :: (u109) :: (u110) :: (u111) :: (u112) :: (u113) :: (u114) :: (u115) :: (u116) :: (u117) :: (u118) :: (u119) :: (u120) :: (u121) :: (u122) :: (u123) :: (u124) :: (u125) :: (u126) :: (u127) :: (u128) :: (u129) :: (u130) :: (u131) :: (u132) :: (u133) :: (u134) :: (u135) :: (u136) :: (u137) :: (u138) :: (u139) :: (u140) :: (u141) :: (u142) :: (.bool b) :: (v144) :: (v145) :: (v146) :: (v147) :: (v148) :: (v149) :: (v150) :: (v151) :: (v152) :: (v153) :: (v154) :: (v155) :: (v156) :: (v157) :: (v158) :: (v159) :: (v160) :: (v161) :: (v162) :: (v163) :: (v164) :: (v165) :: (v166) :: (v167) :: (v168) :: (v169) :: (v170) :: (v171) :: (v172) :: (v173) :: (v174) :: (u175) :: (u176) :: (u177) :: (u178) :: (u179) :: (u180) :: (u181) :: (u182) :: (u183) :: (u184) :: (u185) :: (u186) :: (u187) :: (u188) :: (u189) :: (u190) :: (u191) :: (u192) :: (u193) :: (u194) :: (u195) :: (u196) :: (u197) :: (u198) :: (u199) :: (u200) :: (u201) :: (u202) :: (u203) :: (u204) :: (u205) :: (u206) :: (u207) :: (u208) :: (u209) :: (u210) :: (u211) :: (u212) :: (u213) :: (u214) :: (u215) :: (u216) :: (u217) :: (u218) :: (u219) :: (u220) :: (u221) :: (u222) :: (u223) :: (u224) :: (u225) :: (u226) :: (u227) :: (u228) :: (u229) :: (u230) :: (u231) :: (u232) :: (u233) :: (u234) :: (u235) :: (u236) :: (u237) :: (u238) :: (u239) :: (u240) :: (u241) :: (u242) :: (u243) :: (u244) :: (u245) :: (u246) :: (u247) :: (u248) :: (u249) :: (u250) :: (u251) :: (u252) :: (u253) :: (u254) :: (u255) :: (u256) :: (u257) :: (u258) :: (u259) :: (u260) :: (u261) :: (u262) :: (u263) :: (u264) :: (u265) :: (u266) :: (u267) :: (u268) :: (u269) :: (u270) :: (u271) :: (u272) :: (u273) :: (u274) :: (u275) :: (u276) :: (u277) :: (u278) :: (u279) :: (u280) :: (u281) :: (u282) :: (u283) :: (u284) :: (u285) :: (u286) :: (u287) :: (u288) :: (u289) :: (u290) :: (u291) :: (u292) :: (u293) :: (u294) :: (u295) :: (u296) :: (u297) :: (u298) :: (u299) :: (u300) :: (u301) :: (u302) :: (u303) :: (u304) :: (u305) :: (u306) :: (u307) :: (u308) :: (u309) :: (u310) :: (u311) :: (u312) :: (u313) :: (u314) :: (u315) :: (u316) :: (u317) :: (u318) :: (u319) :: (u320) :: []).toArray, []⟩ wx) :
    Code.wp Try.prog (condC 143 (thenC 130 (Try.f3.body.getD .skip))) QQ ⟨((.slice a0 len0 cap0) :: (u1) :: (u2) :: (u3) :: (u4) :: (u5) :: (u6) :: (u7) :: (u8) :: (u9) :: (u10) :: (u11) :: (.pointer (some ⟨j1, 0, none⟩)) :: (.pointer (some ⟨j1 + 1, 0, none⟩)) :: (.pointer (some ⟨j3, 0, none⟩)) :: (u15) :: (u16) :: (u17) :: (u18) :: (u19) :: (u20) :: (u21) :: (u22) :: (u23) :: (u24) :: (u25) :: (u26) :: (u27) :: (u28) :: (u29) :: (u30) :: (u31) :: (u32) :: (u33) :: (u34) :: (u35) :: (u36) :: (u37) :: (u38) :: (u39) :: (u40) :: (u41) :: (u42) :: (u43) :: (u44) :: (u45) :: (u46) :: (u47) :: (u48) :: (u49) :: (u50) :: (u51) :: (u52) :: (u53) :: (u54) :: (u55) :: (u56) :: (u57) :: (u58) :: (u59) :: (u60) :: (u61) :: (u62) :: (u63) :: (u64) :: (u65) :: (u66) :: (u67) :: (u68) :: (u69) :: (u70) :: (u71) :: (u72) :: (u73) :: (u74) :: (u75) :: (u76) :: (u77) :: (u78) :: (u79) :: (u80) :: (u81) :: (u82) :: (u83) :: (u84) :: (u85) :: (u86) :: (u87) :: (u88) :: (u89) :: (u90) :: (u91) :: (u92) :: (u93) :: (u94) :: (u95) :: (u96) :: (u97) :: (u98) :: (u99) :: (u100) :: (u101) :: (u102) :: (u103) :: (u104) :: (u105) :: (u106) :: (u107) :: (u108) :: (u109) :: (u110) :: (u111) :: (u112) :: (u113) :: (u114) :: (u115) :: (u116) :: (u117) :: (u118) :: (u119) :: (u120) :: (u121) :: (u122) :: (u123) :: (u124) :: (u125) :: (u126) :: (u127) :: (u128) :: (u129) :: (u130) :: (u131) :: (u132) :: (u133) :: (u134) :: (u135) :: (u136) :: (u137) :: (u138) :: (u139) :: (u140) :: (u141) :: (u142) :: (.bool b) :: (u144) :: (u145) :: (u146) :: (u147) :: (u148) :: (u149) :: (u150) :: (u151) :: (u152) :: (u153) :: (u154) :: (u155) :: (u156) :: (u157) :: (u158) :: (u159) :: (u160) :: (u161) :: (u162) :: (u163) :: (u164) :: (u165) :: (u166) :: (u167) :: (u168) :: (u169) :: (u170) :: (u171) :: (u172) :: (u173) :: (u174) :: (u175) :: (u176) :: (u177) :: (u178) :: (u179) :: (u180) :: (u181) :: (u182) :: (u183) :: (u184) :: (u185) :: (u186) :: (u187) :: (u188) :: (u189) :: (u190) :: (u191) :: (u192) :: (u193) :: (u194) :: (u195) :: (u196) :: (u197) :: (u198) :: (u199) :: (u200) :: (u201) :: (u202) :: (u203) :: (u204) :: (u205) :: (u206) :: (u207) :: (u208) :: (u209) :: (u210) :: (u211) :: (u212) :: (u213) :: (u214) :: (u215) :: (u216) :: (u217) :: (u218) :: (u219) :: (u220) :: (u221) :: (u222) :: (u223) :: (u224) :: (u225) :: (u226) :: (u227) :: (u228) :: (u229) :: (u230) :: (u231) :: (u232) :: (u233) :: (u234) :: (u235) :: (u236) :: (u237) :: (u238) :: (u239) :: (u240) :: (u241) :: (u242) :: (u243) :: (u244) :: (u245) :: (u246) :: (u247) :: (u248) :: (u249) :: (u250) :: (u251) :: (u252) :: (u253) :: (u254) :: (u255) :: (u256) :: (u257) :: (u258) :: (u259) :: (u260) :: (u261) :: (u262) :: (u263) :: (u264) :: (u265) :: (u266) :: (u267) :: (u268) :: (u269) :: (u270) :: (u271) :: (u272) :: (u273) :: (u274) :: (u275) :: (u276) :: (u277) :: (u278) :: (u279) :: (u280) :: (u281) :: (u282) :: (u283) :: (u284) :: (u285) :: (u286) :: (u287) :: (u288) :: (u289) :: (u290) :: (u291) :: (u292) :: (u293) :: (u294) :: (u295) :: (u296) :: (u297) :: (u298) :: (u299) :: (u300) :: (u301) :: (u302) :: (u303) :: (u304) :: (u305) :: (u306) :: (u307) :: (u308) :: (u309) :: (u310) :: (u311) :: (u312) :: (u313) :: (u314) :: (u315) :: (u316) :: (u317) :: (u318) :: (u319) :: (u320) :: []).toArray, []⟩ w4 := by
  conv => arg 2; whnf
  dsimp -failIfUnchanged only
  let bq : Exit → Act → World → Prop := bodyPost Try.prog Try.f3 (fun _ _ => True)
  have HK := hid hQ
  clear hQ
  have heq := eqQ_run
  cases b
  · go_wp2_with fail
    exact HK.out _ _ _ _ _ _ _ _ _ _ _ _ _ _ _ _ _ _ _ _ _ _ _ _ _ _ _ _ _ _ _ _ _ _ _ _ _ _ U4
  · obtain ⟨rfl, rfl, rfl, rfl, rfl, rfl⟩ := HQ.out rfl
    clear HQ
    obtain ⟨_, m0, m1, m2, m3, _⟩ := id M4
    go_wp2_with fail
    refine (C4.out _).mono ?_
    rintro e w5 ⟨rfl, hb5⟩
    clear m0 m1 m2 m3
    have X5 := (X4.next hb5).alloc (.cells #[.int .i64 b1, .int .i64 b2, .int .i64 b3] 41)
    have Y5 := (Y4.next hb5).alloc (.cells #[.int .i64 b1, .int .i64 b2, .int .i64 b3] 41)
    have Z5 := Arr3.new w5 b1 b2 b3 41
    have U5 := gr_alloc (gr_trans U4 hb5) (.cells #[.int .i64 b1, .int .i64 b2, .int .i64 b3] 41)
    have hl5 := (Y4.next hb5).lt
    have hl5' := (X4.next hb5).lt
    clear M4 X4 Y4 U4 hb5 C4
    obtain ⟨_, x0, x1, x2, x3, _⟩ := id X5
    obtain ⟨_, v0, v1, v2, _⟩ := id Z5
    go_wp2_with fail
    refine (C5.out _).mono ?_
    rintro e w6 ⟨rfl, hb6⟩
    clear x0 x1 x2 x3 v0 v1 v2
    have Y6 := (Y5.next hb6).alloc (.cells #[.int .i64 d1, .int .i64 d2, .int .i64 d3] 41)
    have Z6 := Arr3.new w6 d1 d2 d3 41
    have U6 := gr_alloc (gr_trans U5 hb6) (.cells #[.int .i64 d1, .int .i64 d2, .int .i64 d3] 41)
    have hl6 := (Y5.next hb6).lt
    clear X5 Y5 Z5 U5 hb6 C5
    obtain ⟨_, x0, x1, x2, x3, _⟩ := id Y6
    go_wp2_with fail
    refine (C6.out _).mono ?_
    rintro e w7 ⟨rfl, hb7⟩
    clear x0 x1 x2 x3
    have Z7 := (Z6.next hb7).alloc (.cells #[.int .i64 d1, .int .i64 d2, .int .i64 d3] 41)
    have T7 := Arr3.new w7 d1 d2 d3 41
    have U7 := gr_alloc (gr_trans U6 hb7) (.cells #[.int .i64 d1, .int .i64 d2, .int .i64 d3] 41)
    have hl7 := (Z6.next hb7).lt
    clear Y6 Z6 U6 hb7 C6
    obtain ⟨_, x0, x1, x2, _⟩ := id Z7
    obtain ⟨_, y0, y1, y2, _⟩ := id T7
    go_wp2_with fail
    exact HK.out _ _ _ _ _ _ _ _ _ _ _ _ _ _ _ _ _ _ _ _ _ _ _ _ _ _ _ _ _ _ _ _ _ _ _ _ _ _ U7

end Go.Proofs.Ytigbaelbeaobpaa
