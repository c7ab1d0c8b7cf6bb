/- FnKinds, cut: inside the test whether the kind was told: counts of all kinds. -/
import Derived.Test.YtambbhldhhlfgaaDoorFkKq2
import Derived.Deep.CutBlock
namespace Go.Proofs.YtambbhldhhlfgaaDoor
open Go.ChangeShapes Go.WideShapes Go.ChangeAt Go.RowKit

def thenC (t : Nat) : Code → Code
  | .cond (.tmp k) a _ => if k == t then a else .skip
  | .seq a b => if hasCond t a then thenC t a else thenC t b
  | .scope c => thenC t c
  | _ => .skip
/-- The code behind block t. -/
def hasBlk (t : Nat) : Code → Bool
  | .block k _ => k == t
  | .seq a b => hasBlk t a || hasBlk t b
  | _ => false
def behind (t : Nat) : Code → Code
  | .seq a b => if hasBlk t a then b else behind t b
  | _ => .skip
noncomputable def tseg (t : Nat) : Code := after t (thenC 75 (Tryd.f6.body.getD .skip))
noncomputable def bseg (t : Nat) : Code := behind t (thenC 75 (Tryd.f6.body.getD .skip))


set_option maxRecDepth 1000000 in
set_option maxHeartbeats 8000000 in
theorem tsegB_any (a0 : Option Addr) (len0 cap0 : Nat) (pv : Value) (w9 : World) (p : Int) (G9 : Sen w9 pv) (HP : Hid (prm p = true)) (u1 u2 u3 u5 u6 u7 u8 u9 u10 u11 u12 u13 u14 u15 u16 u17 u18 u19 u20 u21 u22 u23 u24 u25 u26 u27 u28 u29 u30 u31 u32 u33 u34 u35 u36 u37 u38 u39 u40 u41 u42 u43 u44 u45 u46 u47 u48 u49 u50 u51 u52 u53 u54 u55 u56 u57 u58 u59 u60 u61 u62 u63 u64 u65 u66 u67 u68 u69 u70 u71 u72 u73 u74 u75 u76 u77 u78 u79 u80 u81 u82 u83 u84 u85 u86 u87 u88 u89 u90 u91 u92 u93 u94 u95 u96 u97 u98 u99 u100 u101 u102 u103 u104 u105 u106 u107 u108 u109 u110 u111 u112 u113 u114 u115 u116 u117 u118 u119 u120 u121 u122 u123 u124 u125 u126 u127 u128 u129 u130 u131 u132 u133 u134 u135 u136 u137 u138 u139 u140 u141 u142 u143 u144 u145 u146 u147 u148 u149 u150 u151 u152 u153 u154 u155 u156 u157 u158 u159 u160 u161 u162 u163 u164 u165 u166 u167 u168 u169 u170 u171 u172 u173 u174 u175 u176 u177 u178 u179 u180 u181 u182 u183 u184 u185 u186 u187 u188 u189 u190 u191 u192 u193 u194 u195 u196 u197 u198 u199 u200 u201 u202 u203 u204 u205 u206 u207 u208 u209 u210 u211 u212 u213 u214 u215 u216 u217 u218 u219 u220 u221 u222 u223 u224 u225 u226 u227 u228 u229 u230 u231 u232 u233 u234 u235 u236 u237 u238 u239 u240 u241 u242 u243 u244 u245 u246 u247 u248 u249 u250 u251 u252 u253 u254 u255 u256 u257 u258 u259 u260 u261 u262 u263 u264 u265 u266 u267 u268 u269 u270 u271 u272 u273 u274 u275 u276 u277 u278 u279 u280 u281 u282 u283 u284 u285 u286 u287 u288 u289 u290 u291 u292 u293 u294 u295 u296 u297 u298 u299 u300 u301 u302 u303 u304 u305 u306 u307 u308 u309 u310 u311 u312 u313 u314 u315 u316 u317 u318 u319 u320 u321 u322 u323 u324 u325 u326 u327 u328 u329 u330 : Value) (Q : Exit → Act → World → Prop)
    (hQ : ∀ v2 v21 v22 v23 v24 v47 v48 v49 v50 v51 v52 v53 v54 v55 v56 v57 v58 v59 v60 v61 v62 v63 v64 v65 v66 v67 v68 v69 v70 v71 v72 v73 v74 v75 v76 v77 v78 v79 v80 v81 v82 v83 v84 v85 v86 v87 v88 v89 v90 v91 v92 v93 v94 v95 v96 v97 v98 v99 v100 v101 v102 v103 v104 v105 v106 v107 v108 v109 v110 v111 v112 v113 v114 v115 v116 v117 v118 v119 v120 v121 v122 v123 v124 v125 v126 v127 v128 v129 v130 v131 v132 v133 v134 v135 v136 v137 v138 v139 v140 v141 v142 v143 v144 v145 v146 v147 v148 v149 v150 v151 v152 v153 v154 v155 v156 v157 v158 v159 v160 v161 v162 v163 v164 v165 v166 v167 v168 v169 v170 v171 v172 v173 v174 v175 v176 v177 v178 v179 v180 v181 v182 v183 v184 v185 v186 v187 v188 v189 v190 v191 v192 v193 v194 v195 v196 v197 v198 v199 v200 v201 v202 v203 v204 v205 v206 v207 v208 v209 v210 v211 v212 v213 v214 v215 v216 v217 v218 v219 v220 v221 v222 v223 v224 v225 v226 v227 v228 v229 v230 v231 v232 v233 v234 v235 v236 v237 v238 v239 v240 v241 v242 v243 v244 v245 v246 v247 v248 v249 v250 v251 v252 v253 v254 v255 v256 v257 v258 v259 v260 v261 v262 v263 v264 v265 v266 v267 v268 v269 v270 v271 v272 v273 v274 v275 v276 v277 v278 v279 v280 v281 v282 v283 v284 v285 v286 v287 v288 v289 v290 v291 v292 v293 v294 v295 v296 v297 v298 v299 v300 v301 v302 v303 v304 v305 v306 v307 v308 v309 v310 v311 v312 v313 v314 v315 v316 v317 v318 v319 v320 v321 v322 v323 v324 v325 v326 v327 v328 v329 v330 : Value, ∀ wx, Below w9.heap.size w9 wx → Sen wx pv → Q .normal ⟨((.slice a0 len0 cap0) :: (u1) :: (v2) :: (u3) :: (.int .i64 p) :: (u5) :: (u6) :: (u7) :: (u8) :: (u9) :: (u10) :: (u11) :: (u12) :: (u13) :: (u14) :: (u15) :: (u16) :: (u17) :: (u18) :: (u19) :: (u20) :: (v21) :: (v22) :: (v23) :: (v24) :: (u25) :: (u26) :: (u27) :: (u28) :: (u29) :: (u30) :: (u31) :: (u32) :: (u33) :: (u34) :: (u35) :: (u36) :: (u37) :: (u38) :: (u39) :: (u40) :: (u41) :: (u42) :: (u43) :: (u44) :: (u45) :: (u46) :: (v47) :: (v48) :: (v49) :: (v50) :: (v51) :: (v52) :: (v53) :: (v54) :: (v55) :: (v56) :: (v57) :: (v58) :: (v59) :: (v60) :: (v61) :: (v62) :: (v63) :: (v64) :: (v65) :: (v66) :: (v67) :: (v68) :: (v69) :: (v70) :: (v71) :: (v72) :: (v73) :: (v74) :: (v75) :: (v76) :: (v77) :: (v78) :: (v79) :: (v80) :: (v81) :: (v82) :: (v83) :: (v84) :: (v85) :: (v86) :: (v87) :: (v88) :: (v89) :: (v90) :: (v91) :: (v92) :: (v93) :: (v94) :: (v95) :: (v96) :: (v97) :: (v98) :: (v99) :: (v100) :: (v101) :: (v102) :: (v103) :: (v104) :: (v105) :: (v106) :: (v107) :: (v108) :: (v109) :: (v110) :: (v111) :: (v112) :: (v113) :: (v114) :: (v115) :: (v116) :: (v117) :: (v118) :: (v119) :: (v120) :: (v121) :: (v122) :: (v123) :: (v124) :: (v125) :: (v126) :: (v127) :: (v128) :: (v129) :: (v130) :: (v131) :: (v132) :: (v133) :: (v134) :: (v135) :: (v136) :: (v137) :: (v138) :: (v139) :: (v140) :: (v141) :: (v142) :: (v143) :: (v144) :: (v145) :: (v146) :: (v147) :: (v148) :: (v149) :: (v150) :: (v151) :: (v152) :: (v153) :: (v154) :: (v155) :: (v156) :: (v157) :: (v158) :: (v159) :: (v160) :: (v161) :: (v162) :: (v163) :: (v164) :: (v165) :: (v166) :: (v167) :: (v168) :: (v169) :: (v170) :: (v171) :: (v172) :: (v173) :: (v174) :: (v175) :: (v176) :: (v177) :: (v178) :: (v179) :: (v180) :: (v181) :: (v182) :: (v183) :: (v184) :: (v185) :: (v186) :: (v187) :: (v188) :: (v189) :: (v190) :: (v191) :: (v192) :: (v193) :: (v194) :: (v195) :: (v196) :: (v197) :: (v198) :: (v199) :: (v200) :: (v201) :: (v202) :: (v203) :: (v204) :: (v205) :: (v206) :: (v207) :: (v208) :: (v209) :: (v210) :: (v211) :: (v212) :: (v213) :: (v214) :: (v215) :: (v216) :: (v217) :: (v218) :: (v219) :: (v220) :: (v221) :: (v222) :: (v223) :: (v224) :: (v225) :: (v226) :: (v227) :: (v228) :: (v229) :: (v230) :: (v231) :: (v232) :: (v233) :: (v234) :: (v235) :: (v236) :: (v237) :: (v238) :: (v239) :: (v240) :: (v241) :: (v242) :: (v243) :: (v244) :: (v245) :: (v246) :: (v247) :: (v248) :: (v249) :: (v250) :: (v251) :: (v252) :: (v253) :: (v254) :: (v255) :: (v256) :: (v257) :: (v258) :: (v259) :: (v260) :: (v261) :: (v262) :: (v263) :: (v264) :: (v265) :: (v266) :: (v267) :: (v268) :: (v269) :: (v270) :: (v271) :: (v272) :: (v273) :: (v274) :: (v275) :: (v276) :: (v277) :: (v278) :: (v279) :: (v280) :: (v281) :: (v282) :: (v283) :: (v284) :: (v285) :: (v286) :: (v287) :: (v288) :: (v289) :: (v290) :: (v291) :: (v292) :: (v293) :: (v294) :: (v295) :: (v296) :: (v297) :: (v298) :: (v299) :: (v300) :: (v301) :: (v302) :: (v303) :: (v304) :: (v305) :: (v306) :: (v307) :: (v308) :: (v309) :: (v310) :: (v311) :: (v312) :: (v313) :: (v314) :: (v315) :: (v316) :: (v317) :: (v318) :: (v319) :: (v320) :: (v321) :: (v322) :: (v323) :: (v324) :: (v325) :: (v326) :: (v327) :: (v328) :: (v329) :: (v330) :: []).toArray, []⟩ wx) :
    Code.wp Tryd.prog (tseg 183) Q ⟨((.slice a0 len0 cap0) :: (u1) :: (u2) :: (u3) :: (.int .i64 p) :: (u5) :: (u6) :: (u7) :: (u8) :: (u9) :: (u10) :: (u11) :: (u12) :: (u13) :: (u14) :: (u15) :: (u16) :: (u17) :: (u18) :: (u19) :: (u20) :: (u21) :: (u22) :: (u23) :: (u24) :: (u25) :: (u26) :: (u27) :: (u28) :: (u29) :: (u30) :: (u31) :: (u32) :: (u33) :: (u34) :: (u35) :: (u36) :: (u37) :: (u38) :: (u39) :: (u40) :: (u41) :: (u42) :: (u43) :: (u44) :: (u45) :: (u46) :: (u47) :: (u48) :: (u49) :: (u50) :: (u51) :: (u52) :: (u53) :: (u54) :: (u55) :: (u56) :: (u57) :: (u58) :: (u59) :: (u60) :: (u61) :: (u62) :: (u63) :: (u64) :: (u65) :: (u66) :: (u67) :: (u68) :: (u69) :: (u70) :: (u71) :: (u72) :: (u73) :: (u74) :: (u75) :: (u76) :: (u77) :: (u78) :: (u79) :: (u80) :: (u81) :: (u82) :: (u83) :: (u84) :: (u85) :: (u86) :: (u87) :: (u88) :: (u89) :: (u90) :: (u91) :: (u92) :: (u93) :: (u94) :: (u95) :: (u96) :: (u97) :: (u98) :: (u99) :: (u100) :: (u101) :: (u102) :: (u103) :: (u104) :: (u105) :: (u106) :: (u107) :: (u108) :: (u109) :: (u110) :: (u111) :: (u112) :: (u113) :: (u114) :: (u115) :: (u116) :: (u117) :: (u118) :: (u119) :: (u120) :: (u121) :: (u122) :: (u123) :: (u124) :: (u125) :: (u126) :: (u127) :: (u128) :: (u129) :: (u130) :: (u131) :: (u132) :: (u133) :: (u134) :: (u135) :: (u136) :: (u137) :: (u138) :: (u139) :: (u140) :: (u141) :: (u142) :: (u143) :: (u144) :: (u145) :: (u146) :: (u147) :: (u148) :: (u149) :: (u150) :: (u151) :: (u152) :: (u153) :: (u154) :: (u155) :: (u156) :: (u157) :: (u158) :: (u159) :: (u160) :: (u161) :: (u162) :: (u163) :: (u164) :: (u165) :: (u166) :: (u167) :: (u168) :: (u169) :: (u170) :: (u171) :: (u172) :: (u173) :: (u174) :: (u175) :: (u176) :: (u177) :: (u178) :: (u179) :: (u180) :: (u181) :: (u182) :: (u183) :: (u184) :: (u185) :: (u186) :: (u187) :: (u188) :: (u189) :: (u190) :: (u191) :: (u192) :: (u193) :: (u194) :: (u195) :: (u196) :: (u197) :: (u198) :: (u199) :: (u200) :: (u201) :: (u202) :: (u203) :: (u204) :: (u205) :: (u206) :: (u207) :: (u208) :: (u209) :: (u210) :: (u211) :: (u212) :: (u213) :: (u214) :: (u215) :: (u216) :: (u217) :: (u218) :: (u219) :: (u220) :: (u221) :: (u222) :: (u223) :: (u224) :: (u225) :: (u226) :: (u227) :: (u228) :: (u229) :: (u230) :: (u231) :: (u232) :: (u233) :: (u234) :: (u235) :: (u236) :: (u237) :: (u238) :: (u239) :: (u240) :: (u241) :: (u242) :: (u243) :: (u244) :: (u245) :: (u246) :: (u247) :: (u248) :: (u249) :: (u250) :: (u251) :: (u252) :: (u253) :: (u254) :: (u255) :: (u256) :: (u257) :: (u258) :: (u259) :: (u260) :: (u261) :: (u262) :: (u263) :: (u264) :: (u265) :: (u266) :: (u267) :: (u268) :: (u269) :: (u270) :: (u271) :: (u272) :: (u273) :: (u274) :: (u275) :: (u276) :: (u277) :: (u278) :: (u279) :: (u280) :: (u281) :: (u282) :: (u283) :: (u284) :: (u285) :: (u286) :: (u287) :: (u288) :: (u289) :: (u290) :: (u291) :: (u292) :: (u293) :: (u294) :: (u295) :: (u296) :: (u297) :: (u298) :: (u299) :: (u300) :: (u301) :: (u302) :: (u303) :: (u304) :: (u305) :: (u306) :: (u307) :: (u308) :: (u309) :: (u310) :: (u311) :: (u312) :: (u313) :: (u314) :: (u315) :: (u316) :: (u317) :: (u318) :: (u319) :: (u320) :: (u321) :: (u322) :: (u323) :: (u324) :: (u325) :: (u326) :: (u327) :: (u328) :: (u329) :: (u330) :: []).toArray, []⟩ w9 := by
  conv => arg 2; whnf
  dsimp -failIfUnchanged only
  let bq : Exit → Act → World → Prop := bodyPost Tryd.prog Tryd.f6 (fun _ _ => True)
  have HQ := hid hQ
  clear hQ
  obtain ⟨hp2, hp97⟩ := prm_rng HP.out
  obtain ⟨hs6, hsb⟩ := sk_ok HP.out
  have HS6 := hid hs6; have HSB := hid hsb
  clear hs6 hsb
  go_upto_block 3 with fail
  go_cut [21] (fun s21 wx => s21 = .int .i64 (skn p 6) ∧ Below w9.heap.size w9 wx)
  case first =>
    go_wp2_with fail
    go_loopw [21, 22] (fun s21 s22 wr => ∃ j : Nat, j ≤ 6 ∧ s22 = .int .i64 ((j : Int)) ∧ s21 = .int .i64 (skn p j) ∧ Below w9.heap.size w9 wr) (fun _ s22 _ => 6 - (intOf s22).toNat)
    case atStart => exact ⟨0, Nat.zero_le _, rfl, rfl, Below.refl _ _⟩
    case round =>
      obtain ⟨j, hj, rfl, rfl, hU⟩ := hrel
      by_cases hlt : j < 6
      · have h8 := fun W => iCountKind_any p (j : Int) W
        rw [ckc_0 HP.out (by omega) (by omega)] at h8
        have e : skn p (j + 1) = skn p j + ck0 p j := rfl
        have b1 := HSB.out (j + 1) (by omega)
        rw [e] at b1
        have hw : wrap64 (skn p j + ck0 p j) = skn p j + ck0 p j := wr_in (by omega)
        have HE := hid e
        clear e
        generalize ck0 p (j : Int) = x at h8 b1 hw HE
        generalize skn p j = S at b1 hw HE ⊢
        have H8 := hid h8; have HW := hid hw; have HU := hid hU
        clear h8 hw hU
        go_wp2_with fail
        refine (H8.out _).mono ?_
        rintro e w10 ⟨rfl, hb10⟩
        have HU2 := hid (gr_trans HU.out hb10)
        clear hb10
        have hw := HW.out
        go_wp2_with fail
        go_roundw
        case rel => exact ⟨j + 1, by omega, by go_num, by rw [HE.out], HU2.out⟩
        case measure => simp [intOf]; omega
      · have e : j = 6 := by omega
        subst e
        go_wp2_with fail
        go_meet
        exact ⟨rfl, hU⟩
  case rest =>
    obtain ⟨rfl, hU⟩ := hcut
    have HU := hid hU
    have b2 : wrap64 (p * p) = p * p := wr_in (by have := mulb (A := 97) (B := 97) ⟨by omega, hp97⟩ ⟨by omega, hp97⟩; simp only [Int.reduceMul] at this; omega)
    obtain ⟨p4, hp4⟩ : ∃ z, z = skn p 6 := ⟨_, rfl⟩
    have hpp : wrap64 (wrap64 (wrap64 (p * p) * p) * p) = p4 := by
      simp only [wr_ml]
      rw [hp4, ← HS6.out]
      have := HSB.out 6 (by omega)
      exact wr_in (by omega)
    rw [← hp4]
    clear hU b2 hp4
    go_wp2_with fail
    exact HQ.out _ _ _ _ _ _ _ _ _ _ _ _ _ _ _ _ _ _ _ _ _ _ _ _ _ _ _ _ _ _ _ _ _ _ _ _ _ _ _ _ _ _ _ _ _ _ _ _ _ _ _ _ _ _ _ _ _ _ _ _ _ _ _ _ _ _ _ _ _ _ _ _ _ _ _ _ _ _ _ _ _ _ _ _ _ _ _ _ _ _ _ _ _ _ _ _ _ _ _ _ _ _ _ _ _ _ _ _ _ _ _ _ _ _ _ _ _ _ _ _ _ _ _ _ _ _ _ _ _ _ _ _ _ _ _ _ _ _ _ _ _ _ _ _ _ _ _ _ _ _ _ _ _ _ _ _ _ _ _ _ _ _ _ _ _ _ _ _ _ _ _ _ _ _ _ _ _ _ _ _ _ _ _ _ _ _ _ _ _ _ _ _ _ _ _ _ _ _ _ _ _ _ _ _ _ _ _ _ _ _ _ _ _ _ _ _ _ _ _ _ _ _ _ _ _ _ _ _ _ _ _ _ _ _ _ _ _ _ _ _ _ _ _ _ _ _ _ _ _ _ _ _ _ _ _ _ _ _ _ _ _ _ _ _ _ _ _ _ _ _ _ _ _ _ _ _ _ _ _ _ _ _ _ _ _ _ _ _ _ _ HU.out (G9.next HU.out)

end Go.Proofs.YtambbhldhhlfgaaDoor
