/- FnIdeals, cut: inside the test whether the list was told: products, and the whole branch. -/
import Derived.Test.YtihcmgjfkiaelaaDoorIq2
namespace Go.Proofs.YtihcmgjfkiaelaaDoor
open Go.ChangeShapes Go.WideShapes Go.ChangeAt Go.RowKit

set_option maxRecDepth 1000000 in
set_option maxHeartbeats 8000000 in
theorem then60_any (a0 : Option Addr) (len0 cap0 : Nat) (pv : Value) (w9 : World) (j1 N cap : Nat) (va : Option Addr) (a b c d : Int) (g : Nat → Int) (kd : Int → Int) (M9 : Arr w9 j1 a b c d) (G9 : Sen w9 pv) (A9 : Hid (Rd w9 (.slice va N cap) N g)) (HO : Hid (IdOk N g kd)) (HK : Hid (KdAt a b c d pv kd)) (HS : Hid (∀ W, Sen W pv → Calls Tryd.prog 32 #[.agg #[.int .i64 a, .int .i64 b, .int .i64 c, .int .i64 d], .int .i64 ((N : Int))] W fun e w' => e = .returned (.tuple #[.int .i64 (sms g N), .int .i64 0]) ∧ Below W.heap.size W w')) (u1 u2 u6 u7 u8 u9 u10 u11 u12 u13 u14 u15 u16 u17 u18 u19 u20 u21 u22 u23 u24 u25 u26 u27 u28 u29 u30 u31 u32 u33 u34 u35 u36 u37 u38 u39 u40 u41 u42 u43 u44 u45 u46 u47 u48 u49 u50 u51 u52 u53 u54 u55 u56 u57 u58 u59 u60 u61 u62 u63 u64 u65 u66 u67 u68 u69 u70 u71 u72 u73 u74 u75 u76 u77 u78 u79 u80 u81 u82 u83 u84 u85 u86 u87 u88 u89 u90 u91 u92 u93 u94 u95 u96 u97 u98 u99 u100 u101 u102 u103 u104 u105 u106 u107 u108 u109 u110 u111 u112 u113 u114 u115 u116 u117 u118 u119 u120 u121 u122 u123 u124 u125 u126 u127 u128 u129 u130 u131 u132 u133 u134 u135 u136 u137 u138 u139 u140 u141 u142 u143 u144 u145 u146 u147 u148 u149 u150 u151 u152 u153 u154 u155 u156 u157 u158 u159 u160 u161 u162 u163 u164 u165 u166 u167 u168 u169 u170 u171 u172 u173 u174 u175 u176 u177 u178 u179 u180 u181 u182 u183 u184 u185 u186 u187 u188 u189 u190 u191 u192 u193 u194 u195 u196 u197 u198 u199 u200 u201 u202 u203 u204 u205 u206 u207 u208 u209 u210 u211 u212 u213 u214 u215 u216 u217 u218 u219 u220 u221 : Value) (Q : Exit → Act → World → Prop)
    (hQ : ∀ v2 v9 v10 v11 v13 v14 v15 v16 v31 v32 v33 v34 v35 v36 v37 v38 v39 v40 v41 v42 v43 v44 v45 v46 v47 v48 v49 v50 v51 v52 v53 v54 v55 v56 v57 v58 v59 v60 v61 v62 v63 v64 v65 v66 v67 v68 v69 v70 v71 v72 v73 v74 v75 v76 v77 v78 v79 v80 v81 v82 v83 v84 v85 v86 v87 v88 v89 v90 v91 v92 v93 v94 v95 v96 v97 v98 v99 v100 v101 v102 v103 v104 v105 v106 v107 v108 v109 v110 v111 v112 v113 v114 v115 v116 v117 v118 v119 v120 v121 v122 v123 v124 v125 v126 v127 v128 v129 v130 v131 v132 v133 v134 v135 v136 v137 v138 v139 v140 v141 v142 v143 v144 v145 v146 v147 v148 v149 v150 v151 v152 v153 v154 v155 v156 v157 v158 v159 v160 v161 v162 v163 v164 v165 v166 v167 v168 v169 v170 v171 v172 v173 v174 v175 v176 v177 v178 v179 v180 v181 v182 v183 v184 v185 v186 v187 v188 v189 v190 v191 v192 v193 v194 v195 v196 v197 v198 v199 v200 v201 v202 v203 v204 v205 v206 v207 v208 v209 v210 v211 v212 v213 v214 v215 v216 v217 v218 v219 v220 v221 : Value, ∀ wx, Below w9.heap.size w9 wx → Sen wx pv → Q .normal ⟨((.slice a0 len0 cap0) :: (u1) :: (v2) :: (.pointer (some ⟨j1, 0, none⟩)) :: (.int .i64 ((N : Int))) :: (.slice va N cap) :: (u6) :: (u7) :: (u8) :: (v9) :: (v10) :: (v11) :: (u12) :: (v13) :: (v14) :: (v15) :: (v16) :: (u17) :: (u18) :: (u19) :: (u20) :: (u21) :: (u22) :: (u23) :: (u24) :: (u25) :: (u26) :: (u27) :: (u28) :: (u29) :: (u30) :: (v31) :: (v32) :: (v33) :: (v34) :: (v35) :: (v36) :: (v37) :: (v38) :: (v39) :: (v40) :: (v41) :: (v42) :: (v43) :: (v44) :: (v45) :: (v46) :: (v47) :: (v48) :: (v49) :: (v50) :: (v51) :: (v52) :: (v53) :: (v54) :: (v55) :: (v56) :: (v57) :: (v58) :: (v59) :: (v60) :: (v61) :: (v62) :: (v63) :: (v64) :: (v65) :: (v66) :: (v67) :: (v68) :: (v69) :: (v70) :: (v71) :: (v72) :: (v73) :: (v74) :: (v75) :: (v76) :: (v77) :: (v78) :: (v79) :: (v80) :: (v81) :: (v82) :: (v83) :: (v84) :: (v85) :: (v86) :: (v87) :: (v88) :: (v89) :: (v90) :: (v91) :: (v92) :: (v93) :: (v94) :: (v95) :: (v96) :: (v97) :: (v98) :: (v99) :: (v100) :: (v101) :: (v102) :: (v103) :: (v104) :: (v105) :: (v106) :: (v107) :: (v108) :: (v109) :: (v110) :: (v111) :: (v112) :: (v113) :: (v114) :: (v115) :: (v116) :: (v117) :: (v118) :: (v119) :: (v120) :: (v121) :: (v122) :: (v123) :: (v124) :: (v125) :: (v126) :: (v127) :: (v128) :: (v129) :: (v130) :: (v131) :: (v132) :: (v133) :: (v134) :: (v135) :: (v136) :: (v137) :: (v138) :: (v139) :: (v140) :: (v141) :: (v142) :: (v143) :: (v144) :: (v145) :: (v146) :: (v147) :: (v148) :: (v149) :: (v150) :: (v151) :: (v152) :: (v153) :: (v154) :: (v155) :: (v156) :: (v157) :: (v158) :: (v159) :: (v160) :: (v161) :: (v162) :: (v163) :: (v164) :: (v165) :: (v166) :: (v167) :: (v168) :: (v169) :: (v170) :: (v171) :: (v172) :: (v173) :: (v174) :: (v175) :: (v176) :: (v177) :: (v178) :: (v179) :: (v180) :: (v181) :: (v182) :: (v183) :: (v184) :: (v185) :: (v186) :: (v187) :: (v188) :: (v189) :: (v190) :: (v191) :: (v192) :: (v193) :: (v194) :: (v195) :: (v196) :: (v197) :: (v198) :: (v199) :: (v200) :: (v201) :: (v202) :: (v203) :: (v204) :: (v205) :: (v206) :: (v207) :: (v208) :: (v209) :: (v210) :: (v211) :: (v212) :: (v213) :: (v214) :: (v215) :: (v216) :: (v217) :: (v218) :: (v219) :: (v220) :: (v221) :: []).toArray, []⟩ wx) :
    Code.wp Tryd.prog tseg Q ⟨((.slice a0 len0 cap0) :: (u1) :: (u2) :: (.pointer (some ⟨j1, 0, none⟩)) :: (.int .i64 ((N : Int))) :: (.slice va N cap) :: (u6) :: (u7) :: (u8) :: (u9) :: (u10) :: (u11) :: (u12) :: (u13) :: (u14) :: (u15) :: (u16) :: (u17) :: (u18) :: (u19) :: (u20) :: (u21) :: (u22) :: (u23) :: (u24) :: (u25) :: (u26) :: (u27) :: (u28) :: (u29) :: (u30) :: (u31) :: (u32) :: (u33) :: (u34) :: (u35) :: (u36) :: (u37) :: (u38) :: (u39) :: (u40) :: (u41) :: (u42) :: (u43) :: (u44) :: (u45) :: (u46) :: (u47) :: (u48) :: (u49) :: (u50) :: (u51) :: (u52) :: (u53) :: (u54) :: (u55) :: (u56) :: (u57) :: (u58) :: (u59) :: (u60) :: (u61) :: (u62) :: (u63) :: (u64) :: (u65) :: (u66) :: (u67) :: (u68) :: (u69) :: (u70) :: (u71) :: (u72) :: (u73) :: (u74) :: (u75) :: (u76) :: (u77) :: (u78) :: (u79) :: (u80) :: (u81) :: (u82) :: (u83) :: (u84) :: (u85) :: (u86) :: (u87) :: (u88) :: (u89) :: (u90) :: (u91) :: (u92) :: (u93) :: (u94) :: (u95) :: (u96) :: (u97) :: (u98) :: (u99) :: (u100) :: (u101) :: (u102) :: (u103) :: (u104) :: (u105) :: (u106) :: (u107) :: (u108) :: (u109) :: (u110) :: (u111) :: (u112) :: (u113) :: (u114) :: (u115) :: (u116) :: (u117) :: (u118) :: (u119) :: (u120) :: (u121) :: (u122) :: (u123) :: (u124) :: (u125) :: (u126) :: (u127) :: (u128) :: (u129) :: (u130) :: (u131) :: (u132) :: (u133) :: (u134) :: (u135) :: (u136) :: (u137) :: (u138) :: (u139) :: (u140) :: (u141) :: (u142) :: (u143) :: (u144) :: (u145) :: (u146) :: (u147) :: (u148) :: (u149) :: (u150) :: (u151) :: (u152) :: (u153) :: (u154) :: (u155) :: (u156) :: (u157) :: (u158) :: (u159) :: (u160) :: (u161) :: (u162) :: (u163) :: (u164) :: (u165) :: (u166) :: (u167) :: (u168) :: (u169) :: (u170) :: (u171) :: (u172) :: (u173) :: (u174) :: (u175) :: (u176) :: (u177) :: (u178) :: (u179) :: (u180) :: (u181) :: (u182) :: (u183) :: (u184) :: (u185) :: (u186) :: (u187) :: (u188) :: (u189) :: (u190) :: (u191) :: (u192) :: (u193) :: (u194) :: (u195) :: (u196) :: (u197) :: (u198) :: (u199) :: (u200) :: (u201) :: (u202) :: (u203) :: (u204) :: (u205) :: (u206) :: (u207) :: (u208) :: (u209) :: (u210) :: (u211) :: (u212) :: (u213) :: (u214) :: (u215) :: (u216) :: (u217) :: (u218) :: (u219) :: (u220) :: (u221) :: []).toArray, []⟩ w9 := by
  conv => arg 2; whnf
  dsimp -failIfUnchanged only
  let bq : Exit → Act → World → Prop := bodyPost Tryd.prog Tryd.f4 (fun _ _ => True)
  have HQ := hid hQ
  clear hQ
  have ho1 := HO.out.one
  have ho5 := HO.out.top
  have HC := hid (fun W (hV : Rd W (.slice va N cap) N g) => sum_any (.slice va N cap) N g W hV)
  generalize sms g N = S at HS HC
  obtain ⟨_, m0, m1, m2, m3, _⟩ := id M9
  go_wp2_with fail
  refine (HS.out _ G9).mono ?_
  rintro e w10 ⟨rfl, hb10⟩
  clear m0 m1 m2 m3
  have M10 := M9.next hb10
  have A10 := hid (A9.out.next hb10)
  have G10 := G9.next hb10
  clear M9 A9 G9 HS
  go_wp2_with fail
  refine (HC.out _ A10.out).mono ?_
  rintro e w11 ⟨rfl, hb11⟩
  have M11 := M10.next hb11
  have A11 := hid (A10.out.next hb11)
  have G11 := hid (G10.next hb11)
  have U11 := gr_trans hb10 hb11
  clear M10 A10 G10 HC hb10 hb11
  rcases A11.out with ⟨_, h0⟩ | ⟨gb, cap', e', r1, r2, r3, hcl⟩
  · omega
  cases e'
  have y0 := hcl 0 (by omega)
  rw [HO.out.g0] at y0
  unfold maxLen at r2
  clear hcl
  go_upto_block 0 with fail
  go_cut [] (fun wx => Arr wx j1 a b c d ∧ Hid (Rd wx (.slice (some ⟨gb, 0, none⟩) N cap) N g) ∧ Sen wx pv ∧ Below w9.heap.size w9 wx)
  case first =>
    go_wp2_with fail
    go_loopw [11] (fun s11 wr => ∃ j : Nat, s11 = .int .i64 ((j : Int)) ∧ 1 ≤ j ∧ j ≤ N + 1 ∧ Arr wr j1 a b c d ∧ Hid (Rd wr (.slice (some ⟨gb, 0, none⟩) N cap) N g) ∧ Hid (Sen wr pv) ∧ Below w9.heap.size w9 wr) (fun s11 _ => (N + 2 - intOf s11).toNat)
    case atStart => exact ⟨1, rfl, by omega, by omega, M11, A11, G11, U11⟩
    case round =>
      obtain ⟨j, rfl, hj1, hj, hM, hA, hG, hU⟩ := hrel
      clear M11 A11 G11 U11 y0
      by_cases h1 : j + 1 ≤ N
      · have h1t : decide ((j : Int) + 1 ≤ (N : Int)) = true := by simp; omega
        have hmul := HO.out.mul j (by omega)
        have hup : j * (j + 1) ≤ 501 * 502 := Nat.mul_le_mul (by omega) (by omega)
        have hlo : 1 ≤ j * (j + 1) := Nat.mul_pos (by omega) (by omega)
        obtain ⟨q, hq⟩ : ∃ q : Nat, j * (j + 1) = q := ⟨_, rfl⟩
        rw [hq] at hmul hup hlo
        obtain ⟨m, hm⟩ : ∃ m : Nat, q = m + 1 := ⟨q - 1, by omega⟩
        obtain ⟨i, hi⟩ : ∃ i : Nat, j = i + 1 := ⟨j - 1, by omega⟩
        have hqI : ((j : Int)) * ((j : Int) + 1) = (q : Int) := by rw [← hq]; simp
        have hqw : IntKind.i64.wrap ((j : Int) * ((j : Int) + 1)) = (q : Int) := by rw [hqI, IntWalk.i64_left]; exact wr_in (x := (q : Int)) (by omega)
        have e1 : q - 1 = m := by omega
        have e2 : j - 1 = i := by omega
        rw [e1, e2] at hmul
        have HMU := hid hmul
        have b1 : (q : Int) - 1 = (m : Int) := by omega
        have b2 : (j : Int) - 1 = (i : Int) := by omega
        clear hmul hqI hq e1 e2
        by_cases h2 : q ≤ N
        · have h2t : decide ((q : Int) ≤ (N : Int)) = true := by simp; omega
          rcases hA.out with ⟨h0, _⟩ | ⟨gb', cap', e', r1, r2, r3, hcl⟩
          · cases h0
          cases e'
          have z0 := hcl m (by omega)
          have z1 := hcl i (by omega)
          have z2 := hcl j (by omega)
          rw [HMU.out] at z0
          generalize g i = x at z0 z1
          generalize g j = y at z0 z2
          unfold mu at z0
          generalize hz : wrap64 (x * y) = z at z0
          have hz : IntKind.i64.wrap (x * y) = z := by rw [IntWalk.i64_left]; exact hz
          have hqb : q ≤ 500 := by omega
          have hb1 : m < N := by omega
          have hb2 : i < N := by omega
          have hb3 : j < N := by omega
          clear hcl HMU hm hi hup hlo
          go_wp2_with fail
          go_quiet (fail)
          go_wp2_with fail
          go_roundw
          case rel => exact ⟨j + 1, by go_num, by omega, by omega, hM.drewN _, hid (hA.out.next (gr_drewN (Below.refl _ _) _)), hid (hG.out.next (gr_drewN (Below.refl _ _) _)), gr_drewN hU _⟩
          case measure => simp [intOf]; omega
        · have h2f : decide ((q : Int) ≤ (N : Int)) = false := by simp; omega
          clear hm hi hup hlo HMU b1 b2
          go_wp2_with fail
          go_meet
          exact ⟨hM, hA, hG.out, hU⟩
      · have h1f : decide ((j : Int) + 1 ≤ (N : Int)) = false := by simp; omega
        go_wp2_with fail
        go_meet
        exact ⟨hM, hA, hG.out, hU⟩
  case rest =>
    obtain ⟨h1, h2, h3, h4⟩ := hcut
    go_step
    refine bseg0_any a0 len0 cap0 pv _ j1 N cap _ a b c d g kd h1 h3 h2 HO HK _ _ _ _ _ _ _ _ _ _ _ _ _ _ _ _ _ _ _ _ _ _ _ _ _ _ _ _ _ _ _ _ _ _ _ _ _ _ _ _ _ _ _ _ _ _ _ _ _ _ _ _ _ _ _ _ _ _ _ _ _ _ _ _ _ _ _ _ _ _ _ _ _ _ _ _ _ _ _ _ _ _ _ _ _ _ _ _ _ _ _ _ _ _ _ _ _ _ _ _ _ _ _ _ _ _ _ _ _ _ _ _ _ _ _ _ _ _ _ _ _ _ _ _ _ _ _ _ _ _ _ _ _ _ _ _ _ _ _ _ _ _ _ _ _ _ _ _ _ _ _ _ _ _ _ _ _ _ _ _ _ _ _ _ _ _ _ _ _ _ _ _ _ _ _ _ _ _ _ _ _ _ _ _ _ _ _ _ _ _ _ _ _ _ _ _ _ _ _ _ _ _ _ _ _ _ _ _ _ _ _ _ _ _ _ _ _ _ _ ?_
    intro v2 v9 v10 v11 v13 v14 v15 v16 v31 v32 v33 v34 v35 v36 v37 v38 v39 v40 v41 v42 v43 v44 v45 v46 v47 v48 v49 v50 v51 v52 v53 v54 v55 v56 v57 v58 v59 v60 v61 v62 v63 v64 v65 v66 v67 v68 v69 v70 v71 v72 v73 v74 v75 v76 v77 v78 v79 v80 v81 v82 v83 v84 v85 v86 v87 v88 v89 v90 v91 v92 v93 v94 v95 v96 v97 v98 v99 v100 v101 v102 v103 v104 v105 v106 v107 v108 v109 v110 v111 v112 v113 v114 v115 v116 v117 v118 v119 v120 v121 v122 v123 v124 v125 v126 v127 v128 v129 v130 v131 v132 v133 v134 v135 v136 v137 v138 v139 v140 v141 v142 v143 v144 v145 v146 v147 v148 v149 v150 v151 v152 v153 v154 v155 v156 v157 v158 v159 v160 v161 v162 v163 v164 v165 v166 v167 v168 v169 v170 v171 v172 v173 v174 v175 v176 v177 v178 v179 v180 v181 v182 v183 v184 v185 v186 v187 v188 v189 v190 v191 v192 v193 v194 v195 v196 v197 v198 v199 v200 v201 v202 v203 v204 v205 v206 v207 v208 v209 v210 v211 v212 v213 v214 v215 v216 v217 v218 v219 v220 v221 wx hU hG
    exact HQ.out _ _ _ _ _ _ _ _ _ _ _ _ _ _ _ _ _ _ _ _ _ _ _ _ _ _ _ _ _ _ _ _ _ _ _ _ _ _ _ _ _ _ _ _ _ _ _ _ _ _ _ _ _ _ _ _ _ _ _ _ _ _ _ _ _ _ _ _ _ _ _ _ _ _ _ _ _ _ _ _ _ _ _ _ _ _ _ _ _ _ _ _ _ _ _ _ _ _ _ _ _ _ _ _ _ _ _ _ _ _ _ _ _ _ _ _ _ _ _ _ _ _ _ _ _ _ _ _ _ _ _ _ _ _ _ _ _ _ _ _ _ _ _ _ _ _ _ _ _ _ _ _ _ _ _ _ _ _ _ _ _ _ _ _ _ _ _ _ _ _ _ _ _ _ _ _ _ _ _ _ _ _ _ _ _ _ _ _ _ _ _ _ _ _ _ _ _ _ _ _ (gr_trans h4 hU) hG

end Go.Proofs.YtihcmgjfkiaelaaDoor
