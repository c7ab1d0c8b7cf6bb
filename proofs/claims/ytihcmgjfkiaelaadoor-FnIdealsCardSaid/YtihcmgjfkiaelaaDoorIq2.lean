/- FnIdeals, cut: inside the test whether the list was told: ideals at small primes. -/
import Derived.Test.YtihcmgjfkiaelaaDoorIq1
import Derived.Deep.CutBlock
namespace Go.Proofs.YtihcmgjfkiaelaaDoor
open Go.ChangeShapes Go.WideShapes Go.ChangeAt Go.RowKit

def thenC (t : Nat) : Code → Code
  | .cond (.tmp k) a _ => if k == t then a else .skip
  | .seq a b => if hasCond t a then thenC t a else thenC t b
  | .scope c => thenC t c
  | _ => .skip
/-- The code behind block t. -/
def hasBlk (t : Nat) : Code → Bool
  | .block k _ => k == t
  | .seq a b => hasBlk t a || hasBlk t b
  | _ => false
def behind (t : Nat) : Code → Code
  | .seq a b => if hasBlk t a then b else behind t b
  | _ => .skip
noncomputable def tseg : Code := thenC 60 (Tryd.f4.body.getD .skip)
noncomputable def bseg (t : Nat) : Code := behind t (thenC 60 (Tryd.f4.body.getD .skip))

/-- What the law asks of the list. -/
structure IdOk (N : Nat) (g : Nat → Int) (kd : Int → Int) : Prop where
  one : 1 ≤ N
  top : N ≤ 500
  g0 : g 0 = 1
  mul : ∀ i, 1 ≤ i → g (i * (i + 1) - 1) = mu (g (i - 1)) (g i)
  at2 : g 1 = due (kd 2) ∧ 1 ≤ kd 2 ∧ kd 2 ≤ 5
  at3 : g 2 = due (kd 3) ∧ 1 ≤ kd 3 ∧ kd 3 ≤ 5
  at5 : g 4 = due (kd 5) ∧ 1 ≤ kd 5 ∧ kd 5 ≤ 5
  at7 : g 6 = due (kd 7) ∧ 1 ≤ kd 7 ∧ kd 7 ≤ 5
def KdAt (a b c d : Int) (pv : Value) (kd : Int → Int) : Prop := ∀ p : Int, prm p = true → ∀ W, Sen W pv → Calls Tryd.prog 9 #[.agg #[.int .i64 a, .int .i64 b, .int .i64 c, .int .i64 d], .int .i64 p] W fun e w' => e = .returned (.tuple #[.int .i64 (kd p), .int .i64 0]) ∧ Below W.heap.size W w'
theorem id_ok {a b c d : Int} {N : Nat} {ND : Nat → List (Nat × Nat)} (h : Nds ND) (hk : idc a b c d N = 0) : IdOk N (idn a b c d ND) (kdn a b c d) := by
  obtain ⟨_, h1, h5⟩ := idc_t hk
  have hc := idc_c hk
  refine ⟨by omega, by omega, ?_, fun i hi => idn_mul h hi, ?_, ?_, ?_, ?_⟩
  · unfold idn
    rw [(h.2 (0 + 1) (by omega)).uniq (show Nod (0 + 1) [] from .one)]
    rfl
  · exact ⟨idn_prm h prm_2, kdn_pos hc (by omega)⟩
  · exact ⟨idn_prm h prm_3, kdn_pos hc (by omega)⟩
  · exact ⟨idn_prm h prm_5, kdn_pos hc (by omega)⟩
  · exact ⟨idn_prm h prm_7, kdn_pos hc (by omega)⟩
theorem due_cell {w : World} {k : Nat} {T : TypeId} (h : Bx w k #[.int .i64 0, .int .i64 3, .int .i64 1, .int .i64 0, .int .i64 2, .int .i64 1] T) {x : Nat} (h1 : 1 ≤ x) (h5 : x ≤ 5) : w.cell? ⟨k, x, none⟩ = some (.int .i64 (due (x : Int))) := by
  rw [h.cell x]
  have : x = 1 ∨ x = 2 ∨ x = 3 ∨ x = 4 ∨ x = 5 := by omega
  rcases this with rfl | rfl | rfl | rfl | rfl <;> rfl

set_option maxRecDepth 1000000 in
set_option maxHeartbeats 8000000 in
theorem bseg0_any (a0 : Option Addr) (len0 cap0 : Nat) (pv : Value) (w9 : World) (j1 N cap : Nat) (va : Option Addr) (a b c d : Int) (g : Nat → Int) (kd : Int → Int) (M9 : Arr w9 j1 a b c d) (G9 : Sen w9 pv) (A9 : Hid (Rd w9 (.slice va N cap) N g)) (HO : Hid (IdOk N g kd)) (HK : Hid (KdAt a b c d pv kd)) (u1 u2 u6 u7 u8 u9 u10 u11 u12 u13 u14 u15 u16 u17 u18 u19 u20 u21 u22 u23 u24 u25 u26 u27 u28 u29 u30 u31 u32 u33 u34 u35 u36 u37 u38 u39 u40 u41 u42 u43 u44 u45 u46 u47 u48 u49 u50 u51 u52 u53 u54 u55 u56 u57 u58 u59 u60 u61 u62 u63 u64 u65 u66 u67 u68 u69 u70 u71 u72 u73 u74 u75 u76 u77 u78 u79 u80 u81 u82 u83 u84 u85 u86 u87 u88 u89 u90 u91 u92 u93 u94 u95 u96 u97 u98 u99 u100 u101 u102 u103 u104 u105 u106 u107 u108 u109 u110 u111 u112 u113 u114 u115 u116 u117 u118 u119 u120 u121 u122 u123 u124 u125 u126 u127 u128 u129 u130 u131 u132 u133 u134 u135 u136 u137 u138 u139 u140 u141 u142 u143 u144 u145 u146 u147 u148 u149 u150 u151 u152 u153 u154 u155 u156 u157 u158 u159 u160 u161 u162 u163 u164 u165 u166 u167 u168 u169 u170 u171 u172 u173 u174 u175 u176 u177 u178 u179 u180 u181 u182 u183 u184 u185 u186 u187 u188 u189 u190 u191 u192 u193 u194 u195 u196 u197 u198 u199 u200 u201 u202 u203 u204 u205 u206 u207 u208 u209 u210 u211 u212 u213 u214 u215 u216 u217 u218 u219 u220 u221 : Value) (Q : Exit → Act → World → Prop)
    (hQ : ∀ v2 v9 v10 v11 v13 v14 v15 v16 v31 v32 v33 v34 v35 v36 v37 v38 v39 v40 v41 v42 v43 v44 v45 v46 v47 v48 v49 v50 v51 v52 v53 v54 v55 v56 v57 v58 v59 v60 v61 v62 v63 v64 v65 v66 v67 v68 v69 v70 v71 v72 v73 v74 v75 v76 v77 v78 v79 v80 v81 v82 v83 v84 v85 v86 v87 v88 v89 v90 v91 v92 v93 v94 v95 v96 v97 v98 v99 v100 v101 v102 v103 v104 v105 v106 v107 v108 v109 v110 v111 v112 v113 v114 v115 v116 v117 v118 v119 v120 v121 v122 v123 v124 v125 v126 v127 v128 v129 v130 v131 v132 v133 v134 v135 v136 v137 v138 v139 v140 v141 v142 v143 v144 v145 v146 v147 v148 v149 v150 v151 v152 v153 v154 v155 v156 v157 v158 v159 v160 v161 v162 v163 v164 v165 v166 v167 v168 v169 v170 v171 v172 v173 v174 v175 v176 v177 v178 v179 v180 v181 v182 v183 v184 v185 v186 v187 v188 v189 v190 v191 v192 v193 v194 v195 v196 v197 v198 v199 v200 v201 v202 v203 v204 v205 v206 v207 v208 v209 v210 v211 v212 v213 v214 v215 v216 v217 v218 v219 v220 v221 : Value, ∀ wx, Below w9.heap.size w9 wx → Sen wx pv → Q .normal ⟨((.slice a0 len0 cap0) :: (u1) :: (v2) :: (.pointer (some ⟨j1, 0, none⟩)) :: (.int .i64 ((N : Int))) :: (.slice va N cap) :: (u6) :: (u7) :: (u8) :: (v9) :: (v10) :: (v11) :: (u12) :: (v13) :: (v14) :: (v15) :: (v16) :: (u17) :: (u18) :: (u19) :: (u20) :: (u21) :: (u22) :: (u23) :: (u24) :: (u25) :: (u26) :: (u27) :: (u28) :: (u29) :: (u30) :: (v31) :: (v32) :: (v33) :: (v34) :: (v35) :: (v36) :: (v37) :: (v38) :: (v39) :: (v40) :: (v41) :: (v42) :: (v43) :: (v44) :: (v45) :: (v46) :: (v47) :: (v48) :: (v49) :: (v50) :: (v51) :: (v52) :: (v53) :: (v54) :: (v55) :: (v56) :: (v57) :: (v58) :: (v59) :: (v60) :: (v61) :: (v62) :: (v63) :: (v64) :: (v65) :: (v66) :: (v67) :: (v68) :: (v69) :: (v70) :: (v71) :: (v72) :: (v73) :: (v74) :: (v75) :: (v76) :: (v77) :: (v78) :: (v79) :: (v80) :: (v81) :: (v82) :: (v83) :: (v84) :: (v85) :: (v86) :: (v87) :: (v88) :: (v89) :: (v90) :: (v91) :: (v92) :: (v93) :: (v94) :: (v95) :: (v96) :: (v97) :: (v98) :: (v99) :: (v100) :: (v101) :: (v102) :: (v103) :: (v104) :: (v105) :: (v106) :: (v107) :: (v108) :: (v109) :: (v110) :: (v111) :: (v112) :: (v113) :: (v114) :: (v115) :: (v116) :: (v117) :: (v118) :: (v119) :: (v120) :: (v121) :: (v122) :: (v123) :: (v124) :: (v125) :: (v126) :: (v127) :: (v128) :: (v129) :: (v130) :: (v131) :: (v132) :: (v133) :: (v134) :: (v135) :: (v136) :: (v137) :: (v138) :: (v139) :: (v140) :: (v141) :: (v142) :: (v143) :: (v144) :: (v145) :: (v146) :: (v147) :: (v148) :: (v149) :: (v150) :: (v151) :: (v152) :: (v153) :: (v154) :: (v155) :: (v156) :: (v157) :: (v158) :: (v159) :: (v160) :: (v161) :: (v162) :: (v163) :: (v164) :: (v165) :: (v166) :: (v167) :: (v168) :: (v169) :: (v170) :: (v171) :: (v172) :: (v173) :: (v174) :: (v175) :: (v176) :: (v177) :: (v178) :: (v179) :: (v180) :: (v181) :: (v182) :: (v183) :: (v184) :: (v185) :: (v186) :: (v187) :: (v188) :: (v189) :: (v190) :: (v191) :: (v192) :: (v193) :: (v194) :: (v195) :: (v196) :: (v197) :: (v198) :: (v199) :: (v200) :: (v201) :: (v202) :: (v203) :: (v204) :: (v205) :: (v206) :: (v207) :: (v208) :: (v209) :: (v210) :: (v211) :: (v212) :: (v213) :: (v214) :: (v215) :: (v216) :: (v217) :: (v218) :: (v219) :: (v220) :: (v221) :: []).toArray, []⟩ wx) :
    Code.wp Tryd.prog (bseg 0) Q ⟨((.slice a0 len0 cap0) :: (u1) :: (u2) :: (.pointer (some ⟨j1, 0, none⟩)) :: (.int .i64 ((N : Int))) :: (.slice va N cap) :: (u6) :: (u7) :: (u8) :: (u9) :: (u10) :: (u11) :: (u12) :: (u13) :: (u14) :: (u15) :: (u16) :: (u17) :: (u18) :: (u19) :: (u20) :: (u21) :: (u22) :: (u23) :: (u24) :: (u25) :: (u26) :: (u27) :: (u28) :: (u29) :: (u30) :: (u31) :: (u32) :: (u33) :: (u34) :: (u35) :: (u36) :: (u37) :: (u38) :: (u39) :: (u40) :: (u41) :: (u42) :: (u43) :: (u44) :: (u45) :: (u46) :: (u47) :: (u48) :: (u49) :: (u50) :: (u51) :: (u52) :: (u53) :: (u54) :: (u55) :: (u56) :: (u57) :: (u58) :: (u59) :: (u60) :: (u61) :: (u62) :: (u63) :: (u64) :: (u65) :: (u66) :: (u67) :: (u68) :: (u69) :: (u70) :: (u71) :: (u72) :: (u73) :: (u74) :: (u75) :: (u76) :: (u77) :: (u78) :: (u79) :: (u80) :: (u81) :: (u82) :: (u83) :: (u84) :: (u85) :: (u86) :: (u87) :: (u88) :: (u89) :: (u90) :: (u91) :: (u92) :: (u93) :: (u94) :: (u95) :: (u96) :: (u97) :: (u98) :: (u99) :: (u100) :: (u101) :: (u102) :: (u103) :: (u104) :: (u105) :: (u106) :: (u107) :: (u108) :: (u109) :: (u110) :: (u111) :: (u112) :: (u113) :: (u114) :: (u115) :: (u116) :: (u117) :: (u118) :: (u119) :: (u120) :: (u121) :: (u122) :: (u123) :: (u124) :: (u125) :: (u126) :: (u127) :: (u128) :: (u129) :: (u130) :: (u131) :: (u132) :: (u133) :: (u134) :: (u135) :: (u136) :: (u137) :: (u138) :: (u139) :: (u140) :: (u141) :: (u142) :: (u143) :: (u144) :: (u145) :: (u146) :: (u147) :: (u148) :: (u149) :: (u150) :: (u151) :: (u152) :: (u153) :: (u154) :: (u155) :: (u156) :: (u157) :: (u158) :: (u159) :: (u160) :: (u161) :: (u162) :: (u163) :: (u164) :: (u165) :: (u166) :: (u167) :: (u168) :: (u169) :: (u170) :: (u171) :: (u172) :: (u173) :: (u174) :: (u175) :: (u176) :: (u177) :: (u178) :: (u179) :: (u180) :: (u181) :: (u182) :: (u183) :: (u184) :: (u185) :: (u186) :: (u187) :: (u188) :: (u189) :: (u190) :: (u191) :: (u192) :: (u193) :: (u194) :: (u195) :: (u196) :: (u197) :: (u198) :: (u199) :: (u200) :: (u201) :: (u202) :: (u203) :: (u204) :: (u205) :: (u206) :: (u207) :: (u208) :: (u209) :: (u210) :: (u211) :: (u212) :: (u213) :: (u214) :: (u215) :: (u216) :: (u217) :: (u218) :: (u219) :: (u220) :: (u221) :: []).toArray, []⟩ w9 := by
  conv => arg 2; whnf
  dsimp -failIfUnchanged only
  let bq : Exit → Act → World → Prop := bodyPost Tryd.prog Tryd.f4 (fun _ _ => True)
  have HQ := hid hQ
  clear hQ
  have ho1 := HO.out.one
  have ho5 := HO.out.top
  have L1 := Bx.new w9 #[.int .i64 2, .int .i64 3, .int .i64 5, .int .i64 7] 2
  have M1 := M9.alloc (.cells #[.int .i64 2, .int .i64 3, .int .i64 5, .int .i64 7] 2)
  have A1 := hid (A9.out.next (gr_alloc (Below.refl _ w9) (.cells #[.int .i64 2, .int .i64 3, .int .i64 5, .int .i64 7] 2)))
  have G1 := hid (G9.alloc (.cells #[.int .i64 2, .int .i64 3, .int .i64 5, .int .i64 7] 2))
  have U1 := gr_alloc (Below.refl w9.heap.size w9) (.cells #[.int .i64 2, .int .i64 3, .int .i64 5, .int .i64 7] 2)
  clear M9 A9 G9
  go_wp2_with fail
  go_loopw [116] (fun s116 wr => ∃ i : Nat, s116 = .int .i64 ((i : Int)) ∧ i ≤ 4 ∧ Arr wr j1 a b c d ∧ Hid (Rd wr (.slice va N cap) N g) ∧ Bx wr w9.heap.size #[.int .i64 2, .int .i64 3, .int .i64 5, .int .i64 7] 2 ∧ Hid (Sen wr pv) ∧ Below w9.heap.size w9 wr) (fun s116 _ => 4 - (intOf s116).toNat)
  case atStart => exact ⟨0, rfl, by omega, M1, A1, L1, G1, U1⟩
  case round =>
    obtain ⟨i, rfl, hi, hM, hA, hL, hG, hU⟩ := hrel
    clear L1 M1 A1 G1 U1
    by_cases h4 : i = 4
    · subst h4
      go_wp2_with fail
      exact HQ.out _ _ _ _ _ _ _ _ _ _ _ _ _ _ _ _ _ _ _ _ _ _ _ _ _ _ _ _ _ _ _ _ _ _ _ _ _ _ _ _ _ _ _ _ _ _ _ _ _ _ _ _ _ _ _ _ _ _ _ _ _ _ _ _ _ _ _ _ _ _ _ _ _ _ _ _ _ _ _ _ _ _ _ _ _ _ _ _ _ _ _ _ _ _ _ _ _ _ _ _ _ _ _ _ _ _ _ _ _ _ _ _ _ _ _ _ _ _ _ _ _ _ _ _ _ _ _ _ _ _ _ _ _ _ _ _ _ _ _ _ _ _ _ _ _ _ _ _ _ _ _ _ _ _ _ _ _ _ _ _ _ _ _ _ _ _ _ _ _ _ _ _ _ _ _ _ _ _ _ _ _ _ _ _ _ _ _ _ _ _ _ _ _ _ _ _ _ _ _ _ hU hG.out
    · have hi' : i = 0 ∨ i = 1 ∨ i = 2 ∨ i = 3 := by omega
      clear h4 hi
      rcases hi' with rfl | rfl | rfl | rfl
      · -- 2
        obtain ⟨hg, hk1, hk5⟩ := HO.out.at2
        have h8 := HK.out 2 (by decide)
        generalize kd 2 = kx at hg hk1 hk5 h8
        obtain ⟨x, rfl⟩ : ∃ x : Nat, kx = x := ⟨kx.toNat, by omega⟩
        have H8 := hid h8
        have HG := hid hg
        clear h8 hg
        have l0 := hL.cell 0
        have l0 : wr.cell? ⟨w9.heap.size, 0, none⟩ = some (.int .i64 2) := l0
        obtain ⟨_, m0, m1, m2, m3, _⟩ := id hM
        by_cases hp : (N : Int) < 2
        · go_wp2_with fail
          go_roundw
          case rel => exact ⟨1, rfl, by omega, hM, hA, hL, hG, hU⟩
          case measure => simp [intOf]
        · have hpf : decide ((N : Int) < 2) = false := decide_eq_false hp
          go_wp2_with fail
          refine (H8.out _ hG.out).mono ?_
          rintro e w10 ⟨rfl, hb10⟩
          have M10 := hM.next hb10
          have A10 := hid (hA.out.next hb10)
          have L10 := hL.next hb10
          have G10 := hG.out.next hb10
          have U10 := gr_trans hU hb10
          have D11 := Bx.new w10 #[.int .i64 0, .int .i64 3, .int .i64 1, .int .i64 0, .int .i64 2, .int .i64 1] 2
          have M11 := M10.alloc (.cells #[.int .i64 0, .int .i64 3, .int .i64 1, .int .i64 0, .int .i64 2, .int .i64 1] 2)
          have A11 := hid (A10.out.next (gr_alloc (Below.refl _ w10) (.cells #[.int .i64 0, .int .i64 3, .int .i64 1, .int .i64 0, .int .i64 2, .int .i64 1] 2)))
          have L11 := L10.alloc (.cells #[.int .i64 0, .int .i64 3, .int .i64 1, .int .i64 0, .int .i64 2, .int .i64 1] 2)
          have G11 := hid (G10.alloc (.cells #[.int .i64 0, .int .i64 3, .int .i64 1, .int .i64 0, .int .i64 2, .int .i64 1] 2))
          have U11 := gr_alloc U10 (.cells #[.int .i64 0, .int .i64 3, .int .i64 1, .int .i64 0, .int .i64 2, .int .i64 1] 2)
          have y1 := due_cell D11 (x := x) (by omega) (by omega)
          rcases A11.out with ⟨_, h0⟩ | ⟨gb, cap', e', r1, r2, r3, hcl⟩
          · omega
          · cases e'
            have y0 := hcl 1 (by omega)
            rw [HG.out] at y0
            generalize due (x : Int) = z at y0 y1
            unfold maxLen at r2
            have x1 : decide ((x : Int) < 1) = false := decide_eq_false (by omega)
            have x5 : decide (5 < (x : Int)) = false := decide_eq_false (by omega)
            clear hcl H8 HG hM hA hL hG hU M10 A10 L10 G10 U10 D11 hb10
            go_wp2_with fail
            go_quiet (fail)
            go_wp2_with fail
            go_roundw
            case rel => exact ⟨1, rfl, by omega, M11.drewN _, hid (A11.out.next (gr_drewN (Below.refl _ _) _)), L11.drewN _, hid (G11.out.next (gr_drewN (Below.refl _ _) _)), gr_drewN U11 _⟩
            case measure => simp [intOf]
      · -- 3
        obtain ⟨hg, hk1, hk5⟩ := HO.out.at3
        have h8 := HK.out 3 (by decide)
        generalize kd 3 = kx at hg hk1 hk5 h8
        obtain ⟨x, rfl⟩ : ∃ x : Nat, kx = x := ⟨kx.toNat, by omega⟩
        have H8 := hid h8
        have HG := hid hg
        clear h8 hg
        have l0 := hL.cell 1
        have l0 : wr.cell? ⟨w9.heap.size, 1, none⟩ = some (.int .i64 3) := l0
        obtain ⟨_, m0, m1, m2, m3, _⟩ := id hM
        by_cases hp : (N : Int) < 3
        · go_wp2_with fail
          go_roundw
          case rel => exact ⟨2, rfl, by omega, hM, hA, hL, hG, hU⟩
          case measure => simp [intOf]
        · have hpf : decide ((N : Int) < 3) = false := decide_eq_false hp
          go_wp2_with fail
          refine (H8.out _ hG.out).mono ?_
          rintro e w10 ⟨rfl, hb10⟩
          have M10 := hM.next hb10
          have A10 := hid (hA.out.next hb10)
          have L10 := hL.next hb10
          have G10 := hG.out.next hb10
          have U10 := gr_trans hU hb10
          have D11 := Bx.new w10 #[.int .i64 0, .int .i64 3, .int .i64 1, .int .i64 0, .int .i64 2, .int .i64 1] 2
          have M11 := M10.alloc (.cells #[.int .i64 0, .int .i64 3, .int .i64 1, .int .i64 0, .int .i64 2, .int .i64 1] 2)
          have A11 := hid (A10.out.next (gr_alloc (Below.refl _ w10) (.cells #[.int .i64 0, .int .i64 3, .int .i64 1, .int .i64 0, .int .i64 2, .int .i64 1] 2)))
          have L11 := L10.alloc (.cells #[.int .i64 0, .int .i64 3, .int .i64 1, .int .i64 0, .int .i64 2, .int .i64 1] 2)
          have G11 := hid (G10.alloc (.cells #[.int .i64 0, .int .i64 3, .int .i64 1, .int .i64 0, .int .i64 2, .int .i64 1] 2))
          have U11 := gr_alloc U10 (.cells #[.int .i64 0, .int .i64 3, .int .i64 1, .int .i64 0, .int .i64 2, .int .i64 1] 2)
          have y1 := due_cell D11 (x := x) (by omega) (by omega)
          rcases A11.out with ⟨_, h0⟩ | ⟨gb, cap', e', r1, r2, r3, hcl⟩
          · omega
          · cases e'
            have y0 := hcl 2 (by omega)
            rw [HG.out] at y0
            generalize due (x : Int) = z at y0 y1
            unfold maxLen at r2
            have x1 : decide ((x : Int) < 1) = false := decide_eq_false (by omega)
            have x5 : decide (5 < (x : Int)) = false := decide_eq_false (by omega)
            clear hcl H8 HG hM hA hL hG hU M10 A10 L10 G10 U10 D11 hb10
            go_wp2_with fail
            go_quiet (fail)
            go_wp2_with fail
            go_roundw
            case rel => exact ⟨2, rfl, by omega, M11.drewN _, hid (A11.out.next (gr_drewN (Below.refl _ _) _)), L11.drewN _, hid (G11.out.next (gr_drewN (Below.refl _ _) _)), gr_drewN U11 _⟩
            case measure => simp [intOf]
      · -- 5
        obtain ⟨hg, hk1, hk5⟩ := HO.out.at5
        have h8 := HK.out 5 (by decide)
        generalize kd 5 = kx at hg hk1 hk5 h8
        obtain ⟨x, rfl⟩ : ∃ x : Nat, kx = x := ⟨kx.toNat, by omega⟩
        have H8 := hid h8
        have HG := hid hg
        clear h8 hg
        have l0 := hL.cell 2
        have l0 : wr.cell? ⟨w9.heap.size, 2, none⟩ = some (.int .i64 5) := l0
        obtain ⟨_, m0, m1, m2, m3, _⟩ := id hM
        by_cases hp : (N : Int) < 5
        · go_wp2_with fail
          go_roundw
          case rel => exact ⟨3, rfl, by omega, hM, hA, hL, hG, hU⟩
          case measure => simp [intOf]
        · have hpf : decide ((N : Int) < 5) = false := decide_eq_false hp
          go_wp2_with fail
          refine (H8.out _ hG.out).mono ?_
          rintro e w10 ⟨rfl, hb10⟩
          have M10 := hM.next hb10
          have A10 := hid (hA.out.next hb10)
          have L10 := hL.next hb10
          have G10 := hG.out.next hb10
          have U10 := gr_trans hU hb10
          have D11 := Bx.new w10 #[.int .i64 0, .int .i64 3, .int .i64 1, .int .i64 0, .int .i64 2, .int .i64 1] 2
          have M11 := M10.alloc (.cells #[.int .i64 0, .int .i64 3, .int .i64 1, .int .i64 0, .int .i64 2, .int .i64 1] 2)
          have A11 := hid (A10.out.next (gr_alloc (Below.refl _ w10) (.cells #[.int .i64 0, .int .i64 3, .int .i64 1, .int .i64 0, .int .i64 2, .int .i64 1] 2)))
          have L11 := L10.alloc (.cells #[.int .i64 0, .int .i64 3, .int .i64 1, .int .i64 0, .int .i64 2, .int .i64 1] 2)
          have G11 := hid (G10.alloc (.cells #[.int .i64 0, .int .i64 3, .int .i64 1, .int .i64 0, .int .i64 2, .int .i64 1] 2))
          have U11 := gr_alloc U10 (.cells #[.int .i64 0, .int .i64 3, .int .i64 1, .int .i64 0, .int .i64 2, .int .i64 1] 2)
          have y1 := due_cell D11 (x := x) (by omega) (by omega)
          rcases A11.out with ⟨_, h0⟩ | ⟨gb, cap', e', r1, r2, r3, hcl⟩
          · omega
          · cases e'
            have y0 := hcl 4 (by omega)
            rw [HG.out] at y0
            generalize due (x : Int) = z at y0 y1
            unfold maxLen at r2
            have x1 : decide ((x : Int) < 1) = false := decide_eq_false (by omega)
            have x5 : decide (5 < (x : Int)) = false := decide_eq_false (by omega)
            clear hcl H8 HG hM hA hL hG hU M10 A10 L10 G10 U10 D11 hb10
            go_wp2_with fail
            go_quiet (fail)
            go_wp2_with fail
            go_roundw
            case rel => exact ⟨3, rfl, by omega, M11.drewN _, hid (A11.out.next (gr_drewN (Below.refl _ _) _)), L11.drewN _, hid (G11.out.next (gr_drewN (Below.refl _ _) _)), gr_drewN U11 _⟩
            case measure => simp [intOf]
      · -- 7
        obtain ⟨hg, hk1, hk5⟩ := HO.out.at7
        have h8 := HK.out 7 (by decide)
        generalize kd 7 = kx at hg hk1 hk5 h8
        obtain ⟨x, rfl⟩ : ∃ x : Nat, kx = x := ⟨kx.toNat, by omega⟩
        have H8 := hid h8
        have HG := hid hg
        clear h8 hg
        have l0 := hL.cell 3
        have l0 : wr.cell? ⟨w9.heap.size, 3, none⟩ = some (.int .i64 7) := l0
        obtain ⟨_, m0, m1, m2, m3, _⟩ := id hM
        by_cases hp : (N : Int) < 7
        · go_wp2_with fail
          go_roundw
          case rel => exact ⟨4, rfl, by omega, hM, hA, hL, hG, hU⟩
          case measure => simp [intOf]
        · have hpf : decide ((N : Int) < 7) = false := decide_eq_false hp
          go_wp2_with fail
          refine (H8.out _ hG.out).mono ?_
          rintro e w10 ⟨rfl, hb10⟩
          have M10 := hM.next hb10
          have A10 := hid (hA.out.next hb10)
          have L10 := hL.next hb10
          have G10 := hG.out.next hb10
          have U10 := gr_trans hU hb10
          have D11 := Bx.new w10 #[.int .i64 0, .int .i64 3, .int .i64 1, .int .i64 0, .int .i64 2, .int .i64 1] 2
          have M11 := M10.alloc (.cells #[.int .i64 0, .int .i64 3, .int .i64 1, .int .i64 0, .int .i64 2, .int .i64 1] 2)
          have A11 := hid (A10.out.next (gr_alloc (Below.refl _ w10) (.cells #[.int .i64 0, .int .i64 3, .int .i64 1, .int .i64 0, .int .i64 2, .int .i64 1] 2)))
          have L11 := L10.alloc (.cells #[.int .i64 0, .int .i64 3, .int .i64 1, .int .i64 0, .int .i64 2, .int .i64 1] 2)
          have G11 := hid (G10.alloc (.cells #[.int .i64 0, .int .i64 3, .int .i64 1, .int .i64 0, .int .i64 2, .int .i64 1] 2))
          have U11 := gr_alloc U10 (.cells #[.int .i64 0, .int .i64 3, .int .i64 1, .int .i64 0, .int .i64 2, .int .i64 1] 2)
          have y1 := due_cell D11 (x := x) (by omega) (by omega)
          rcases A11.out with ⟨_, h0⟩ | ⟨gb, cap', e', r1, r2, r3, hcl⟩
          · omega
          · cases e'
            have y0 := hcl 6 (by omega)
            rw [HG.out] at y0
            generalize due (x : Int) = z at y0 y1
            unfold maxLen at r2
            have x1 : decide ((x : Int) < 1) = false := decide_eq_false (by omega)
            have x5 : decide (5 < (x : Int)) = false := decide_eq_false (by omega)
            clear hcl H8 HG hM hA hL hG hU M10 A10 L10 G10 U10 D11 hb10
            go_wp2_with fail
            go_quiet (fail)
            go_wp2_with fail
            go_roundw
            case rel => exact ⟨4, rfl, by omega, M11.drewN _, hid (A11.out.next (gr_drewN (Below.refl _ _) _)), L11.drewN _, hid (G11.out.next (gr_drewN (Below.refl _ _) _)), gr_drewN U11 _⟩
            case measure => simp [intOf]


end Go.Proofs.YtihcmgjfkiaelaaDoor
