/- FnIdeals: ideal numbers of products without a common divisor are products, sums add them up, kinds are counted for all primes, at every code. One condition, tied to the program's text: the package's error for forms without factors is laid. -/
import Derived.Test.YtihcmgjfkiaelaaDoorIq3
namespace Go.Proofs.YtihcmgjfkiaelaaDoor
open Go.ChangeShapes Go.WideShapes Go.ChangeAt Go.RowKit

theorem Rd1.up {B C : Nat} {w w' : World} {v : Value} {n : Nat} {g : Nat → Int} (h : Rd1 B w v n g) (hb : Below B w w') (hC : B ≤ C) : Rd1 C w' v n g := by
  rcases h.below hb (Nat.le_refl _) with h | ⟨b, cap, h1, h2, h3, h4, h5⟩
  · exact .inl h
  · exact .inr ⟨b, cap, h1, h2, h3, by omega, h5⟩

set_option maxHeartbeats 400000 in
theorem big_any (a : Option Addr) (len cap : Nat) (w : World) :
    Calls Tryd.prog 5 #[.slice a len cap] w fun e w' => e = .returned (.bool (decide (4096 < (len : Int)))) ∧ w = w' := by
  go_enter Tryd.func5, Tryd.ntmps5
  go_wp2
  go_ret
  exact ⟨rfl, rfl⟩

set_option maxRecDepth 1000000 in
set_option maxHeartbeats 8000000 in
theorem FnIdeals_walk (w : World) (a0 : Option Addr) (len0 cap0 : Nat) (z0 : List Int) (hR : IsRow .u8 w a0 len0 cap0 z0) (pv : Value) (hg : Sen w pv) :
    Calls Tryd.prog 4 #[.slice a0 len0 cap0] w fun e w' => e = .returned (.bool true) ∧ Below w.heap.size w w' := by
  have HR := hid hR
  clear hR
  by_cases hb : 4096 < (len0 : Int)
  · go_enter Tryd.func4, Tryd.ntmps4
    go_wp2_with (go_at_call 5; refine (big_any _ _ _ _).mono ?_; rintro e w1 ⟨rfl, rfl⟩)
    go_ret
    exact ⟨rfl, Below.refl _ _⟩
  have hlen : len0 ≤ 9223372036854775807 := by omega
  have hb' : decide (4096 < (len0 : Int)) = false := decide_eq_false hb
  have HB := hid hb'
  clear hb
  go_enter Tryd.func4, Tryd.ntmps4
  go_wp2_with (go_at_call 5; refine (big_any _ _ _ _).mono ?_; rintro e w1 ⟨rfl, rfl⟩)
  refine (drawId_any a0 len0 cap0 z0 _ HR.out hlen).mono ?_
  rintro e w1 ⟨a, b, c, d, n, rfl, U1⟩
  have M2 := Arr.new w1 a b c d 25
  have U2 := gr_alloc U1 (.cells #[.int .i64 a, .int .i64 b, .int .i64 c, .int .i64 d] 25)
  have G2 := (hg.next U1).alloc (.cells #[.int .i64 a, .int .i64 b, .int .i64 c, .int .i64 d] 25)
  obtain ⟨ND, hND⟩ := nds_ex
  have h1 := fun W hg => iIdeals_any a b c d n ND hND pv W hg
  have h2 := fun W => sIdeals_any a b c d n ND hND W
  have h3 := fun W hg => iSum_any a b c d n ND hND pv W hg
  have h4 := fun (p : Int) W hg => iKindModulo_any a b c d p pv W hg
  unfold LstOut at h1
  unfold LstOff at h2
  have q1 : idc a b c d n = 0 → ∃ N : Nat, n = (N : Int) ∧ (if idc a b c d n = 0 then n.toNat else 0) = N ∧ IdOk N (idn a b c d ND) (kdn a b c d) ∧ KdAt a b c d pv (kdn a b c d) ∧ (∀ W, Sen W pv → Calls Tryd.prog 32 #[.agg #[.int .i64 a, .int .i64 b, .int .i64 c, .int .i64 d], .int .i64 ((N : Int))] W fun e w' => e = .returned (.tuple #[.int .i64 (sms (idn a b c d ND) N), .int .i64 0]) ∧ Below W.heap.size W w') := fun h => by
    obtain ⟨hF, b1, b5⟩ := idc_t h
    obtain ⟨N, rfl⟩ : ∃ N : Nat, n = (N : Int) := ⟨n.toNat, by omega⟩
    refine ⟨N, rfl, by rw [if_pos h]; rfl, id_ok hND h, fun p hp W hg => ?_, fun W hg => ?_⟩
    · have := h4 p W hg
      have hf : fpc a b c d p = 0 := fpc_0.2 ⟨hF, hp⟩
      rw [hf, show kmv a b c d p = kdn a b c d p by simp [kmv, hf]] at this
      exact this
    · have := h3 W hg
      rw [h] at this
      exact this
  clear h3 h4 hND
  generalize (if idc a b c d n = 0 then n.toNat else 0) = n1 at h1 h2 q1
  generalize idc a b c d n = k at h1 h2 q1
  generalize idn a b c d ND = g at h1 h2 q1
  generalize kdn a b c d = kd at q1
  have H1 := hid h1; have H2 := hid h2; have Q1 := hid q1
  clear h1 h2 q1 hg U1
  obtain ⟨_, m0, m1, m2, m3, _⟩ := id M2
  go_wp2_with fail
  refine (H1.out _ G2).mono ?_
  rintro e w3 ⟨va, rfl, hA, hb3⟩
  clear m0 m1 m2 m3
  have M3 := M2.next hb3
  have U3 := gr_trans U2 hb3
  have G3 := G2.next hb3
  have A3 := hid hA.rd
  obtain ⟨aa, ca, rfl⟩ := hA.rd.form
  clear M2 U2 G2 hb3 H1 hA
  obtain ⟨_, m0, m1, m2, m3, _⟩ := id M3
  go_wp2_with fail
  refine (H2.out _).mono ?_
  rintro e w4 ⟨vb, rfl, hB, hb4⟩
  clear m0 m1 m2 m3
  have M4 := M3.next hb4
  have U4 := gr_trans U3 hb4
  have G4 := G3.next hb4
  have A4 := hid (A3.out.next hb4)
  clear M3 U3 G3 A3 hb4 H2
  go_wp2_with fail
  refine (likeI1_any _ _ _ _ _ A4.out hB).mono ?_
  rintro e w5 ⟨rfl, hb5⟩
  have M5 := M4.next hb5
  have U5 := gr_trans U4 hb5
  have G5 := G4.next hb5
  have A5 := hid (A4.out.next hb5)
  clear M4 U4 G4 A4 hb5 hB
  go_upto_if 60 with (fail)
  go_cut [] (fun wx => Below w.heap.size w wx ∧ Sen wx pv)
  case first =>
    by_cases hk : k = 0
    · obtain ⟨N, rfl, rfl, q2, q3, q4⟩ := Q1.out hk
      have hkt : (k == 0) = true := by simpa using hk
      subst hk
      have HO := hid q2; have HK := hid q3; have HS := hid q4
      clear q2 q3 q4 Q1
      go_step
      refine then60_any a0 len0 cap0 pv w5 _ n1 ca aa a b c d g kd M5 G5 A5 HO HK HS _ _ _ _ _ _ _ _ _ _ _ _ _ _ _ _ _ _ _ _ _ _ _ _ _ _ _ _ _ _ _ _ _ _ _ _ _ _ _ _ _ _ _ _ _ _ _ _ _ _ _ _ _ _ _ _ _ _ _ _ _ _ _ _ _ _ _ _ _ _ _ _ _ _ _ _ _ _ _ _ _ _ _ _ _ _ _ _ _ _ _ _ _ _ _ _ _ _ _ _ _ _ _ _ _ _ _ _ _ _ _ _ _ _ _ _ _ _ _ _ _ _ _ _ _ _ _ _ _ _ _ _ _ _ _ _ _ _ _ _ _ _ _ _ _ _ _ _ _ _ _ _ _ _ _ _ _ _ _ _ _ _ _ _ _ _ _ _ _ _ _ _ _ _ _ _ _ _ _ _ _ _ _ _ _ _ _ _ _ _ _ _ _ _ _ _ _ _ _ _ _ _ _ _ _ _ _ _ _ _ _ _ _ _ _ _ _ _ _ ?_
      intro v2 v9 v10 v11 v13 v14 v15 v16 v31 v32 v33 v34 v35 v36 v37 v38 v39 v40 v41 v42 v43 v44 v45 v46 v47 v48 v49 v50 v51 v52 v53 v54 v55 v56 v57 v58 v59 v60 v61 v62 v63 v64 v65 v66 v67 v68 v69 v70 v71 v72 v73 v74 v75 v76 v77 v78 v79 v80 v81 v82 v83 v84 v85 v86 v87 v88 v89 v90 v91 v92 v93 v94 v95 v96 v97 v98 v99 v100 v101 v102 v103 v104 v105 v106 v107 v108 v109 v110 v111 v112 v113 v114 v115 v116 v117 v118 v119 v120 v121 v122 v123 v124 v125 v126 v127 v128 v129 v130 v131 v132 v133 v134 v135 v136 v137 v138 v139 v140 v141 v142 v143 v144 v145 v146 v147 v148 v149 v150 v151 v152 v153 v154 v155 v156 v157 v158 v159 v160 v161 v162 v163 v164 v165 v166 v167 v168 v169 v170 v171 v172 v173 v174 v175 v176 v177 v178 v179 v180 v181 v182 v183 v184 v185 v186 v187 v188 v189 v190 v191 v192 v193 v194 v195 v196 v197 v198 v199 v200 v201 v202 v203 v204 v205 v206 v207 v208 v209 v210 v211 v212 v213 v214 v215 v216 v217 v218 v219 v220 v221 wx hwx hgx
      go_step
      go_step
      go_meet
      exact ⟨gr_trans U5 hwx, hgx⟩
    · have hkf : (k == 0) = false := by simpa using hk
      clear hk
      go_wp2_with fail
      go_meet
      exact ⟨U5, G5⟩
  case rest =>
    obtain ⟨h1, h2⟩ := hcut
    go_step
    exact kseg60_any w a0 len0 cap0 z0 HR hlen pv _ h1 h2 _ _ _ _ _ _ _ _ _ _ _ _ _ _ _ _ _ _ _ _ _ _ _ _ _ _ _ _ _ _ _ _ _ _ _ _ _ _ _ _ _ _ _ _ _ _ _ _ _ _ _ _ _ _ _ _ _ _ _ _ _ _ _ _ _ _ _ _ _ _ _ _ _ _ _ _ _ _ _ _ _ _ _ _ _ _ _ _ _ _ _ _ _ _ _ _ _ _ _ _ _ _ _ _ _ _ _ _ _ _ _ _ _ _ _ _ _ _ _ _ _ _ _ _ _ _ _ _ _ _ _ _ _ _ _ _ _ _ _ _ _ _ _ _ _ _ _ _ _ _ _ _ _ _ _ _ _ _ _ _ _ _ _ _ _ _ _ _ _ _ _ _ _ _ _ _ _ _ _ _ _ _ _ _ _ _ _ _ _ _ _ _ _ _ _ _ _ _ _ _ _ _ _ _ _ _ _ _ _ _ _ _ _ _ _ _ _ _ _ _ _

set_option maxRecDepth 100000 in
set_option maxHeartbeats 1000000 in
theorem FnIdeals_lifted (os : Os) (started : os.Started) (H : Type) (enc : TypeId × Value → H) :
    ReturnsInHanded {} Tryd.checked os 4 .any (fun w args => (Rows.fnIdealsSpec.pre enc Tryd.prog Tryd.f4 Rows.fnIdealsRow.domain false w args ∧ laidMetH Tryd.prog Rows.fnIdealsRow.laid w) ∧ sizedMet enc Tryd.prog Tryd.f4 (OpenSpec.ofChange Rows.fnIdealsSpec) false w args)
      (Rows.fnIdealsSpec.post enc Tryd.prog Tryd.f4 false true false false) := by
  refine returnsInHanded_of_change_and (C := Tryd.checked) (X := fun w _ => laidMetH Tryd.prog Rows.fnIdealsRow.laid w) (fun _ _ _ hh h => h.of_heap hh) own started (by kernel_rfl) Tryd.func4
    (ChangeSpec.witness_shaped (enc := enc) (C := Tryd.checked) (os := os) (X := fun w _ => laidMetH Tryd.prog Rows.fnIdealsRow.laid w) false (World.doorLaid Tryd.prog 400 os) #[.slice none 0 0] 8 rfl (World.shaped_of_RefB (by kernel_rfl) (by kernel_rfl)) (by kernel_rfl) (by kernel_rfl) (by kernel_rfl) (nf_door os _)) ?_
  intro W base args ds gs before hval0 hW _ _ hL _
  have hval : ∀ (j : Nat) t v, Tryd.f4.params[j]? = some t → args[j]? = some v → Value.okWide Tryd.prog W .any base t v := hval0
  have hW' := hW
  obtain ⟨p, q, hA0, hV, rfl, hfz, hnd⟩ := hW
  have hA : DataW.TrodAll enc Tryd.prog W 0 (fun _ => true) true Tryd.f4.params.toList args.toList ds p := hA0
  rw [Tryd.params4] at hA hval
  obtain ⟨v0, vs0, d0, ds0, p0, q0, hargs, rfl, rfl, h0, r0⟩ := trodAll_cons hA
  obtain ⟨rfl, rfl, rfl⟩ := trodAll_nil r0
  obtain rfl : args = #[v0] := by cases args; simp_all
  obtain ⟨x0, hv0, hs0⟩ := nf_laid hL
  obtain ⟨rfl, rfl⟩ := DataW.TrodVars.unique hV (vars_read1 enc nfG nfT Tryd.underlying98 hv0 trivial _)
  have k0 := h0
  have lt0 : ∀ x ∈ p0, x.block < W.heap.size := by obtain ⟨m, hm⟩ := k0; exact DataW.trod_lt m _ _ _ hm
  obtain ⟨a0, len0, cap0, rfl⟩ := okWide_slice Tryd.underlying22 (hval 0 22 v0 rfl rfl)
  obtain ⟨z0, w0⟩ := open_row (k := .u8) Tryd.underlying22 Tryd.underlying5 (by kernel_rfl) h0
  clear hA0 hval0
  refine (FnIdeals_walk W a0 len0 cap0 z0 w0 x0 hs0).mono fun e W' ⟨he, bel⟩ => ?_
  subst he
  exact ⟨_, rfl, _, _, _, [], _, _, hW', trodAll_mk1 (shut_bool Tryd.underlying4 _), (trodAll_cons_mk (Below.trod laidOut (by kernel_rfl) (of_decide_eq_true (by kernel_rfl)) k0 bel lt0) trodAll_mk0), vars_read1 enc nfG nfT Tryd.underlying98 (var_below hv0 bel) trivial _, bel.frame _, fun h => by cases h⟩

/-- The row of the statement. -/
theorem FnIdeals_holds : Rows.FnIdealsSaid :=
  OpenClaim.holds_of_wide 4 Tryd.f4 rfl rfl rfl rfl rfl rfl rfl ⟨rfl, rfl, rfl, rfl, rfl⟩ rfl rfl rfl rfl rfl (by kernel_rfl) Tryd.func4 (by kernel_rfl)
    (of_decide_eq_true (by kernel_rfl)) (by unfold Func.isWrapper; first | (rw [if_pos (by decide +kernel)]; kernel_rfl) | (rw [if_neg (by decide +kernel)]; exact ⟨rfl, rfl⟩))
    (fun os started H enc _ => FnIdeals_lifted os started H enc)

/-- THE STATEMENT: the row, its listed variable tied to the program's text. -/
theorem FnIdeals_card : Rows.FnIdealsCardSaid :=
  Claim7.holds_tied_plain_at .later [] [.sentinel] true (true, "5b3b9dabc7c913057930f960b26d218835c99397774475c9c64a93778a998715") true
    FnIdeals_holds (fun _ h => by cases h) (by kernel_rfl) (fun _ h => by cases h) fnIdeals_row_tie rfl ⟨rfl, rfl⟩ (by kernel_rfl) rfl
    (fun f fn hf hfn => by
      obtain rfl : f = 4 := Option.some.inj ((show Tryd.prog.funcNamed "loop.example/g01342/laws.FnIdeals" = some 4 by kernel_rfl).symm.trans hf) |>.symm
      obtain rfl : fn = Tryd.f4 := (Option.some.inj (Tryd.func4.symm.trans hfn)).symm
      exact ⟨by kernel_rfl, fun j t ht => by
        rw [Tryd.params4] at ht
        have hm : t ∈ [22] := by simpa using Array.mem_of_getElem? ht
        have hall : ([22].all fun u => !Tryd.prog.wantsStandIn u) = true := by kernel_rfl
        exact (show Tryd.prog.wantsStandIn t = false by simpa using List.all_eq_true.1 hall t hm)⟩)
    (by kernel_rfl)
#print axioms FnIdeals_card

end Go.Proofs.YtihcmgjfkiaelaaDoor
