/- FnFactors, cut: rational roots are places with the value 0, and forms are irreducible exactly without them. -/
import Derived.Test.YthheongdgcfngaaDoorFq1
namespace Go.Proofs.YthheongdgcfngaaDoor
open Go.ChangeShapes Go.WideShapes Go.ChangeAt Go.RowKit

set_option maxRecDepth 1000000 in
set_option maxHeartbeats 8000000 in
theorem fseg80_any (w : World) (a0 : Option Addr) (len0 cap0 : Nat) (z0 : List Int) (HR : Hid (IsRow .u8 w a0 len0 cap0 z0)) (hlen : len0 ≤ 9223372036854775807) (pv : Value) (wc : World) (hcut : Below w.heap.size w wc) (hG : Sen wc pv) (u1 u2 u3 u4 u5 u6 u7 u8 u9 u10 u11 u12 u13 u14 u15 u16 u17 u18 u19 u20 u21 u22 u23 u24 u25 u26 u27 u28 u29 u30 u31 u32 u33 u34 u35 u36 u37 u38 u39 u40 u41 u42 u43 u44 u45 u46 u47 u48 u49 u50 u51 u52 u53 u54 u55 u56 u57 u58 u59 u60 u61 u62 u63 u64 u65 u66 u67 u68 u69 u70 u71 u72 u73 u74 u75 u76 u77 u78 u79 u80 u81 u82 u83 u84 u85 u86 u87 u88 u89 u90 u91 u92 u93 u94 u95 u96 u97 u98 u99 u100 u101 u102 u103 u104 u105 u106 u107 u108 u109 u110 u111 u112 u113 u114 u115 u116 u117 u118 u119 u120 u121 u122 u123 u124 u125 u126 u127 u128 u129 u130 u131 u132 u133 u134 u135 u136 u137 u138 u139 u140 u141 u142 u143 u144 u145 u146 u147 u148 u149 u150 u151 u152 u153 u154 u155 u156 u157 u158 u159 u160 u161 u162 u163 u164 u165 u166 u167 u168 u169 u170 u171 u172 u173 u174 u175 u176 u177 u178 u179 u180 u181 u182 u183 u184 u185 u186 u187 u188 u189 u190 u191 u192 u193 u194 u195 u196 u197 u198 u199 u200 u201 u202 u203 u204 u205 u206 u207 u208 u209 u210 u211 u212 u213 u214 u215 u216 u217 u218 u219 u220 u221 u222 u223 u224 u225 u226 u227 u228 u229 u230 u231 u232 u233 u234 u235 u236 u237 u238 u239 u240 u241 u242 u243 u244 u245 u246 u247 u248 u249 u250 u251 u252 u253 u254 u255 u256 u257 u258 : Value) :
    Code.wp Tryd.prog (fseg 80) (bodyPost Tryd.prog Tryd.f4 fun e w' => e = .returned (.bool true) ∧ Below w.heap.size w w') ⟨#[.slice a0 len0 cap0, u1, u2, u3, u4, u5, u6, u7, u8, u9, u10, u11, u12, u13, u14, u15, u16, u17, u18, u19, u20, u21, u22, u23, u24, u25, u26, u27, u28, u29, u30, u31, u32, u33, u34, u35, u36, u37, u38, u39, u40, u41, u42, u43, u44, u45, u46, u47, u48, u49, u50, u51, u52, u53, u54, u55, u56, u57, u58, u59, u60, u61, u62, u63, u64, u65, u66, u67, u68, u69, u70, u71, u72, u73, u74, u75, u76, u77, u78, u79, u80, u81, u82, u83, u84, u85, u86, u87, u88, u89, u90, u91, u92, u93, u94, u95, u96, u97, u98, u99, u100, u101, u102, u103, u104, u105, u106, u107, u108, u109, u110, u111, u112, u113, u114, u115, u116, u117, u118, u119, u120, u121, u122, u123, u124, u125, u126, u127, u128, u129, u130, u131, u132, u133, u134, u135, u136, u137, u138, u139, u140, u141, u142, u143, u144, u145, u146, u147, u148, u149, u150, u151, u152, u153, u154, u155, u156, u157, u158, u159, u160, u161, u162, u163, u164, u165, u166, u167, u168, u169, u170, u171, u172, u173, u174, u175, u176, u177, u178, u179, u180, u181, u182, u183, u184, u185, u186, u187, u188, u189, u190, u191, u192, u193, u194, u195, u196, u197, u198, u199, u200, u201, u202, u203, u204, u205, u206, u207, u208, u209, u210, u211, u212, u213, u214, u215, u216, u217, u218, u219, u220, u221, u222, u223, u224, u225, u226, u227, u228, u229, u230, u231, u232, u233, u234, u235, u236, u237, u238, u239, u240, u241, u242, u243, u244, u245, u246, u247, u248, u249, u250, u251, u252, u253, u254, u255, u256, u257, u258], []⟩ wc := by
  have HR2 := hid (row8_next HR.out hcut)
  conv => arg 2; whnf
  go_wp2_with fail
  refine (drawRR_any a0 len0 cap0 z0 _ HR2.out hlen).mono ?_
  rintro e w1 ⟨p, q, r, s, rfl, V1⟩
  have M2 := Arr.new w1 p q r s 25
  have U2 := gr_alloc (gr_trans hcut V1) (.cells #[.int .i64 p, .int .i64 q, .int .i64 r, .int .i64 s] 25)
  have G2 := (hG.next V1).alloc (.cells #[.int .i64 p, .int .i64 q, .int .i64 r, .int .i64 s] 25)
  have h1 := fun W hg => iRationalRoots_any p q r s pv W hg
  have h2 := fun W => sRationalRoots_any p q r s W
  have h3 := fun W hg => iIsIrreducible_any p q r s pv W hg
  have h4 := fun x y W => iValueAt_any p q r s x y W
  have q1 : rrc p q r s = 0 → irc p q r s = 0 ∧ irb p q r s = (((rrt p q r s).length : Int) == 0) ∧ (rrt p q r s).length ≤ 3 ∧ ∀ x ∈ rrt p q r s, va0 p q r s x.1 x.2.1 = 0 ∧ plc p q r s x.1 x.2.1 = 0 := fun h => by
    obtain ⟨hF, hN⟩ := rrc_t h
    exact ⟨irc_0 hF, irb_0 hF hN, rrt_3 hF hN, fun x hx => rrt_z hF hN hx⟩
  unfold RwOutC at h1 h2
  generalize rrt p q r s = RR at h1 h2 q1
  generalize rrc p q r s = k at h1 h2 q1
  generalize irb p q r s = bb at h3 q1
  generalize irc p q r s = kk at h3 q1
  generalize va0 p q r s = vf at h4 q1
  generalize plc p q r s = pf at h4 q1
  have H1 := hid h1; have H2 := hid h2; have H3 := hid h3; have H4 := hid h4; have Q1 := hid q1
  clear h1 h2 h3 h4 q1 hcut hG V1
  obtain ⟨_, m0, m1, m2, m3, _⟩ := id M2
  go_wp2_with fail
  refine (H1.out _ G2).mono ?_
  rintro e w3 ⟨va, rfl, hA, hb3⟩
  clear m0 m1 m2 m3
  have M3 := M2.next hb3
  have U3 := gr_trans U2 hb3
  have G3 := G2.next hb3
  obtain ⟨TA, A3⟩ := hA.toC
  clear M2 U2 G2 hb3 H1 hA
  obtain ⟨_, m0, m1, m2, m3, _⟩ := id M3
  go_wp2_with fail
  refine (H2.out _).mono ?_
  rintro e w4 ⟨vb, rfl, hB, hb4⟩
  clear m0 m1 m2 m3
  have M4 := M3.next hb4
  have U4 := gr_trans U3 hb4
  have G4 := G3.next hb4
  have A4 := A3.next hb4
  obtain ⟨TB, B4⟩ := hB.toC
  clear M3 U3 G3 A3 hb4 H2 hB
  have HA4 := hid A4; have HB4 := hid B4
  clear A4 B4
  go_wp2_with fail
  refine (rows5_any _ _ _ _ va vb 2 _ _ TA TB _ (by omega) HA4.out HB4.out).mono ?_
  rintro e w5 ⟨rfl, hb5⟩
  have M5 := M4.next hb5
  have U5 := gr_trans U4 hb5
  have G5 := G4.next hb5
  have HA5 := hid (HA4.out.next hb5)
  clear M4 U4 G4 HA4 HB4 hb5
  go_upto_if 190 with (fail)
  go_cut [] (fun wx => Below w.heap.size w wx ∧ Sen wx pv)
  case first =>
    by_cases hk : k = 0
    · obtain ⟨rfl, rfl, hl3, hz⟩ := Q1.out hk
      have hA := HA5.out
      rw [if_pos hk] at hA
      have HZ := hid hz
      have hlen' : (RR.map rw2).length = RR.length := List.length_map _
      rw [hlen'] at hA
      have hkt : (k == 0) = true := by simpa using hk
      clear hz hlen' Q1 HA5
      subst hk
      obtain ⟨av, cap, rfl, hc1, hm1, hw1, ha, hr, _⟩ := hA
      have HA := hid ha; have HRr := hid hr
      clear ha hr
      have hC5 := M5.lt
      unfold maxLen at hm1
      obtain ⟨_, m0, m1, m2, m3, _⟩ := id M5
      go_wp2_with fail
      refine (H3.out _ G5).mono ?_
      rintro e w6 ⟨rfl, hb6⟩
      clear m0 m1 m2 m3
      have M6 := M5.next hb6
      have U6 := gr_trans U5 hb6
      have G6 := G5.next hb6
      have hz6 := hb6.size
      clear M5 U5 G5 H3
      cases hz0 : ((RR.length : Int) == 0)
      all_goals
        go_upto_if 209 with (fail)
        clear hz0
        go_wp2_with fail
        go_loopw [26] (fun s26 wr => ∃ j : Nat, j ≤ RR.length ∧ s26 = .int .i64 j ∧ Below w6.heap.size w6 wr) (fun s26 _ => RR.length - (intOf s26).toNat)
        case atStart => exact ⟨0, Nat.zero_le _, rfl, Below.refl _ _⟩
        case round =>
          obtain ⟨j, hj, rfl, hB⟩ := hrel
          by_cases hlt : j < RR.length
          · obtain ⟨g, rfl, _, hg, hcell⟩ := HA.out (by omega)
            obtain ⟨hTB, hTC, hcl⟩ := HRr.out j hlt
            have hgs : g < w5.heap.size := by omega
            have hts : TA j < w5.heap.size := by omega
            have hw1s := M6.lt
            have hBB : Below w5.heap.size w5 wr := hb6.trans (hB.mono hz6)
            have c0 := (hBB.cell (p := ⟨g, j, none⟩) hgs).trans (hcell j hlt).1
            have r0 := (hBB.cell (p := ⟨TA j, 0, none⟩) hts).trans (hcl.2 0 (by omega)).1
            have r1 := (hBB.cell (p := ⟨TA j, 1, none⟩) hts).trans (hcl.2 1 (by omega)).1
            have hlR := hlt
            obtain ⟨z1, z2⟩ := HZ.out (RR.getD j (0, 0, 0)) (getD_mem RR j (0, 0, 0) hlR)
            have e0 : ((RR.map rw2).getD j []).getD 0 0 = (RR.getD j (0, 0, 0)).1 := by simp [List.getD, hlR, rw2]
            have e1 : ((RR.map rw2).getD j []).getD 1 0 = (RR.getD j (0, 0, 0)).2.1 := by simp [List.getD, hlR, rw2]
            simp only [e0] at r0
            simp only [e1] at r1
            have h4 := fun W => H4.out (RR.getD j (0, 0, 0)).1 (RR.getD j (0, 0, 0)).2.1 W
            rw [z1, z2] at h4
            generalize (RR.getD j (0, 0, 0)).1 = x at h4 r0
            generalize (RR.getD j (0, 0, 0)).2.1 = y at h4 r1
            generalize TA j = t at c0 r0 r1 hts
            have h4' := hid h4
            obtain ⟨_, m0, m1, m2, m3, _⟩ := id (M6.next hB)
            have HBr := hid hB
            have hgw : g < wr.heap.size := by have := hBB.size; omega
            have htw : t < wr.heap.size := by have := hBB.size; omega
            have h1w : w1.heap.size < wr.heap.size := by have := hB.size; omega
            clear hcell hcl hTB hTC hBB hgs z1 z2 e0 e1 h4 hB hlR
            go_wp2_with fail
            go_region_held3 (fun W => W.cell? ⟨g, j, none⟩ = some (.slice (some ⟨t, 0, none⟩) 2 2) ∧ W.cell? ⟨t, 0, none⟩ = some (.int .i64 x) ∧ W.cell? ⟨t, 1, none⟩ = some (.int .i64 y) ∧ W.cell? ⟨w1.heap.size, 0, none⟩ = some (.int .i64 p) ∧ W.cell? ⟨w1.heap.size, 1, none⟩ = some (.int .i64 q) ∧ W.cell? ⟨w1.heap.size, 2, none⟩ = some (.int .i64 r) ∧ W.cell? ⟨w1.heap.size, 3, none⟩ = some (.int .i64 s)) (first | exact ⟨by assumption, by assumption, by assumption, by assumption, by assumption, by assumption, by assumption⟩ | (refine ⟨?_, ?_, ?_, ?_, ?_, ?_, ?_⟩ <;> (refine (Below.cell (by assumption) ?_).trans (by assumption); (first | omega | (simp; omega))))) ((go_at_call 32; refine (h4'.out _).mono ?_; rintro e w8 ⟨rfl, hb8⟩))
            have HB8 := hid (show Below w6.heap.size w6 w8 by have := HBr.out; (repeat' (first | with_reducible exact Below.refl _ _ | with_reducible assumption | with_reducible refine gr_alloc ?_ _ | with_reducible refine gr_drew ?_ | with_reducible refine gr_drewN ?_ _ | with_reducible refine gr_trans ?_ (by assumption) | with_reducible refine gr_set ?_ ?_ _ | (simp; done) | omega | (simp; omega))))
            clear m0 m1 m2 m3 c0 r0 r1
            go_wp2_with fail
            go_roundw
            case rel => exact ⟨j + 1, by omega, by go_num, HB8.out⟩
            case measure => simp [intOf]; omega
          · have e : j = RR.length := by omega
            subst e
            have HBr := hid hB
            clear hB hlt
            go_wp2_with fail
            go_meet
            exact ⟨U6.trans (HBr.out.mono U6.size), G6.next HBr.out⟩
    · have hkf : (k == 0) = false := by simpa using hk
      clear hk
      go_wp2_with fail
      go_meet
      exact ⟨U5, G5⟩
  case rest =>
    obtain ⟨h1, h2⟩ := hcut
    go_step
    exact fseg190_any w a0 len0 cap0 z0 HR hlen pv _ h1 h2 _ _ _ _ _ _ _ _ _ _ _ _ _ _ _ _ _ _ _ _ _ _ _ _ _ _ _ _ _ _ _ _ _ _ _ _ _ _ _ _ _ _ _ _ _ _ _ _ _ _ _ _ _ _ _ _ _ _ _ _ _ _ _ _ _ _ _ _ _ _ _ _ _ _ _ _ _ _ _ _ _ _ _ _ _ _ _ _ _ _ _ _ _ _ _ _ _ _ _ _ _ _ _ _ _ _ _ _ _ _ _ _ _ _ _ _ _ _ _ _ _ _ _ _ _ _ _ _ _ _ _ _ _ _ _ _ _ _ _ _ _ _ _ _ _ _ _ _ _ _ _ _ _ _ _ _ _ _ _ _ _ _ _ _ _ _ _ _ _ _ _ _ _ _ _ _ _ _ _ _ _ _ _ _ _ _ _ _ _ _ _ _ _ _ _ _ _ _ _ _ _ _ _ _ _ _ _ _ _ _ _ _ _ _ _ _ _ _ _ _ _ _ _ _ _ _ _ _ _ _ _ _ _ _ _ _ _ _ _ _ _ _ _ _ _ _ _ _ _ _ _ _ _ _ _ _ _ _

end Go.Proofs.YthheongdgcfngaaDoor
