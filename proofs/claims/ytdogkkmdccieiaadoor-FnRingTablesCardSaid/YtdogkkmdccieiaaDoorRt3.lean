/- FnRingTables, cut: the discriminant of an element. -/
import Derived.Test.YtdogkkmdccieiaaDoorRt2
namespace Go.Proofs.YtdogkkmdccieiaaDoor
open Go.ChangeShapes Go.WideShapes Go.ChangeAt Go.RowKit

set_option maxRecDepth 1000000 in
set_option maxHeartbeats 8000000 in
theorem tseg192_any (w : World) (a0 : Option Addr) (len0 cap0 : Nat) (z0 : List Int) (HR : Hid (IsRow .u8 w a0 len0 cap0 z0)) (hlen : len0 ≤ 9223372036854775807) (pv : Value) (hg : Hid (SenU w pv)) (wc : World) (hcut : Below w.heap.size w wc) (jf jx : Nat) (a b c d u v x n1 K1 : Int) (hA : Hid (RtZ wc jf jx a b c d u v x)) (hV : Hid (RtV a b c d u v x n1 K1)) (jg jy ji : Nat) (p q r s y0 y1 y2 i0 i1 i2 K2 : Int) (hB : Hid (RtY wc jg jy ji p q r s y0 y1 y2 i0 i1 i2)) (hI : Hid (RtI p q r s y0 y1 y2 i0 i1 i2 K2)) (jh jz : Nat) (e f g h z0' z1' z2' n3 K3 : Int) (hC : Hid (RtZ wc jh jz e f g h z0' z1' z2')) (hD : Hid (RtD e f g h z0' z1' z2' n3 K3)) (u1 u2 u7 u8 u13 u14 u19 u20 u21 u22 u23 u24 u25 u26 u27 u28 u29 u30 u31 u32 u33 u34 u35 u36 u37 u38 u39 u40 u41 u42 u43 u44 u45 u46 u47 u48 u49 u50 u51 u52 u53 u54 u55 u56 u57 u58 u59 u60 u61 u62 u63 u64 u65 u66 u67 u68 u69 u70 u71 u72 u73 u74 u75 u76 u77 u78 u79 u80 u81 u82 u83 u84 u85 u86 u87 u88 u89 u90 u91 u92 u93 u94 u95 u96 u97 u98 u99 u100 u101 u102 u103 u104 u105 u106 u107 u108 u109 u110 u111 u112 u113 u114 u115 u116 u117 u118 u119 u120 u121 u122 u123 u124 u125 u126 u127 u128 u129 u130 u131 u132 u133 u134 u135 u136 u137 u138 u139 u140 u141 u142 u143 u144 u145 u146 u147 u148 u149 u150 u151 u152 u153 u154 u155 u156 u157 u158 u159 u160 u161 u162 u163 u164 u165 u166 u167 u168 u169 u170 u171 u172 u173 u174 u175 u176 u177 u178 u179 u180 u181 u182 u183 u184 u185 u186 u187 u188 u189 u190 u191 u192 u193 u194 u195 u196 u197 u198 u199 u200 u201 u202 u203 u204 u205 u206 u207 u208 u209 u210 u211 u212 u213 u214 u215 u216 u217 u218 u219 u220 u221 u222 u223 u224 u225 u226 u227 u228 u229 u230 u231 u232 u233 u234 u235 u236 u237 u238 u239 u240 u241 u242 u243 u244 u245 u246 u247 u248 u249 u250 u251 u252 u253 u254 u255 u256 u257 u258 u259 u260 u261 u262 u263 u264 u265 u266 u267 u268 u269 u270 u271 u272 u273 u274 u275 u276 u277 u278 u279 u280 u281 u282 u283 u284 u285 u286 u287 u288 u289 u290 u291 u292 u293 u294 u295 u296 u297 u298 u299 u300 u301 u302 u303 u304 : Value) :
    Code.wp Tryd.prog (tseg 192) (bodyPost Tryd.prog Tryd.f3 fun e w' => e = .returned (.bool true) ∧ Below w.heap.size w w') ⟨#[.slice a0 len0 cap0, u1, u2, .pointer (some ⟨jf, 0, none⟩), .pointer (some ⟨jx, 0, none⟩), .int .i64 n1, .int .i64 K1, u7, u8, .pointer (some ⟨jg, 0, none⟩), .pointer (some ⟨jy, 0, none⟩), .pointer (some ⟨ji, 0, none⟩), .int .i64 K2, u13, u14, .pointer (some ⟨jh, 0, none⟩), .pointer (some ⟨jz, 0, none⟩), .int .i64 n3, .int .i64 K3, u19, u20, u21, u22, u23, u24, u25, u26, u27, u28, u29, u30, u31, u32, u33, u34, u35, u36, u37, u38, u39, u40, u41, u42, u43, u44, u45, u46, u47, u48, u49, u50, u51, u52, u53, u54, u55, u56, u57, u58, u59, u60, u61, u62, u63, u64, u65, u66, u67, u68, u69, u70, u71, u72, u73, u74, u75, u76, u77, u78, u79, u80, u81, u82, u83, u84, u85, u86, u87, u88, u89, u90, u91, u92, u93, u94, u95, u96, u97, u98, u99, u100, u101, u102, u103, u104, u105, u106, u107, u108, u109, u110, u111, u112, u113, u114, u115, u116, u117, u118, u119, u120, u121, u122, u123, u124, u125, u126, u127, u128, u129, u130, u131, u132, u133, u134, u135, u136, u137, u138, u139, u140, u141, u142, u143, u144, u145, u146, u147, u148, u149, u150, u151, u152, u153, u154, u155, u156, u157, u158, u159, u160, u161, u162, u163, u164, u165, u166, u167, u168, u169, u170, u171, u172, u173, u174, u175, u176, u177, u178, u179, u180, u181, u182, u183, u184, u185, u186, u187, u188, u189, u190, u191, u192, u193, u194, u195, u196, u197, u198, u199, u200, u201, u202, u203, u204, u205, u206, u207, u208, u209, u210, u211, u212, u213, u214, u215, u216, u217, u218, u219, u220, u221, u222, u223, u224, u225, u226, u227, u228, u229, u230, u231, u232, u233, u234, u235, u236, u237, u238, u239, u240, u241, u242, u243, u244, u245, u246, u247, u248, u249, u250, u251, u252, u253, u254, u255, u256, u257, u258, u259, u260, u261, u262, u263, u264, u265, u266, u267, u268, u269, u270, u271, u272, u273, u274, u275, u276, u277, u278, u279, u280, u281, u282, u283, u284, u285, u286, u287, u288, u289, u290, u291, u292, u293, u294, u295, u296, u297, u298, u299, u300, u301, u302, u303, u304], []⟩ wc := by
  conv => arg 2; whnf
  go_upto_if 210 with (fail)
  go_cut [] (fun wx => Below w.heap.size w wx ∧ RtZ wx jf jx a b c d u v x ∧ RtY wx jg jy ji p q r s y0 y1 y2 i0 i1 i2)
  case first =>
    have hS0 := hA.out
    have hY0 := hB.out
    have hZ0 := hC.out
    by_cases hk : K3 = 0
    · have hkt : (K3 == 0) = true := by simpa using hk
      obtain ⟨l1, l2, l3, hpo, hdi⟩ := hD.out hk
      unfold LstOut at hpo
      have HP := hid hpo; have HD := hid hdi
      clear hA hB hC hI hD hpo hdi hV hk
      obtain ⟨⟨_, f0, f1, f2, f3, _⟩, ⟨_, x0, x1, x2, _⟩⟩ := id hZ0
      go_wp2_with fail
      refine (HP.out _).mono ?_
      rintro e' w1 ⟨vo, rfl, hO1, hb1⟩
      have S2 := hid (hS0.next hb1)
      have Y2 := hid (hY0.next hb1)
      have U2 := gr_trans hcut hb1
      obtain ⟨_, h0⟩ | ⟨bo, co, rfl, ho1, ho2, ho3, hcell⟩ := id hO1.rd
      · exact absurd h0 (by simp)
      unfold maxLen at ho2
      simp only [if_true] at hcell ho1 ho2 ho3 ⊢
      have HCell := hid hcell
      clear hS0 hY0 hZ0 hcut f0 f1 f2 f3 x0 x1 x2 hcell hO1 HP hb1
      go_wp2_with fail
      go_loopw [39, 40] (fun s39 s40 wr => ∃ (k : Nat) (sm : Bool), k ≤ 4 ∧ s39 = .bool sm ∧ s40 = .int .i64 k ∧ (sm = true → ∀ j, j < k → -1000 ≤ q4 1 l1 l2 l3 j ∧ q4 1 l1 l2 l3 j ≤ 1000) ∧ Below w1.heap.size w1 wr) (fun _ i _ => 4 - (intOf i).toNat)
      case atStart => exact ⟨0, true, by omega, rfl, rfl, fun _ j hj => absurd hj (Nat.not_lt_zero _), Below.refl _ _⟩
      case round =>
        obtain ⟨k, sm, hk, rfl, rfl, hsm, hBw⟩ := hrel
        have HSm := hid hsm
        by_cases hlt : k < 4
        · have ck := (hBw.cell (p := ⟨bo, k, none⟩) ho3).trans (HCell.out k hlt)
          obtain ⟨y, hy⟩ : ∃ y, y = q4 1 l1 l2 l3 k := ⟨_, rfl⟩
          rw [← hy] at ck
          have HY := hid hy
          clear hy hsm
          cases sm
          · go_wp2_with fail
            go_roundw
            case rel => exact ⟨k + 1, false, by omega, rfl, by go_num, (fun h => Bool.noConfusion h), by (repeat' (first | with_reducible exact Below.refl _ _ | with_reducible assumption | with_reducible refine gr_alloc ?_ _ | with_reducible refine gr_drew ?_ | with_reducible refine gr_drewN ?_ _ | with_reducible refine gr_trans ?_ (by assumption) | with_reducible refine gr_set ?_ ?_ _ | (simp; done) | omega | (simp; omega)))⟩
            case measure => simp [intOf]; omega
          · rcases Int.lt_or_le y (-1000) with h1 | h1
            · go_wp2_with fail
              go_roundw
              case rel => exact ⟨k + 1, false, by omega, rfl, by go_num, (fun h => Bool.noConfusion h), by (repeat' (first | with_reducible exact Below.refl _ _ | with_reducible assumption | with_reducible refine gr_alloc ?_ _ | with_reducible refine gr_drew ?_ | with_reducible refine gr_drewN ?_ _ | with_reducible refine gr_trans ?_ (by assumption) | with_reducible refine gr_set ?_ ?_ _ | (simp; done) | omega | (simp; omega)))⟩
              case measure => simp [intOf]; omega
            · rcases Int.lt_or_le 1000 y with h2 | h2
              · go_wp2_with fail
                go_roundw
                case rel => exact ⟨k + 1, false, by omega, congrArg Value.bool (decide_eq_false (by omega)), by go_num, (fun h => Bool.noConfusion h), by (repeat' (first | with_reducible exact Below.refl _ _ | with_reducible assumption | with_reducible refine gr_alloc ?_ _ | with_reducible refine gr_drew ?_ | with_reducible refine gr_drewN ?_ _ | with_reducible refine gr_trans ?_ (by assumption) | with_reducible refine gr_set ?_ ?_ _ | (simp; done) | omega | (simp; omega)))⟩
                case measure => simp [intOf]; omega
              · go_wp2_with fail
                go_roundw
                case rel =>
                  refine ⟨k + 1, true, by omega, rfl, by go_num, fun _ j hj => ?_, by (repeat' (first | with_reducible exact Below.refl _ _ | with_reducible assumption | with_reducible refine gr_alloc ?_ _ | with_reducible refine gr_drew ?_ | with_reducible refine gr_drewN ?_ _ | with_reducible refine gr_trans ?_ (by assumption) | with_reducible refine gr_set ?_ ?_ _ | (simp; done) | omega | (simp; omega)))⟩
                  rcases Nat.lt_or_eq_of_le (Nat.le_of_lt_succ hj) with h | h
                  · exact HSm.out rfl j h
                  · subst h; rw [← HY.out]; exact ⟨h1, h2⟩
                case measure => simp [intOf]; omega
        · have e4 : k = 4 := by omega
          subst e4
          cases sm
          · go_wp2_with fail
            go_meet
            exact ⟨by (repeat' (first | with_reducible exact Below.refl _ _ | with_reducible assumption | with_reducible refine gr_alloc ?_ _ | with_reducible refine gr_drew ?_ | with_reducible refine gr_drewN ?_ _ | with_reducible refine gr_trans ?_ (by assumption) | with_reducible refine gr_set ?_ ?_ _ | (simp; done) | omega | (simp; omega))), S2.out.next (by (repeat' (first | with_reducible exact Below.refl _ _ | with_reducible assumption | with_reducible refine gr_alloc ?_ _ | with_reducible refine gr_drew ?_ | with_reducible refine gr_drewN ?_ _ | with_reducible refine gr_trans ?_ (by assumption) | with_reducible refine gr_set ?_ ?_ _ | (simp; done) | omega | (simp; omega)))), Y2.out.next (by (repeat' (first | with_reducible exact Below.refl _ _ | with_reducible assumption | with_reducible refine gr_alloc ?_ _ | with_reducible refine gr_drew ?_ | with_reducible refine gr_drewN ?_ _ | with_reducible refine gr_trans ?_ (by assumption) | with_reducible refine gr_set ?_ ?_ _ | (simp; done) | omega | (simp; omega))))⟩
          · have hsm := HSm.out rfl
            have b1 := hsm 1 (by omega); have b2 := hsm 2 (by omega); have b3 := hsm 3 (by omega)
            have e1 : q4 1 l1 l2 l3 1 = l1 := rfl
            have e2 : q4 1 l1 l2 l3 2 = l2 := rfl
            have e3 : q4 1 l1 l2 l3 3 = l3 := rfl
            rw [e1] at b1; rw [e2] at b2; rw [e3] at b3
            have hF : isF 1 l1 l2 l3 = true := isF_mk (by omega) b1 b2 b3
            have hdo := fun W => iDisc_any 1 l1 l2 l3 W
            have e5 : dsc0 1 l1 l2 l3 = n3 := by unfold dsc0; rw [if_pos hF]; exact HD.out
            have e6 : cif 1 l1 l2 l3 = 0 := by unfold cif; rw [if_pos hF]
            rw [e5, e6] at hdo
            have HDo := hid hdo
            have c0 := (hBw.cell (p := ⟨bo, 0, none⟩) ho3).trans (HCell.out 0 (by omega))
            have c1 := (hBw.cell (p := ⟨bo, 1, none⟩) ho3).trans (HCell.out 1 (by omega))
            have c2 := (hBw.cell (p := ⟨bo, 2, none⟩) ho3).trans (HCell.out 2 (by omega))
            have c3 := (hBw.cell (p := ⟨bo, 3, none⟩) ho3).trans (HCell.out 3 (by omega))
            have e0 : q4 1 l1 l2 l3 0 = 1 := rfl
            rw [e0] at c0; rw [e1] at c1; rw [e2] at c2; rw [e3] at c3
            have hbo : bo < wr.heap.size := Nat.lt_of_lt_of_le ho3 hBw.size
            clear hsm b1 b2 b3 e1 e2 e3 e5 e6 hF hdo HD HSm HCell e0
            go_upto_region 48 with fail
            go_region_held3 (fun W => W.cell? ⟨bo, 0, none⟩ = some (.int .i64 1) ∧ W.cell? ⟨bo, 1, none⟩ = some (.int .i64 l1) ∧ W.cell? ⟨bo, 2, none⟩ = some (.int .i64 l2) ∧ W.cell? ⟨bo, 3, none⟩ = some (.int .i64 l3)) (refine ⟨?_, ?_, ?_, ?_⟩ <;> first | assumption | (refine (Below.cell (by assumption) ?_).trans (by assumption); first | omega | (simp; omega))) ((go_at_call 25; refine (HDo.out _).mono ?_; rintro e' w3 ⟨rfl, hb3⟩))
            go_wp2_with fail
            go_meet
            exact ⟨by (repeat' (first | with_reducible exact Below.refl _ _ | with_reducible assumption | with_reducible refine gr_alloc ?_ _ | with_reducible refine gr_drew ?_ | with_reducible refine gr_drewN ?_ _ | with_reducible refine gr_trans ?_ (by assumption) | with_reducible refine gr_set ?_ ?_ _ | (simp; done) | omega | (simp; omega))), S2.out.next (by (repeat' (first | with_reducible exact Below.refl _ _ | with_reducible assumption | with_reducible refine gr_alloc ?_ _ | with_reducible refine gr_drew ?_ | with_reducible refine gr_drewN ?_ _ | with_reducible refine gr_trans ?_ (by assumption) | with_reducible refine gr_set ?_ ?_ _ | (simp; done) | omega | (simp; omega)))), Y2.out.next (by (repeat' (first | with_reducible exact Below.refl _ _ | with_reducible assumption | with_reducible refine gr_alloc ?_ _ | with_reducible refine gr_drew ?_ | with_reducible refine gr_drewN ?_ _ | with_reducible refine gr_trans ?_ (by assumption) | with_reducible refine gr_set ?_ ?_ _ | (simp; done) | omega | (simp; omega))))⟩
    · have hkt : (K3 == 0) = false := by simpa using hk
      go_wp2_with fail
      go_meet
      exact ⟨hcut, hS0, hY0⟩
  case rest =>
    obtain ⟨U, S, Y⟩ := hcut
    go_step
    exact tseg210_any w a0 len0 cap0 z0 HR hlen pv hg _ U jf jx a b c d u v x n1 K1 (hid S) hV jg jy ji p q r s y0 y1 y2 i0 i1 i2 K2 (hid Y) hI _ _ _ _ _ _ _ _ _ _ _ _ _ _ _ _ _ _ _ _ _ _ _ _ _ _ _ _ _ _ _ _ _ _ _ _ _ _ _ _ _ _ _ _ _ _ _ _ _ _ _ _ _ _ _ _ _ _ _ _ _ _ _ _ _ _ _ _ _ _ _ _ _ _ _ _ _ _ _ _ _ _ _ _ _ _ _ _ _ _ _ _ _ _ _ _ _ _ _ _ _ _ _ _ _ _ _ _ _ _ _ _ _ _ _ _ _ _ _ _ _ _ _ _ _ _ _ _ _ _ _ _ _ _ _ _ _ _ _ _ _ _ _ _ _ _ _ _ _ _ _ _ _ _ _ _ _ _ _ _ _ _ _ _ _ _ _ _ _ _ _ _ _ _ _ _ _ _ _ _ _ _ _ _ _ _ _ _ _ _ _ _ _ _ _ _ _ _ _ _ _ _ _ _ _ _ _ _ _ _ _ _ _ _ _ _ _ _ _ _ _ _ _ _ _ _ _ _ _ _ _ _ _ _ _ _ _ _ _ _ _ _ _ _ _ _ _ _ _ _ _ _ _ _ _ _ _ _ _ _ _ _ _ _ _ _ _ _ _ _ _ _ _ _ _ _ _ _ _ _ _ _ _ _ _ _ _ _ _ _ _ _ _ _ _ _ 

end Go.Proofs.YtdogkkmdccieiaaDoor
