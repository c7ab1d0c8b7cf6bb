/- FnQuadratics, cut: the unit changes nothing. -/
import Derived.Test.YtehbkmohfipmgaaQu2
import Derived.Deep.DeepCutAuto
import Derived.Deep.RegionHeld3
namespace Go.Proofs.Ytehbkmohfipmgaa
open Go.ChangeShapes Go.WideShapes Go.ChangeAt Go.RowKit

set_option maxRecDepth 1000000 in
set_option maxHeartbeats 8000000 in
theorem useg145_any (w : World) (a0 : Option Addr) (len0 cap0 : Nat) (wc : World) (hcut0 : Below w.heap.size w wc) (jq js jc ju : Nat) (a b c x y z p q r s0 s1 s2 : Int) (v19 : Value) (L : Nat) (G : Nat → Int) (k1 k2 k3 k4 k5 d o : Int) (df : Bool) (hE : Hid (QuB wc jq js jc ju a b c x y z p q r s0 s1 s2 v19 L G)) (hQ1 : Hid (QuQ1 a b c x y z p q r k1)) (hQ3 : Hid (df = decide (k2 = 0))) (hQ4 : Hid (QuQ4 L G k4)) (u1 u2 u7 u8 u10 u12 u13 u16 u17 u21 u22 u25 u26 u27 u28 u29 u30 u31 u32 u33 u34 u35 u36 u37 u38 u39 u40 u41 u42 u43 u44 u45 u46 u47 u48 u49 u50 u51 u52 u53 u54 u55 u56 u57 u58 u59 u60 u61 u62 u63 u64 u65 u66 u67 u68 u69 u70 u71 u72 u73 u74 u75 u76 u77 u78 u79 u80 u81 u82 u83 u84 u85 u86 u87 u88 u89 u90 u91 u92 u93 u94 u95 u96 u97 u98 u99 u100 u101 u102 u103 u104 u105 u106 u107 u108 u109 u110 u111 u112 u113 u114 u115 u116 u117 u118 u119 u120 u121 u122 u123 u124 u125 u126 u127 u128 u129 u130 u131 u132 u133 u134 u135 u136 u137 u138 u139 u140 u141 u142 u143 u144 u145 u146 u147 u148 u149 u150 u151 u152 u153 u154 u155 u156 u157 u158 u159 u160 u161 u162 u163 u164 u165 u166 u167 u168 u169 u170 u171 u172 u173 u174 u175 u176 u177 u178 u179 u180 u181 u182 u183 u184 u185 u186 u187 u188 u189 u190 u191 u192 u193 u194 u195 u196 u197 u198 u199 u200 u201 u202 u203 u204 u205 u206 u207 u208 u209 u210 u211 u212 u213 u214 u215 u216 u217 u218 u219 u220 u221 u222 u223 u224 u225 u226 u227 u228 u229 u230 u231 u232 u233 u234 u235 u236 u237 u238 u239 u240 u241 u242 u243 u244 u245 u246 u247 u248 u249 u250 u251 u252 u253 u254 : Value) :
    Code.wp Try.prog (useg 145) (bodyPost Try.prog Try.f3 fun e w' => e = .returned (.bool true) ∧ Below w.heap.size w w') ⟨#[.slice a0 len0 cap0, u1, u2, .pointer (some ⟨jq, 0, none⟩), .pointer (some ⟨js, 0, none⟩), .pointer (some ⟨jc, 0, none⟩), .int .i64 k1, u7, u8, .pointer (some ⟨ju, 0, none⟩), u10, .int .i64 k2, u12, u13, .bool df, .int .i64 k3, u16, u17, .int .i64 d, v19, .int .i64 k4, u21, u22, .int .i64 o, .int .i64 k5, u25, u26, u27, u28, u29, u30, u31, u32, u33, u34, u35, u36, u37, u38, u39, u40, u41, u42, u43, u44, u45, u46, u47, u48, u49, u50, u51, u52, u53, u54, u55, u56, u57, u58, u59, u60, u61, u62, u63, u64, u65, u66, u67, u68, u69, u70, u71, u72, u73, u74, u75, u76, u77, u78, u79, u80, u81, u82, u83, u84, u85, u86, u87, u88, u89, u90, u91, u92, u93, u94, u95, u96, u97, u98, u99, u100, u101, u102, u103, u104, u105, u106, u107, u108, u109, u110, u111, u112, u113, u114, u115, u116, u117, u118, u119, u120, u121, u122, u123, u124, u125, u126, u127, u128, u129, u130, u131, u132, u133, u134, u135, u136, u137, u138, u139, u140, u141, u142, u143, u144, u145, u146, u147, u148, u149, u150, u151, u152, u153, u154, u155, u156, u157, u158, u159, u160, u161, u162, u163, u164, u165, u166, u167, u168, u169, u170, u171, u172, u173, u174, u175, u176, u177, u178, u179, u180, u181, u182, u183, u184, u185, u186, u187, u188, u189, u190, u191, u192, u193, u194, u195, u196, u197, u198, u199, u200, u201, u202, u203, u204, u205, u206, u207, u208, u209, u210, u211, u212, u213, u214, u215, u216, u217, u218, u219, u220, u221, u222, u223, u224, u225, u226, u227, u228, u229, u230, u231, u232, u233, u234, u235, u236, u237, u238, u239, u240, u241, u242, u243, u244, u245, u246, u247, u248, u249, u250, u251, u252, u253, u254], []⟩ wc := by
  conv => arg 2; whnf
  have heq := eqQ_run
  go_upto_if 174 with (fail)
  go_cut [] (fun wx => Hid (Below wc.heap.size wc wx))
  case first =>
    by_cases hk : k4 = 0
    · obtain ⟨l, hl, hl9, h1, hcc⟩ := hQ4.out hk
      have hkb : (k4 == 0) = true := by simpa using hk
      have hL : 0 < L := by omega
      obtain ⟨bl, cpl, hvl, hc1, hc2, hat⟩ := rdU_at hE.out.V hL
      subst hvl
      unfold maxLen at hc2
      have Y0 := hat 0 hL
      have Z0 := hat l (by omega)
      generalize G (l * 3) = e0 at Z0 hcc
      generalize G (l * 3 + 1) = e1 at Z0 hcc
      generalize G (l * 3 + 2) = e2 at Z0 hcc
      simp only [Nat.zero_mul, Nat.zero_add] at Y0 h1 hcc
      generalize G 0 = g0 at Y0 h1 hcc
      generalize G 1 = g1 at Y0 hcc
      generalize G 2 = g2 at Y0 hcc
      subst h1
      have HC := hid hcc
      unfold CqC at HC
      have hLe : ((L : Int) == 0) = false := by have : (L : Int) ≠ 0 := (by omega); simpa using this
      have hl1 : (L : Int) - 1 = (l : Int) := by omega
      have hl0 : (0 : Int) ≤ (l : Int) := by omega
      have hlL : (l : Int) < (L : Int) := by omega
      obtain ⟨_, z0, z1, z2⟩ := id Z0
      have X2 := Arr3.new wc e0 e1 e2 25
      have B2 := gr_alloc (Below.refl wc.heap.size wc) (.cells #[.int .i64 e0, .int .i64 e1, .int .i64 e2] 25)
      have Y2 := Y0.alloc (.cells #[.int .i64 e0, .int .i64 e1, .int .i64 e2] 25)
      have hY0 := Y0.lt
      clear hE hQ1 hQ3 hQ4 hcut0 hcc hat hk hl
      go_upto_region 35 with fail
      obtain ⟨j, hj⟩ : ∃ j, j = wc.heap.size := ⟨_, rfl⟩
      rw [← hj] at X2 hY0
      rw [← hj]
      generalize wc.alloc (.cells #[.int .i64 e0, .int .i64 e1, .int .i64 e2] 25) = W2 at X2 B2 Y2 ⊢
      clear hj
      have hX2 := X2.lt; have hY2 := Y2.lt; have hBs := B2.size
      clear z0 z1 z2 Z0 Y0
      (try rw [hkb])
      (try rw [hLe])
      (try rw [hl1])
      obtain ⟨_, z0, z1, z2, _⟩ := id X2
      obtain ⟨_, y0, y1, y2⟩ := id Y2
      simp only [Nat.zero_add] at y1 y2
      go_cut [32, 33] (fun s32 s33 wx => ∃ jn, s32 = .pointer (some ⟨jn, 0, none⟩) ∧ s33 = .int .i64 0 ∧ Arr3 wx jn e0 e1 e2 ∧ Arr3 wx j e0 e1 e2 ∧ At3 wx bl 0 1 g1 g2 ∧ Below wc.heap.size wc wx)
      case first =>
        have X1 := X2.drew; have Y1 := Y2.drew; have B1 := gr_drew B2
        go_region_held3 (fun W => W.cell? ⟨j, 0, none⟩ = some (.int .i64 e0) ∧ W.cell? ⟨j, 1, none⟩ = some (.int .i64 e1) ∧ W.cell? ⟨j, 2, none⟩ = some (.int .i64 e2) ∧ W.cell? ⟨bl, 0, none⟩ = some (.int .i64 1) ∧ W.cell? ⟨bl, 1, none⟩ = some (.int .i64 g1) ∧ W.cell? ⟨bl, 2, none⟩ = some (.int .i64 g2)) ((refine cells6u ?_ ?_; (focus (repeat (first | with_reducible assumption | with_reducible refine Arr3.drew ?_ | with_reducible refine Arr3.alloc ?_ _ | with_reducible refine Arr3.next ?_ (by assumption) | (with_reducible refine Arr3.oth3 ?_ ?_; rotate_left 1; (focus omega))))); (focus (repeat (first | with_reducible assumption | with_reducible refine At3.drew ?_ | with_reducible refine At3.alloc ?_ _ | (with_reducible refine At3.oth3E ?_ ?_ _ _ _; rotate_left 1; (focus omega)) | (with_reducible refine At3.next ?_ (by assumption) ?_; rotate_left 1; (focus omega))))))) ((go_at_call 7; refine (HC.out _).mono ?_; rintro e w6 ⟨rfl, hb6⟩; have hz6 := hb6.size; (try simp at hz6); have hbx : Below W2.heap.size W2 w6 := (by (repeat' (first | with_reducible exact Below.refl _ _ | with_reducible assumption | with_reducible refine gr_alloc ?_ _ | with_reducible refine gr_drew ?_ | with_reducible refine gr_drewN ?_ _ | with_reducible refine gr_trans ?_ (by assumption) | with_reducible refine gr_set ?_ ?_ _ | (simp; done) | omega | (simp; omega)))); have X6 := X2.next hbx; have Y6 := Y2.next hbx hY2; have B6 := gr_trans B2 hbx; (try (refine Arr3.elimu (w := w6) (k := W2.heap.size) ?_ ?_; (focus ((repeat (first | with_reducible assumption | with_reducible exact Arr3.new _ _ _ _ _ | with_reducible refine Arr3.drew ?_ | with_reducible refine Arr3.alloc ?_ _ | with_reducible refine Arr3.next ?_ hb6)); done)); intro zk1; obtain ⟨_, za1, zb1, zc1, ze1, zf1, zg1⟩ := id zk1))))
        all_goals (go_wp2_with fail; go_meet; refine ⟨_, rfl, rfl, ?_, ?_, ?_, ?_⟩; (focus (first | with_reducible exact Arr3.new _ _ _ _ _ | exact Arr3.set3d (by assumption))); (focus (repeat (first | with_reducible assumption | with_reducible refine Arr3.alloc ?_ _ | (with_reducible refine Arr3.oth3 ?_ ?_; rotate_left 1; (focus omega))))); (focus (repeat (first | with_reducible assumption | with_reducible refine At3.alloc ?_ _ | (with_reducible refine At3.oth3E ?_ ?_ _ _ _; rotate_left 1; (focus omega))))); (focus (repeat' (first | with_reducible exact Below.refl _ _ | with_reducible assumption | with_reducible refine gr_alloc ?_ _ | with_reducible refine gr_drew ?_ | with_reducible refine gr_drewN ?_ _ | with_reducible refine gr_trans ?_ (by assumption) | with_reducible refine gr_set ?_ ?_ _ | (simp; done) | omega | (simp; omega)))))
      case rest =>
        obtain ⟨jn, rfl, rfl, N7, T7, Y7, B7⟩ := hcut
        clear X2 B2 Y2 z0 z1 z2 y0 y1 y2 hX2 hY2 hBs HC
        obtain ⟨_, c0, c1, c2, _⟩ := id N7
        obtain ⟨_, t0, t1, t2, _⟩ := id T7
        obtain ⟨_, y0, y1, y2⟩ := id Y7
        have hee := eqQ_3 e0 e1 e2
        go_wp2_with fail
        go_meet
        exact hid B7
    · have hkb : (k4 == 0) = false := by simpa using hk
      clear hk hQ1 hQ3 hQ4 hE
      go_wp2_with fail
      go_meet
      exact hid (Below.refl _ _)
  case rest =>
    have B2 := hcut.out
    go_step
    exact useg174_any w a0 len0 cap0 _ (gr_trans hcut0 B2) jq js jc ju a b c x y z p q r s0 s1 s2 v19 L G k1 k2 k3 k4 k5 d o df (hid (hE.out.next B2)) hQ1 hQ3 _ _ _ _ _ _ _ _ _ _ _ _ _ _ _ _ _ _ _ _ _ _ _ _ _ _ _ _ _ _ _ _ _ _ _ _ _ _ _ _ _ _ _ _ _ _ _ _ _ _ _ _ _ _ _ _ _ _ _ _ _ _ _ _ _ _ _ _ _ _ _ _ _ _ _ _ _ _ _ _ _ _ _ _ _ _ _ _ _ _ _ _ _ _ _ _ _ _ _ _ _ _ _ _ _ _ _ _ _ _ _ _ _ _ _ _ _ _ _ _ _ _ _ _ _ _ _ _ _ _ _ _ _ _ _ _ _ _ _ _ _ _ _ _ _ _ _ _ _ _ _ _ _ _ _ _ _ _ _ _ _ _ _ _ _ _ _ _ _ _ _ _ _ _ _ _ _ _ _ _ _ _ _ _ _ _ _ _ _ _ _ _ _ _ _ _ _ _ _ _ _ _ _ _ _ _ _ _ _ _ _ _ _ _ _ _ _ _ _ _ _ _ _ _ _ _ _ _ _ _ _ _ _ _ _ _ _ _ _ _ _

end Go.Proofs.Ytehbkmohfipmgaa
