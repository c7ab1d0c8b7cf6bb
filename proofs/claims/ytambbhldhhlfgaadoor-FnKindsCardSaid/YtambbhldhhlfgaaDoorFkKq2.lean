/- FnKinds, cut: kinds up to a limit, primes. -/
import Derived.Test.YtambbhldhhlfgaaDoorFkKq1
import Derived.Test.YtambbhldhhlfgaaDoorFkRx
namespace Go.Proofs.YtambbhldhhlfgaaDoor
open Go.ChangeShapes Go.WideShapes Go.ChangeAt Go.RowKit

theorem OwnV.form {B : Nat} {w : World} {v : Value} {n : Nat} {g : Nat → Int} (h : OwnV B w v n g) : ∃ a cap, v = .slice a n cap := by
  rcases h with ⟨rfl, rfl⟩ | ⟨k, cap, rfl, _⟩
  · exact ⟨_, _, rfl⟩
  · exact ⟨_, _, rfl⟩

set_option maxRecDepth 1000000 in
set_option maxHeartbeats 8000000 in
theorem kseg75_any (w : World) (a0 : Option Addr) (len0 cap0 : Nat) (z0 : List Int) (HR : Hid (IsRow .u8 w a0 len0 cap0 z0)) (hlen : len0 ≤ 9223372036854775807) (pv : Value) (wc : World) (hcut : Below w.heap.size w wc) (hG : Sen wc pv) (u1 u2 u3 u4 u5 u6 u7 u8 u9 u10 u11 u12 u13 u14 u15 u16 u17 u18 u19 u20 u21 u22 u23 u24 u25 u26 u27 u28 u29 u30 u31 u32 u33 u34 u35 u36 u37 u38 u39 u40 u41 u42 u43 u44 u45 u46 u47 u48 u49 u50 u51 u52 u53 u54 u55 u56 u57 u58 u59 u60 u61 u62 u63 u64 u65 u66 u67 u68 u69 u70 u71 u72 u73 u74 u75 u76 u77 u78 u79 u80 u81 u82 u83 u84 u85 u86 u87 u88 u89 u90 u91 u92 u93 u94 u95 u96 u97 u98 u99 u100 u101 u102 u103 u104 u105 u106 u107 u108 u109 u110 u111 u112 u113 u114 u115 u116 u117 u118 u119 u120 u121 u122 u123 u124 u125 u126 u127 u128 u129 u130 u131 u132 u133 u134 u135 u136 u137 u138 u139 u140 u141 u142 u143 u144 u145 u146 u147 u148 u149 u150 u151 u152 u153 u154 u155 u156 u157 u158 u159 u160 u161 u162 u163 u164 u165 u166 u167 u168 u169 u170 u171 u172 u173 u174 u175 u176 u177 u178 u179 u180 u181 u182 u183 u184 u185 u186 u187 u188 u189 u190 u191 u192 u193 u194 u195 u196 u197 u198 u199 u200 u201 u202 u203 u204 u205 u206 u207 u208 u209 u210 u211 u212 u213 u214 u215 u216 u217 u218 u219 u220 u221 u222 u223 u224 u225 u226 u227 u228 u229 u230 u231 u232 u233 u234 u235 u236 u237 u238 u239 u240 u241 u242 u243 u244 u245 u246 u247 u248 u249 u250 u251 u252 u253 u254 u255 u256 u257 u258 u259 u260 u261 u262 u263 u264 u265 u266 u267 u268 u269 u270 u271 u272 u273 u274 u275 u276 u277 u278 u279 u280 u281 u282 u283 u284 u285 u286 u287 u288 u289 u290 u291 u292 u293 u294 u295 u296 u297 u298 u299 u300 u301 u302 u303 u304 u305 u306 u307 u308 u309 u310 u311 u312 u313 u314 u315 u316 u317 u318 u319 u320 u321 u322 u323 u324 u325 u326 u327 u328 u329 u330 : Value) :
    Code.wp Tryd.prog (kseg 75) (bodyPost Tryd.prog Tryd.f6 fun e w' => e = .returned (.bool true) ∧ Below w.heap.size w w') ⟨#[.slice a0 len0 cap0, u1, u2, u3, u4, u5, u6, u7, u8, u9, u10, u11, u12, u13, u14, u15, u16, u17, u18, u19, u20, u21, u22, u23, u24, u25, u26, u27, u28, u29, u30, u31, u32, u33, u34, u35, u36, u37, u38, u39, u40, u41, u42, u43, u44, u45, u46, u47, u48, u49, u50, u51, u52, u53, u54, u55, u56, u57, u58, u59, u60, u61, u62, u63, u64, u65, u66, u67, u68, u69, u70, u71, u72, u73, u74, u75, u76, u77, u78, u79, u80, u81, u82, u83, u84, u85, u86, u87, u88, u89, u90, u91, u92, u93, u94, u95, u96, u97, u98, u99, u100, u101, u102, u103, u104, u105, u106, u107, u108, u109, u110, u111, u112, u113, u114, u115, u116, u117, u118, u119, u120, u121, u122, u123, u124, u125, u126, u127, u128, u129, u130, u131, u132, u133, u134, u135, u136, u137, u138, u139, u140, u141, u142, u143, u144, u145, u146, u147, u148, u149, u150, u151, u152, u153, u154, u155, u156, u157, u158, u159, u160, u161, u162, u163, u164, u165, u166, u167, u168, u169, u170, u171, u172, u173, u174, u175, u176, u177, u178, u179, u180, u181, u182, u183, u184, u185, u186, u187, u188, u189, u190, u191, u192, u193, u194, u195, u196, u197, u198, u199, u200, u201, u202, u203, u204, u205, u206, u207, u208, u209, u210, u211, u212, u213, u214, u215, u216, u217, u218, u219, u220, u221, u222, u223, u224, u225, u226, u227, u228, u229, u230, u231, u232, u233, u234, u235, u236, u237, u238, u239, u240, u241, u242, u243, u244, u245, u246, u247, u248, u249, u250, u251, u252, u253, u254, u255, u256, u257, u258, u259, u260, u261, u262, u263, u264, u265, u266, u267, u268, u269, u270, u271, u272, u273, u274, u275, u276, u277, u278, u279, u280, u281, u282, u283, u284, u285, u286, u287, u288, u289, u290, u291, u292, u293, u294, u295, u296, u297, u298, u299, u300, u301, u302, u303, u304, u305, u306, u307, u308, u309, u310, u311, u312, u313, u314, u315, u316, u317, u318, u319, u320, u321, u322, u323, u324, u325, u326, u327, u328, u329, u330], []⟩ wc := by
  have HR2 := hid (row8_next HR.out hcut)
  conv => arg 2; whnf
  go_wp2_with fail
  refine (drawKU_any a0 len0 cap0 z0 _ HR2.out hlen).mono ?_
  rintro e w1 ⟨p, q, r, s, m, rfl, V1⟩
  have M2 := Arr.new w1 p q r s 25
  have U2 := gr_alloc (gr_trans hcut V1) (.cells #[.int .i64 p, .int .i64 q, .int .i64 r, .int .i64 s] 25)
  have G2 := (hG.next V1).alloc (.cells #[.int .i64 p, .int .i64 q, .int .i64 r, .int .i64 s] 25)
  have h1 := fun W hg => iKindsUpTo_any p q r s m pv W hg
  have h2 := fun W => sKindsUpTo_any p q r s m W
  have h3 := fun W => iPrimesUpTo_any m W
  have h4 := fun W => sPrimesUpTo_any m W
  have q1 : kuc p q r s m = 0 → (if kuc p q r s m = 0 then (kul p q r s m).length else 0) = (if nco m = 0 then (prl (m.toNat + 1)).length else 0) := fun h => by rw [if_pos h, if_pos (kuc_0 h), kul_ln]
  unfold LstOut at h1 h2 h3 h4
  generalize (if kuc p q r s m = 0 then (kul p q r s m).length else 0) = n1 at h1 h2 q1
  generalize (if nco m = 0 then (prl (m.toNat + 1)).length else 0) = n2 at h3 h4 q1
  generalize kuc p q r s m = k1 at h1 h2 q1
  generalize nco m = k2 at h3 h4
  generalize (fun i => (kul p q r s m).getD i 0) = g1 at h1 h2
  generalize (fun i => (prl (m.toNat + 1)).getD i 0) = g2 at h3 h4
  have H1 := hid h1; have H2 := hid h2; have H3 := hid h3; have H4 := hid h4; have HQ := hid q1
  clear h1 h2 h3 h4 q1 hcut hG V1 HR2
  obtain ⟨_, m0, m1, m2, m3, _⟩ := id M2
  go_wp2_with fail
  refine (H1.out _ G2).mono ?_
  rintro e w3 ⟨va, rfl, hA, hb3⟩
  clear m0 m1 m2 m3
  have M3 := M2.next hb3
  have U3 := gr_trans U2 hb3
  have G3 := G2.next hb3
  have A3 := hid hA.rd
  obtain ⟨aa, ca, rfl⟩ := hA.form
  clear M2 U2 G2 hb3 H1 hA
  obtain ⟨_, m0, m1, m2, m3, _⟩ := id M3
  go_wp2_with fail
  refine (H2.out _).mono ?_
  rintro e w4 ⟨vb, rfl, hB, hb4⟩
  have U4 := gr_trans U3 hb4
  have G4 := G3.next hb4
  have A4 := hid (A3.out.next hb4)
  have B4 := hid hB.rd
  clear m0 m1 m2 m3 M3 U3 G3 A3 hb4 H2 hB
  go_wp2_with fail
  refine (H3.out _).mono ?_
  rintro e w5 ⟨vc, rfl, hC, hb5⟩
  have U5 := gr_trans U4 hb5
  have G5 := G4.next hb5
  have A5 := hid (A4.out.next hb5)
  have B5 := hid (B4.out.next hb5)
  have C5 := hid hC.rd
  obtain ⟨ac, cc, rfl⟩ := hC.form
  clear U4 G4 A4 B4 hb5 H3 hC
  go_wp2_with fail
  refine (H4.out _).mono ?_
  rintro e w6 ⟨vd, rfl, hD, hb6⟩
  have U6 := gr_trans U5 hb6
  have G6 := G5.next hb6
  have A6 := hid (A5.out.next hb6)
  have B6 := hid (B5.out.next hb6)
  have C6 := hid (C5.out.next hb6)
  have D6 := hid hD.rd
  clear U5 G5 A5 B5 C5 hb6 H4 hD
  go_upto_region 57 with fail
  go_cut [278] (fun s278 wx => s278 = .bool false ∧ Below w.heap.size w wx ∧ Sen wx pv)
  case first =>
    by_cases hk : k1 = 0
    · have hk2 := HQ.out hk
      subst hk
      subst hk2
      go_wp2_with fail
      refine (likeI_any _ _ _ _ _ A6.out B6.out).mono ?_
      rintro e w7 ⟨rfl, hb7⟩
      have U7 := gr_trans U6 hb7
      have G7 := G6.next hb7
      have C7 := hid (C6.out.next hb7)
      have D7 := hid (D6.out.next hb7)
      clear U6 G6 A6 B6 C6 D6 hb7
      go_wp2_with fail
      refine (likeI_any _ _ _ _ _ C7.out D7.out).mono ?_
      rintro e w8 ⟨rfl, hb8⟩
      have U8 := gr_trans U7 hb8
      have G8 := G7.next hb8
      clear U7 G7 C7 D7 hb8
      go_wp2_with fail
      go_meet
      exact ⟨rfl, U8, G8⟩
    · have hkf : (k1 == 0) = false := by simpa using hk
      clear hk
      go_wp2_with fail
      refine (likeI_any _ _ _ _ _ A6.out B6.out).mono ?_
      rintro e w7 ⟨rfl, hb7⟩
      have U7 := gr_trans U6 hb7
      have G7 := G6.next hb7
      have C7 := hid (C6.out.next hb7)
      have D7 := hid (D6.out.next hb7)
      clear U6 G6 A6 B6 C6 D6 hb7
      go_wp2_with fail
      refine (likeI_any _ _ _ _ _ C7.out D7.out).mono ?_
      rintro e w8 ⟨rfl, hb8⟩
      have U8 := gr_trans U7 hb8
      have G8 := G7.next hb8
      clear U7 G7 C7 D7 hb8
      go_wp2_with fail
      go_meet
      exact ⟨rfl, U8, G8⟩
  case rest =>
    obtain ⟨rfl, U8, G8⟩ := hcut
    go_upto_if 278 with (fail)
    go_cut [] (fun wx => Below w.heap.size w wx ∧ Sen wx pv)
    case first =>
      go_wp2_with fail
      go_meet
      exact ⟨U8, G8⟩
    case rest =>
      obtain ⟨h1, h2⟩ := hcut
      go_step
      exact kseg278_any w a0 len0 cap0 z0 HR hlen pv _ h1 h2 _ _ _ _ _ _ _ _ _ _ _ _ _ _ _ _ _ _ _ _ _ _ _ _ _ _ _ _ _ _ _ _ _ _ _ _ _ _ _ _ _ _ _ _ _ _ _ _ _ _ _ _ _ _ _ _ _ _ _ _ _ _ _ _ _ _ _ _ _ _ _ _ _ _ _ _ _ _ _ _ _ _ _ _ _ _ _ _ _ _ _ _ _ _ _ _ _ _ _ _ _ _ _ _ _ _ _ _ _ _ _ _ _ _ _ _ _ _ _ _ _ _ _ _ _ _ _ _ _ _ _ _ _ _ _ _ _ _ _ _ _ _ _ _ _ _ _ _ _ _ _ _ _ _ _ _ _ _ _ _ _ _ _ _ _ _ _ _ _ _ _ _ _ _ _ _ _ _ _ _ _ _ _ _ _ _ _ _ _ _ _ _ _ _ _ _ _ _ _ _ _ _ _ _ _ _ _ _ _ _ _ _ _ _ _ _ _ _ _ _ _ _ _ _ _ _ _ _ _ _ _ _ _ _ _ _ _ _ _ _ _ _ _ _ _ _ _ _ _ _ _ _ _ _ _ _ _ _ _ _ _ _ _ _ _ _ _ _ _ _ _ _ _ _ _ _ _ _ _ _ _ _ _ _ _ _ _ _ _ _ _ _ _ _ _ _ _ _ _ _ _ _ _ _ _ _ _ _ _ _ _ _ _ _ _ _ _ _ _ _ _ _ _ _ _ _ _ _ _ _

end Go.Proofs.YtambbhldhhlfgaaDoor
