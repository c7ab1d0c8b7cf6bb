/- FnRaised, cut: the third form: divided, points, maximal, below. -/
import Derived.Test.YtambbhldhhlfgaaDoorRs5
namespace Go.Proofs.YtambbhldhhlfgaaDoor
open Go.ChangeShapes Go.WideShapes Go.ChangeAt Go.RowKit

theorem rdx_sl {w : World} {v : Value} {n : Nat} {g : Nat → Int} (h : RdX w v n g) : ∃ a c, v = .slice a n c := by
  rcases h with ⟨rfl, rfl⟩ | ⟨b, cap, rfl, _⟩
  · exact ⟨_, _, rfl⟩
  · exact ⟨_, _, rfl⟩
theorem RdX.next {w w' : World} {v : Value} {n : Nat} {g : Nat → Int} (h : RdX w v n g) (hb : Below w.heap.size w w') : RdX w' v n g := by
  rcases h with h | ⟨b, cap, h1, h2, h3, h4, h5⟩
  · exact .inl h
  · exact .inr ⟨b, cap, h1, h2, h3, Nat.lt_of_lt_of_le h4 hb.size, fun i hi => (hb.cell (p := ⟨b, i, none⟩) h4).trans (h5 i hi)⟩

set_option maxRecDepth 1000000 in
set_option maxHeartbeats 8000000 in
theorem rseg105_any (w : World) (a0 : Option Addr) (len0 cap0 : Nat) (z0 : List Int) (HR : Hid (IsRow .u8 w a0 len0 cap0 z0)) (hlen : len0 ≤ 9223372036854775807) (pv : Value) (HG : Hid (Sen w pv)) (wc : World) (hcut : Below w.heap.size w wc) (jf jr : Nat) (a b c d p r K P0 P1 P2 P3 : Int) (hF : Hid (RaB wc jf jr a b c d P0 P1 P2 P3)) (qF : Hid (RaQ a b c d p r K P0 P1 P2 P3)) (jg jl : Nat) (a2 b2 c2 d2 q r2 K2 L0 L1 L2 L3 : Int) (hL : Hid (RaB wc jg jl a2 b2 c2 d2 L0 L1 L2 L3)) (qL : Hid (LoQ a2 b2 c2 d2 q r2 K2 L0 L1 L2 L3)) (u1 u2 u5 u8 u9 u12 u15 u16 u17 u18 u19 u20 u21 u22 u23 u24 u25 u26 u27 u28 u29 u30 u31 u32 u33 u34 u35 u36 u37 u38 u39 u40 u41 u42 u43 u44 u45 u46 u47 u48 u49 u50 u51 u52 u53 u54 u55 u56 u57 u58 u59 u60 u61 u62 u63 u64 u65 u66 u67 u68 u69 u70 u71 u72 u73 u74 u75 u76 u77 u78 u79 u80 u81 u82 u83 u84 u85 u86 u87 u88 u89 u90 u91 u92 u93 u94 u95 u96 u97 u98 u99 u100 u101 u102 u103 u104 u105 u106 u107 u108 u109 u110 u111 u112 u113 u114 u115 u116 u117 u118 u119 u120 u121 u122 u123 u124 u125 u126 u127 u128 u129 u130 u131 u132 u133 u134 u135 u136 u137 u138 u139 u140 u141 u142 u143 u144 u145 u146 u147 u148 u149 u150 u151 u152 u153 u154 u155 u156 u157 u158 u159 u160 u161 u162 u163 u164 u165 u166 u167 u168 u169 u170 u171 u172 u173 u174 u175 u176 u177 u178 u179 u180 u181 u182 u183 u184 u185 u186 u187 u188 u189 u190 u191 u192 u193 u194 u195 u196 u197 u198 u199 u200 u201 u202 u203 u204 u205 u206 u207 u208 u209 u210 u211 u212 u213 u214 u215 u216 u217 u218 u219 u220 u221 u222 u223 u224 u225 u226 u227 u228 u229 u230 u231 u232 u233 u234 u235 u236 u237 u238 u239 u240 u241 u242 u243 u244 u245 u246 u247 u248 u249 u250 u251 u252 u253 u254 u255 u256 u257 u258 u259 u260 u261 u262 u263 u264 u265 u266 u267 u268 u269 u270 u271 u272 u273 u274 u275 u276 u277 u278 u279 u280 u281 u282 u283 u284 u285 u286 u287 u288 u289 u290 u291 u292 u293 u294 u295 u296 u297 u298 u299 u300 u301 u302 u303 u304 u305 u306 u307 u308 u309 : Value) :
    Code.wp Tryd.prog (rseg 105) (bodyPost Tryd.prog Tryd.f3 fun e w' => e = .returned (.bool true) ∧ Below w.heap.size w w') ⟨#[.slice a0 len0 cap0, u1, u2, .pointer (some ⟨jf, 0, none⟩), .int .i64 p, u5, .pointer (some ⟨jr, 0, none⟩), .int .i64 K, u8, u9, .pointer (some ⟨jg, 0, none⟩), .int .i64 q, u12, .pointer (some ⟨jl, 0, none⟩), .int .i64 K2, u15, u16, u17, u18, u19, u20, u21, u22, u23, u24, u25, u26, u27, u28, u29, u30, u31, u32, u33, u34, u35, u36, u37, u38, u39, u40, u41, u42, u43, u44, u45, u46, u47, u48, u49, u50, u51, u52, u53, u54, u55, u56, u57, u58, u59, u60, u61, u62, u63, u64, u65, u66, u67, u68, u69, u70, u71, u72, u73, u74, u75, u76, u77, u78, u79, u80, u81, u82, u83, u84, u85, u86, u87, u88, u89, u90, u91, u92, u93, u94, u95, u96, u97, u98, u99, u100, u101, u102, u103, u104, u105, u106, u107, u108, u109, u110, u111, u112, u113, u114, u115, u116, u117, u118, u119, u120, u121, u122, u123, u124, u125, u126, u127, u128, u129, u130, u131, u132, u133, u134, u135, u136, u137, u138, u139, u140, u141, u142, u143, u144, u145, u146, u147, u148, u149, u150, u151, u152, u153, u154, u155, u156, u157, u158, u159, u160, u161, u162, u163, u164, u165, u166, u167, u168, u169, u170, u171, u172, u173, u174, u175, u176, u177, u178, u179, u180, u181, u182, u183, u184, u185, u186, u187, u188, u189, u190, u191, u192, u193, u194, u195, u196, u197, u198, u199, u200, u201, u202, u203, u204, u205, u206, u207, u208, u209, u210, u211, u212, u213, u214, u215, u216, u217, u218, u219, u220, u221, u222, u223, u224, u225, u226, u227, u228, u229, u230, u231, u232, u233, u234, u235, u236, u237, u238, u239, u240, u241, u242, u243, u244, u245, u246, u247, u248, u249, u250, u251, u252, u253, u254, u255, u256, u257, u258, u259, u260, u261, u262, u263, u264, u265, u266, u267, u268, u269, u270, u271, u272, u273, u274, u275, u276, u277, u278, u279, u280, u281, u282, u283, u284, u285, u286, u287, u288, u289, u290, u291, u292, u293, u294, u295, u296, u297, u298, u299, u300, u301, u302, u303, u304, u305, u306, u307, u308, u309], []⟩ wc := by
  conv => arg 2; whnf
  have heq := eqForm_run
  have HR2 := hid (row8_next HR.out hcut)
  have SF0 := hF; have SL0 := hL
  clear hF hL
  go_wp2_with fail
  refine (drawDv_any a0 len0 cap0 z0 _ HR2.out hlen).mono ?_
  rintro e w1 ⟨a3, b3, c3, d3, m, rfl, V1⟩
  obtain ⟨K3, hK3⟩ : ∃ k, k = dfc a3 b3 c3 d3 m := ⟨_, rfl⟩
  obtain ⟨D0, hD0⟩ : ∃ k, k = if0 K3 (a3.tdiv m) := ⟨_, rfl⟩
  obtain ⟨D1, hD1⟩ : ∃ k, k = if0 K3 (b3.tdiv m) := ⟨_, rfl⟩
  obtain ⟨D2, hD2⟩ : ∃ k, k = if0 K3 (c3.tdiv m) := ⟨_, rfl⟩
  obtain ⟨D3, hD3⟩ : ∃ k, k = if0 K3 (d3.tdiv m) := ⟨_, rfl⟩
  have QD : Hid (DvQ a3 b3 c3 d3 m K3 D0 D1 D2 D3) := hid ⟨hK3, hD0, hD1, hD2, hD3⟩
  have h3 := fun W => iPoints_any a3 b3 c3 d3 m W
  have h4 := fun W => sPoints_any a3 b3 c3 d3 m W
  have h5 := fun W => iMaximalAt_any a3 b3 c3 d3 m W
  have h6 := fun W => sMaximalAt_any a3 b3 c3 d3 m W
  have h7 := fun W => iBelow_any a3 b3 c3 d3 m W
  have h8 := fun W => sBelow_any a3 b3 c3 d3 m W
  unfold LstOut at h3 h4
  unfold FlsOut at h7 h8
  obtain ⟨G, hG⟩ : ∃ k, k = fpc a3 b3 c3 d3 m := ⟨_, rfl⟩
  rw [← hG] at h3 h4 h5 h6
  obtain ⟨pn, hpn⟩ : ∃ k : Nat, k = (if G = 0 then (prp a3 b3 c3 d3 m).length else 0) := ⟨_, rfl⟩
  rw [← hpn] at h3 h4
  obtain ⟨mb, hmb⟩ : ∃ k, k = mxA a3 b3 c3 d3 m := ⟨_, rfl⟩
  rw [← hmb] at h5 h6
  obtain ⟨B, hB⟩ : ∃ k, k = fbc a3 b3 c3 d3 m := ⟨_, rfl⟩
  rw [← hB] at h7 h8
  obtain ⟨bn, hbn⟩ : ∃ k : Nat, k = (if B = 0 then (fbl a3 b3 c3 d3 m).length else 0) := ⟨_, rfl⟩
  rw [← hbn] at h7 h8
  have HM : Hid (G = 0 → mb = (decide ((pn : Int) = 0) && !decide (K3 = 0))) := hid (fun h => by
    rw [hmb, hpn, if_pos h, hK3]; exact mx_law (hG.symm.trans h))
  have HB : Hid (B = 0 → (bn : Int) = crv a3 b3 c3 d3 m ∧ fpc a3 b3 c3 d3 m = 0) := hid (fun h => by
    have h0 := fbc_0 (hB.symm.trans h)
    obtain ⟨hf, hp⟩ := fpc_0.1 h0
    rw [hbn, if_pos h]; exact ⟨fbl_crv hf hp, h0⟩)
  generalize (fun i => (prp a3 b3 c3 d3 m).getD i 0) = gp at h3 h4
  generalize (fun i => ((fbl a3 b3 c3 d3 m).flatMap fi4).getD i 0) = gb at h7 h8
  have H3 := hid h3; have H4 := hid h4; have H5 := hid h5; have H6 := hid h6; have H7 := hid h7; have H8 := hid h8
  clear h3 h4 h5 h6 h7 h8 hK3 hD0 hD1 hD2 hD3 hG hpn hmb hB hbn
  have F2 := Arr.new w1 a3 b3 c3 d3 25
  have ha1 := gr_alloc (Below.refl w1.heap.size w1) (.cells #[.int .i64 a3, .int .i64 b3, .int .i64 c3, .int .i64 d3] 25)
  have SF2 := hid ((SF0.out.next V1).next ha1)
  have SL2 := hid ((SL0.out.next V1).next ha1)
  have U2 := gr_trans (gr_trans hcut V1) ha1
  clear SF0 SL0 V1 ha1 hcut HR2
  go_upto_region 14 with fail
  obtain ⟨jh, hjh⟩ : ∃ j, j = w1.heap.size := ⟨_, rfl⟩
  rw [← hjh] at F2
  rw [← hjh]
  generalize w1.alloc (.cells #[.int .i64 a3, .int .i64 b3, .int .i64 c3, .int .i64 d3] 25) = W2 at F2 SF2 SL2 U2 ⊢
  clear hjh
  obtain ⟨_, f0, f1, f2, f3, _⟩ := id F2
  go_wp2_with fail
  refine (QD.out.i _).mono ?_
  rintro e w3 ⟨rfl, hb3⟩
  have ha3 := gr_alloc (Below.refl w3.heap.size w3) (.cells #[.int .i64 D0, .int .i64 D1, .int .i64 D2, .int .i64 D3] 25)
  have R4 := Arr.new w3 D0 D1 D2 D3 25
  have F4 := (F2.next hb3).next ha3
  have SF4 := hid ((SF2.out.next hb3).next ha3)
  have SL4 := hid ((SL2.out.next hb3).next ha3)
  have U4 := gr_trans (gr_trans U2 hb3) ha3
  clear F2 SF2 SL2 U2 hb3 ha3 f0 f1 f2 f3
  go_upto_region 15 with fail
  obtain ⟨jd, hjd⟩ : ∃ j, j = w3.heap.size := ⟨_, rfl⟩
  rw [← hjd] at R4
  rw [← hjd]
  generalize w3.alloc (.cells #[.int .i64 D0, .int .i64 D1, .int .i64 D2, .int .i64 D3] 25) = W4 at R4 F4 SF4 SL4 U4 ⊢
  clear hjd
  obtain ⟨_, f0, f1, f2, f3, _⟩ := id F4
  go_wp2_with fail
  refine (QD.out.s _).mono ?_
  rintro e w5 ⟨rfl, hb5⟩
  have ha5 := gr_alloc (Below.refl w5.heap.size w5) (.cells #[.int .i64 D0, .int .i64 D1, .int .i64 D2, .int .i64 D3] 25)
  have X6 := Arr.new w5 D0 D1 D2 D3 25
  have R6 := (R4.next hb5).next ha5
  have F6 := (F4.next hb5).next ha5
  have SF6 := hid ((SF4.out.next hb5).next ha5)
  have SL6 := hid ((SL4.out.next hb5).next ha5)
  have U6 := gr_trans (gr_trans U4 hb5) ha5
  clear R4 F4 SF4 SL4 U4 hb5 ha5 f0 f1 f2 f3
  go_upto_region 16 with fail
  obtain ⟨jx, hjx⟩ : ∃ j, j = w5.heap.size := ⟨_, rfl⟩
  rw [← hjx] at X6
  rw [← hjx]
  generalize w5.alloc (.cells #[.int .i64 D0, .int .i64 D1, .int .i64 D2, .int .i64 D3] 25) = W6 at X6 R6 F6 SF6 SL6 U6 ⊢
  clear hjx
  have D6 : RaB W6 jh jd a3 b3 c3 d3 D0 D1 D2 D3 := ⟨F6, R6⟩
  have er := eqF_rf D0 D1 D2 D3
  obtain ⟨_, x0, x1, x2, x3, _⟩ := id X6
  obtain ⟨_, r0, r1, r2, r3, _⟩ := id R6
  obtain ⟨_, f0, f1, f2, f3, _⟩ := id F6
  clear F6 R6
  go_wp2_with fail
  refine (H3.out _).mono ?_
  rintro e w7 ⟨vp, rfl, hA, hb7⟩
  have SF7 := hid (SF6.out.next hb7)
  have SL7 := hid (SL6.out.next hb7)
  have D7 := D6.next hb7
  have U7 := gr_trans U6 hb7
  have A7 := hid hA.rd
  clear SF6 SL6 D6 U6 X6 hb7 H3 hA x0 x1 x2 x3 r0 r1 r2 r3 f0 f1 f2 f3 er heq
  obtain ⟨⟨_, f0, f1, f2, f3, _⟩, _⟩ := id D7
  go_wp2_with fail
  refine (H4.out _).mono ?_
  rintro e w8 ⟨vp2, rfl, hA2, hb8⟩
  have SF8 := hid (SF7.out.next hb8)
  have SL8 := hid (SL7.out.next hb8)
  have D8 := D7.next hb8
  have U8 := gr_trans U7 hb8
  have A8 := hid (A7.out.next hb8)
  have Bv8 := hid hA2.rd
  clear SF7 SL7 D7 U7 hb8 H4 f0 f1 f2 f3 A7
  clear hA2
  go_wp2_with fail
  refine (likeI_any _ _ _ _ _ A8.out Bv8.out).mono ?_
  rintro e w9 ⟨rfl, hb9⟩
  have SF9 := hid (SF8.out.next hb9)
  have SL9 := hid (SL8.out.next hb9)
  have D9 := D8.next hb9
  have U9 := gr_trans U8 hb9
  have A9 := hid (A8.out.next hb9)
  clear SF8 SL8 D8 U8 hb9 A8
  clear Bv8
  obtain ⟨pa, pc, rfl⟩ := rd_sl A9.out
  clear A9
  obtain ⟨⟨_, f0, f1, f2, f3, _⟩, _⟩ := id D9
  go_wp2_with fail
  refine (H5.out _).mono ?_
  rintro e w10 ⟨rfl, hb10⟩
  have SF10 := hid (SF9.out.next hb10)
  have SL10 := hid (SL9.out.next hb10)
  have D10 := D9.next hb10
  have U10 := gr_trans U9 hb10
  clear SF9 SL9 D9 U9 hb10 H5 f0 f1 f2 f3 
  obtain ⟨⟨_, f0, f1, f2, f3, _⟩, _⟩ := id D10
  go_wp2_with fail
  refine (H6.out _).mono ?_
  rintro e w11 ⟨rfl, hb11⟩
  have SF11 := hid (SF10.out.next hb11)
  have SL11 := hid (SL10.out.next hb11)
  have D11 := D10.next hb11
  have U11 := gr_trans U10 hb11
  clear SF10 SL10 D10 U10 hb11 H6 f0 f1 f2 f3 
  obtain ⟨⟨_, f0, f1, f2, f3, _⟩, _⟩ := id D11
  go_wp2_with fail
  refine (H7.out _).mono ?_
  rintro e w12 ⟨vb, rfl, hX, hb12⟩
  have SF12 := hid (SF11.out.next hb12)
  have SL12 := hid (SL11.out.next hb12)
  have D12 := D11.next hb12
  have U12 := gr_trans U11 hb12
  have Xv12 := hid hX.rd
  clear SF11 SL11 D11 U11 hb12 H7 f0 f1 f2 f3 
  clear hX
  obtain ⟨⟨_, f0, f1, f2, f3, _⟩, _⟩ := id D12
  go_wp2_with fail
  refine (H8.out _).mono ?_
  rintro e w13 ⟨vb2, rfl, hX2, hb13⟩
  have SF13 := hid (SF12.out.next hb13)
  have SL13 := hid (SL12.out.next hb13)
  have D13 := D12.next hb13
  have U13 := gr_trans U12 hb13
  have Yv13 := hid hX2.rd
  have Xv13 := hid (Xv12.out.next hb13)
  clear SF12 SL12 D12 U12 hb13 H8 f0 f1 f2 f3 
  clear hX2 Xv12
  go_wp2_with fail
  refine (forms9_any _ _ _ _ _ Xv13.out Yv13.out).mono ?_
  rintro e w14 ⟨rfl, hb14⟩
  have SF14 := hid (SF13.out.next hb14)
  have SL14 := hid (SL13.out.next hb14)
  have D14 := D13.next hb14
  have U14 := gr_trans U13 hb14
  clear SF13 SL13 D13 U13 hb14 
  obtain ⟨ba, bc, rfl⟩ := rdx_sl Xv13.out
  clear Xv13 Yv13
  go_upto_if 192 with (fail)
  go_cut [] (fun wx => Below w.heap.size w wx ∧ RaB wx jf jr a b c d P0 P1 P2 P3 ∧ RaB wx jg jl a2 b2 c2 d2 L0 L1 L2 L3 ∧ RaB wx jh jd a3 b3 c3 d3 D0 D1 D2 D3)
  case first =>
    go_wp2_with fail
    go_meet
    exact ⟨U14, SF14.out, SL14.out, D14⟩
  case rest =>
    obtain ⟨U, S, S2, S3⟩ := hcut
    go_step
    exact rseg192_any w a0 len0 cap0 z0 HR hlen pv HG _ U jf jr a b c d p r K P0 P1 P2 P3 (hid S) qF jg jl a2 b2 c2 d2 q r2 K2 L0 L1 L2 L3 (hid S2) qL jh jd a3 b3 c3 d3 m K3 D0 D1 D2 D3 (hid S3) QD ba bn bc B HB pa pn pc mb G HM _ _ _ _ _ _ _ _ _ _ _ _ _ _ _ _ _ _ _ _ _ _ _ _ _ _ _ _ _ _ _ _ _ _ _ _ _ _ _ _ _ _ _ _ _ _ _ _ _ _ _ _ _ _ _ _ _ _ _ _ _ _ _ _ _ _ _ _ _ _ _ _ _ _ _ _ _ _ _ _ _ _ _ _ _ _ _ _ _ _ _ _ _ _ _ _ _ _ _ _ _ _ _ _ _ _ _ _ _ _ _ _ _ _ _ _ _ _ _ _ _ _ _ _ _ _ _ _ _ _ _ _ _ _ _ _ _ _ _ _ _ _ _ _ _ _ _ _ _ _ _ _ _ _ _ _ _ _ _ _ _ _ _ _ _ _ _ _ _ _ _ _ _ _ _ _ _ _ _ _ _ _ _ _ _ _ _ _ _ _ _ _ _ _ _ _ _ _ _ _ _ _ _ _ _ _ _ _ _ _ _ _ _ _ _ _ _ _ _ _ _ _ _ _ _ _ _ _ _ _ _ _ _ _ _ _ _ _ _ _ _ _ _ _ _ _ _ _ _ _ _ _ _ _ _ _ _ _ _ _ _ _ _ _ _ _ _ _ _ _ _ _ _ _ _ _ _ _ _ _ _ _ _ _ _ _ _ _ _ _ _ _

end Go.Proofs.YtambbhldhhlfgaaDoor
