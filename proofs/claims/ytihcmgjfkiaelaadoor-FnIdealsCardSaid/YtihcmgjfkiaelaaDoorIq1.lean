/- FnIdeals, cut: the last block: sums of ideals, counts of kinds. -/
import Derived.Test.YtihcmgjfkiaelaaDoorZ8
import Derived.Test.YtihcmgjfkiaelaaDoorDraw17
import Derived.Test.YtihcmgjfkiaelaaDoorZ19
import Derived.Test.YtihcmgjfkiaelaaDoorIj
import Derived.Test.YtihcmgjfkiaelaaDoorZ5
import Derived.Deep.DeepCutAuto
namespace Go.Proofs.YtihcmgjfkiaelaaDoor
open Go.ChangeShapes Go.WideShapes Go.ChangeAt Go.RowKit

/-- The code behind the 'if' whose test lies in slot t. -/
def hasCond (t : Nat) : Code → Bool
  | .cond (.tmp k) _ _ => k == t
  | .seq a b => hasCond t a || hasCond t b
  | .block _ c => hasCond t c
  | _ => false
def after (t : Nat) : Code → Code
  | .seq a b => if hasCond t a then b else after t b
  | .scope c => after t c
  | _ => .skip
noncomputable def kseg (t : Nat) : Code := after t (Tryd.f4.body.getD .skip)
theorem nco_in {n : Int} (h2 : 2 ≤ n) (h : n ≤ 97) : nco n = 0 := by simp [nco, rng_mk h2 h]

set_option maxRecDepth 1000000 in
set_option maxHeartbeats 8000000 in
theorem kseg60_any (w : World) (a0 : Option Addr) (len0 cap0 : Nat) (z0 : List Int) (HR : Hid (IsRow .u8 w a0 len0 cap0 z0)) (hlen : len0 ≤ 9223372036854775807) (pv : Value) (wc : World) (hcut : Below w.heap.size w wc) (hG : Sen wc pv) (u1 u2 u3 u4 u5 u6 u7 u8 u9 u10 u11 u12 u13 u14 u15 u16 u17 u18 u19 u20 u21 u22 u23 u24 u25 u26 u27 u28 u29 u30 u31 u32 u33 u34 u35 u36 u37 u38 u39 u40 u41 u42 u43 u44 u45 u46 u47 u48 u49 u50 u51 u52 u53 u54 u55 u56 u57 u58 u59 u60 u61 u62 u63 u64 u65 u66 u67 u68 u69 u70 u71 u72 u73 u74 u75 u76 u77 u78 u79 u80 u81 u82 u83 u84 u85 u86 u87 u88 u89 u90 u91 u92 u93 u94 u95 u96 u97 u98 u99 u100 u101 u102 u103 u104 u105 u106 u107 u108 u109 u110 u111 u112 u113 u114 u115 u116 u117 u118 u119 u120 u121 u122 u123 u124 u125 u126 u127 u128 u129 u130 u131 u132 u133 u134 u135 u136 u137 u138 u139 u140 u141 u142 u143 u144 u145 u146 u147 u148 u149 u150 u151 u152 u153 u154 u155 u156 u157 u158 u159 u160 u161 u162 u163 u164 u165 u166 u167 u168 u169 u170 u171 u172 u173 u174 u175 u176 u177 u178 u179 u180 u181 u182 u183 u184 u185 u186 u187 u188 u189 u190 u191 u192 u193 u194 u195 u196 u197 u198 u199 u200 u201 u202 u203 u204 u205 u206 u207 u208 u209 u210 u211 u212 u213 u214 u215 u216 u217 u218 u219 u220 u221 : Value) :
    Code.wp Tryd.prog (kseg 60) (bodyPost Tryd.prog Tryd.f4 fun e w' => e = .returned (.bool true) ∧ Below w.heap.size w w') ⟨#[.slice a0 len0 cap0, u1, u2, u3, u4, u5, u6, u7, u8, u9, u10, u11, u12, u13, u14, u15, u16, u17, u18, u19, u20, u21, u22, u23, u24, u25, u26, u27, u28, u29, u30, u31, u32, u33, u34, u35, u36, u37, u38, u39, u40, u41, u42, u43, u44, u45, u46, u47, u48, u49, u50, u51, u52, u53, u54, u55, u56, u57, u58, u59, u60, u61, u62, u63, u64, u65, u66, u67, u68, u69, u70, u71, u72, u73, u74, u75, u76, u77, u78, u79, u80, u81, u82, u83, u84, u85, u86, u87, u88, u89, u90, u91, u92, u93, u94, u95, u96, u97, u98, u99, u100, u101, u102, u103, u104, u105, u106, u107, u108, u109, u110, u111, u112, u113, u114, u115, u116, u117, u118, u119, u120, u121, u122, u123, u124, u125, u126, u127, u128, u129, u130, u131, u132, u133, u134, u135, u136, u137, u138, u139, u140, u141, u142, u143, u144, u145, u146, u147, u148, u149, u150, u151, u152, u153, u154, u155, u156, u157, u158, u159, u160, u161, u162, u163, u164, u165, u166, u167, u168, u169, u170, u171, u172, u173, u174, u175, u176, u177, u178, u179, u180, u181, u182, u183, u184, u185, u186, u187, u188, u189, u190, u191, u192, u193, u194, u195, u196, u197, u198, u199, u200, u201, u202, u203, u204, u205, u206, u207, u208, u209, u210, u211, u212, u213, u214, u215, u216, u217, u218, u219, u220, u221], []⟩ wc := by
  have HR2 := hid (row8_next HR.out hcut)
  conv => arg 2; whnf
  go_wp2_with fail
  refine (drawSu_any a0 len0 cap0 z0 _ HR2.out hlen).mono ?_
  rintro e w1 ⟨p, q, r, s, m, rfl, V1⟩
  have M2 := Arr.new w1 p q r s 25
  have U2 := gr_alloc (gr_trans hcut V1) (.cells #[.int .i64 p, .int .i64 q, .int .i64 r, .int .i64 s] 25)
  have G2 := (hG.next V1).alloc (.cells #[.int .i64 p, .int .i64 q, .int .i64 r, .int .i64 s] 25)
  obtain ⟨ND, hND⟩ := nds_ex
  have h1 := fun W hg => iSum_any p q r s m ND hND pv W hg
  have h2 := fun W => sSum_any p q r s m ND hND W
  generalize smi (idc p q r s m) m.toNat (idn p q r s ND) = t1 at h1 h2
  generalize idc p q r s m = k1 at h1 h2
  have H1 := hid h1; have H2 := hid h2
  clear h1 h2 hcut hG V1 HR2 hND
  obtain ⟨_, m0, m1, m2, m3, _⟩ := id M2
  go_wp2_with fail
  refine (H1.out _ G2).mono ?_
  rintro e w3 ⟨rfl, hb3⟩
  clear m0 m1 m2 m3
  have M3 := M2.next hb3
  have U3 := gr_trans U2 hb3
  have G3 := G2.next hb3
  clear M2 U2 G2 hb3 H1
  obtain ⟨_, m0, m1, m2, m3, _⟩ := id M3
  go_wp2_with fail
  refine (H2.out _).mono ?_
  rintro e w4 ⟨rfl, hb4⟩
  clear m0 m1 m2 m3
  have U4 := gr_trans U3 hb4
  have G4 := G3.next hb4
  clear M3 U3 G3 hb4 H2
  have HR4 := hid (row8_next HR.out U4)
  go_wp2_with fail
  refine (drawCo_any a0 len0 cap0 z0 _ HR4.out hlen).mono ?_
  rintro e w5 ⟨a, b, c, d, n, rfl, V5⟩
  have M6 := Arr.new w5 a b c d 25
  have U6 := gr_alloc (gr_trans U4 V5) (.cells #[.int .i64 a, .int .i64 b, .int .i64 c, .int .i64 d] 25)
  have G6 := (G4.next V5).alloc (.cells #[.int .i64 a, .int .i64 b, .int .i64 c, .int .i64 d] 25)
  have h3 := fun W hg => iCountKinds_any a b c d n pv W hg
  have h4 := fun W => sCountKinds_any a b c d n W
  have h5 := fun W => iPrimesUpTo_any n W
  have q1 : ckc a b c d n = 0 → nco n = 0 ∧ (if ckc a b c d n = 0 then 6 else 0) = 6 ∧ sms (ctz (kul a b c d n)) 6 = ((if nco n = 0 then (prl (n.toNat + 1)).length else 0 : Nat) : Int) := fun h => by
    obtain ⟨_, h2, h97⟩ := ckc_t h
    rw [if_pos h, if_pos (nco_in h2 h97)]
    exact ⟨nco_in h2 h97, rfl, kul_sum a b c d n h97⟩
  unfold LstOut at h3 h4 h5
  generalize (if ckc a b c d n = 0 then 6 else 0) = n3 at h3 h4 q1
  generalize (if nco n = 0 then (prl (n.toNat + 1)).length else 0) = l5 at h5 q1
  generalize ckc a b c d n = k3 at h3 h4 q1
  generalize ctz (kul a b c d n) = g3 at h3 h4 q1
  generalize (fun i => (prl (n.toNat + 1)).getD i 0) = g5 at h5
  generalize nco n = k5 at h5 q1
  have H3 := hid h3; have H4 := hid h4; have H5 := hid h5; have HQ := hid q1
  clear h3 h4 h5 q1 V5 HR4 U4 G4
  obtain ⟨_, m0, m1, m2, m3, _⟩ := id M6
  go_wp2_with fail
  refine (H3.out _ G6).mono ?_
  rintro e w7 ⟨va, rfl, hA, hb7⟩
  clear m0 m1 m2 m3
  have M7 := M6.next hb7
  have U7 := gr_trans U6 hb7
  have A7 := hid hA.rd
  obtain ⟨aa, ca, rfl⟩ := hA.rd.form
  clear M6 U6 G6 hb7 H3 hA
  obtain ⟨_, m0, m1, m2, m3, _⟩ := id M7
  go_wp2_with fail
  refine (H4.out _).mono ?_
  rintro e w8 ⟨vb, rfl, hB, hb8⟩
  have U8 := gr_trans U7 hb8
  have A8 := hid (A7.out.next hb8)
  have B8 := hid hB.rd
  clear m0 m1 m2 m3 M7 U7 A7 hb8 H4 hB
  by_cases hk : k3 = 0
  · obtain ⟨hk5, hn3, hs⟩ := HQ.out hk
    subst hk
    subst hk5
    subst hn3
    have HS := hid (fun W (hV : Rd W (.slice aa 6 ca) 6 g3) => sum_any (.slice aa 6 ca) 6 g3 W hV)
    rw [hs] at HS
    clear HQ hs
    go_wp2_with fail
    refine (likeI_any _ _ _ _ _ A8.out B8.out).mono ?_
    rintro e w9 ⟨rfl, hb9⟩
    have U9 := gr_trans U8 hb9
    have A9 := hid (A8.out.next hb9)
    clear U8 A8 B8 hb9
    go_wp2_with fail
    refine (H5.out _).mono ?_
    rintro e wa ⟨vc, rfl, hC, hba⟩
    have Ua := gr_trans U9 hba
    have Aa := hid (A9.out.next hba)
    obtain ⟨ac, cc, rfl⟩ := hC.rd.form
    clear U9 A9 hba H5 hC
    go_wp2_with fail
    refine (HS.out _ Aa.out).mono ?_
    rintro e wb ⟨rfl, hbb⟩
    have Ub := gr_trans Ua hbb
    clear Ua Aa hbb HS
    go_wp2_with fail
    go_ret
    exact ⟨rfl, Ub⟩
  · have hkf : (k3 == 0) = false := by simpa using hk
    clear hk HQ H5
    go_wp2_with fail
    refine (likeI_any _ _ _ _ _ A8.out B8.out).mono ?_
    rintro e w9 ⟨rfl, hb9⟩
    have U9 := gr_trans U8 hb9
    clear U8 A8 B8 hb9
    go_wp2_with fail
    go_ret
    exact ⟨rfl, U9⟩

end Go.Proofs.YtihcmgjfkiaelaaDoor
