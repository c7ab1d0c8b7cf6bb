/- FnThirdRoots, cut: the facts that its pieces carry; the code behind an 'if'. -/
import Derived.Test.YtehbkmohfipmgaaBtZ1
import Derived.Test.YtehbkmohfipmgaaBtQt0
import Derived.Deep.DeepCutAuto
namespace Go.Proofs.Ytehbkmohfipmgaa
open Go.ChangeShapes Go.WideShapes Go.ChangeAt Go.RowKit

def hasCondT (t : Nat) : Code → Bool
  | .cond (.tmp k) _ _ => k == t
  | .seq a b => hasCondT t a || hasCondT t b
  | .block _ c => hasCondT t c
  | _ => false
def afterT (t : Nat) : Code → Code
  | .seq a b => if hasCondT t a then b else afterT t b
  | .scope c => afterT t c
  | _ => .skip
noncomputable def tseg (t : Nat) : Code := afterT t (Try.f4.body.getD .skip)
structure TrB (w : World) (jf jr jq : Nat) (a b c d r0 r1 r2 q0 q1 q2 : Int) (v : Value) (L : Nat) (G : Nat → Int) (v' : Value) (M : Nat) (H : Nat → Int) : Prop where
  F : Arr w jf a b c d
  R : Arr3 w jr r0 r1 r2
  Q : Arr3 w jq q0 q1 q2
  V : RdU w v L G
  W : RdX w v' M H
theorem TrB.next {w w' : World} {jf jr jq : Nat} {a b c d r0 r1 r2 q0 q1 q2 : Int} {v : Value} {L : Nat} {G : Nat → Int} {v' : Value} {M : Nat} {H : Nat → Int} (h : TrB w jf jr jq a b c d r0 r1 r2 q0 q1 q2 v L G v' M H) (hb : Below w.heap.size w w') : TrB w' jf jr jq a b c d r0 r1 r2 q0 q1 q2 v L G v' M H := ⟨h.F.next hb, h.R.next hb, h.Q.next hb, h.V.next9 hb, h.W.next9 hb⟩
set_option maxRecDepth 1000000 in
set_option maxHeartbeats 8000000 in
theorem tseg155_any (w : World) (a0 : Option Addr) (len0 cap0 : Nat) (wc : World) (hcut0 : Below w.heap.size w wc) (jf jr jq : Nat) (a b c d r0 r1 r2 q0 q1 q2 : Int) (v4 : Value) (L : Nat) (G : Nat → Int) (v19 : Value) (M : Nat) (H : Nat → Int) (k1 k2 k3 k4 n : Int) (tr : Bool) (hE : Hid (TrB wc jf jr jq a b c d r0 r1 r2 q0 q1 q2 v4 L G v19 M H)) (hQ3 : Hid (TrQ3 L G k1)) (u1 u2 u3 u6 u7 u11 u12 u15 u16 u21 u22 u23 u24 u25 u26 u27 u28 u29 u30 u31 u32 u33 u34 u35 u36 u37 u38 u39 u40 u41 u42 u43 u44 u45 u46 u47 u48 u49 u50 u51 u52 u53 u54 u55 u56 u57 u58 u59 u60 u61 u62 u63 u64 u65 u66 u67 u68 u69 u70 u71 u72 u73 u74 u75 u76 u77 u78 u79 u80 u81 u82 u83 u84 u85 u86 u87 u88 u89 u90 u91 u92 u93 u94 u95 u96 u97 u98 u99 u100 u101 u102 u103 u104 u105 u106 u107 u108 u109 u110 u111 u112 u113 u114 u115 u116 u117 u118 u119 u120 u121 u122 u123 u124 u125 u126 u127 u128 u129 u130 u131 u132 u133 u134 u135 u136 u137 u138 u139 u140 u141 u142 u143 u144 u145 u146 u147 u148 u149 u150 u151 u152 u153 u154 u155 u156 u157 u158 u159 u160 u161 u162 u163 u164 u165 u166 u167 u168 u169 u170 u171 u172 u173 u174 u175 u176 u177 u178 u179 u180 u181 u182 u183 u184 u185 u186 u187 u188 u189 u190 u191 u192 u193 u194 u195 u196 u197 u198 u199 u200 u201 u202 u203 u204 u205 u206 u207 u208 u209 u210 u211 u212 u213 u214 u215 u216 u217 u218 u219 u220 u221 u222 u223 u224 u225 u226 u227 u228 u229 u230 u231 u232 u233 u234 u235 u236 u237 u238 : Value) :
    Code.wp Try.prog (tseg 155) (bodyPost Try.prog Try.f4 fun e w' => e = .returned (.bool true) ∧ Below w.heap.size w w') ⟨#[.slice a0 len0 cap0, u1, u2, u3, v4, .int .i64 k1, u6, u7, .pointer (some ⟨jf, 0, none⟩), .pointer (some ⟨jr, 0, none⟩), .int .i64 k2, u11, u12, .bool tr, .int .i64 k3, u15, u16, .pointer (some ⟨jq, 0, none⟩), .int .i64 n, v19, .int .i64 k4, u21, u22, u23, u24, u25, u26, u27, u28, u29, u30, u31, u32, u33, u34, u35, u36, u37, u38, u39, u40, u41, u42, u43, u44, u45, u46, u47, u48, u49, u50, u51, u52, u53, u54, u55, u56, u57, u58, u59, u60, u61, u62, u63, u64, u65, u66, u67, u68, u69, u70, u71, u72, u73, u74, u75, u76, u77, u78, u79, u80, u81, u82, u83, u84, u85, u86, u87, u88, u89, u90, u91, u92, u93, u94, u95, u96, u97, u98, u99, u100, u101, u102, u103, u104, u105, u106, u107, u108, u109, u110, u111, u112, u113, u114, u115, u116, u117, u118, u119, u120, u121, u122, u123, u124, u125, u126, u127, u128, u129, u130, u131, u132, u133, u134, u135, u136, u137, u138, u139, u140, u141, u142, u143, u144, u145, u146, u147, u148, u149, u150, u151, u152, u153, u154, u155, u156, u157, u158, u159, u160, u161, u162, u163, u164, u165, u166, u167, u168, u169, u170, u171, u172, u173, u174, u175, u176, u177, u178, u179, u180, u181, u182, u183, u184, u185, u186, u187, u188, u189, u190, u191, u192, u193, u194, u195, u196, u197, u198, u199, u200, u201, u202, u203, u204, u205, u206, u207, u208, u209, u210, u211, u212, u213, u214, u215, u216, u217, u218, u219, u220, u221, u222, u223, u224, u225, u226, u227, u228, u229, u230, u231, u232, u233, u234, u235, u236, u237, u238], []⟩ wc := by
  conv => arg 2; whnf
  by_cases hk : k1 = 0
  · obtain ⟨hodd, hor⟩ := hQ3.out.2 hk
    subst hk
    have hL : 0 < L := by omega
    obtain ⟨bl, cpl, hvl, hc1, hc2, hat⟩ := rdU_at hE.out.V hL
    subst hvl
    unfold maxLen at hc2
    have HAT := hid hat
    have HOR := hid hor
    have ht : Int.tmod (L : Int) 2 = 1 := by rw [Int.tmod_eq_emod_of_nonneg (by omega)]; omega
    clear hat hor hE hQ3
    go_wp2_with fail
    go_loopw [33] (fun s33 wr => ∃ k : Nat, s33 = .int .i64 ((k : Int)) ∧ k ≤ L ∧ Below wc.heap.size wc wr) (fun s33 _ => L - (intOf s33).toNat)
    case atStart => exact ⟨0, rfl, Nat.zero_le _, Below.refl _ _⟩
    case round =>
      obtain ⟨k, rfl, hk, hB⟩ := hrel
      by_cases hlt : k < L
      · have e2 : decide ((k : Int) < (L : Int)) = true := by simp; omega
        have hk0 : (0 : Int) ≤ (k : Int) := by omega
        have hkn : (k : Int) < (L : Int) := by omega
        have Y0 := (HAT.out k hlt).next hB (HAT.out k hlt).lt
        obtain ⟨o, ho, hoc⟩ := HOR.out k hlt
        generalize G (k * 3) = y0 at Y0 hoc
        generalize G (k * 3 + 1) = y1 at Y0 hoc
        generalize G (k * 3 + 2) = y2 at Y0 hoc
        have HO := hid hoc
        unfold OrC at HO
        obtain ⟨_, c0, c1, c2⟩ := id Y0
        clear hoc Y0
        go_wp2_with fail
        refine (HO.out _).mono ?_
        rintro e w5 ⟨rfl, hb5⟩
        have B5 := gr_trans hB hb5
        clear c0 c1 c2 hb5 hB HO
        rcases ho with rfl | rfl
        all_goals
          go_wp2_with fail
          go_roundw
          case rel => exact ⟨k + 1, by go_num, by omega, B5⟩
          case measure => simp only [intOf]; omega
      · have e2 : decide ((k : Int) < (L : Int)) = false := by simp; omega
        have B5 := gr_trans hcut0 hB
        go_wp2
        go_ret
        exact ⟨by simp, B5⟩
  · obtain h0 := hQ3.out.1 hk
    subst h0
    obtain ⟨av, cv, hvl⟩ := rdU_val hE.out.V
    subst hvl
    have hkb : (k1 == 0) = false := by simpa using hk
    clear hE hQ3 hk
    go_wp2
    go_ret
    exact ⟨rfl, hcut0⟩

end Go.Proofs.Ytehbkmohfipmgaa
