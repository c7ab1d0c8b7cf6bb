/- Several texts in one: XNg0, XNg1, XNg2, XNg3. -/
import Derived.Test.YtikmjefbjejbkaaBbZ1
import Derived.Test.YtikmjefbjejbkaaWb1
import Derived.Test.YtikmjefbjejbkaaWa3
import Derived.Test.YtikmjefbjejbkaaBbZ12
import Derived.Deep.DeepCutAuto

/- FnNormalForms, cut: the facts that its pieces carry; the code behind an 'if'. -/
namespace Go.Proofs.Ytikmjefbjejbkaa
open Go.ChangeShapes Go.WideShapes Go.ChangeAt Go.RowKit

def hasCondN (t : Nat) : Code → Bool
  | .cond (.tmp k) _ _ => k == t
  | .seq a b => hasCondN t a || hasCondN t b
  | .block _ c => hasCondN t c
  | _ => false
def afterN (t : Nat) : Code → Code
  | .seq a b => if hasCondN t a then b else afterN t b
  | .scope c => afterN t c
  | _ => .skip
noncomputable def nseg (t : Nat) : Code := afterN t (Try.f5.body.getD .skip)
structure NfB (w : World) (jf jn jm : Nat) (a b c d n0 n1 n2 n3 m0 m1 m2 m3 : Int) (v : Value) (L : Nat) (G : Nat → Int) : Prop where
  F : Arr w jf a b c d
  N : Arr w jn n0 n1 n2 n3
  M : Arr w jm m0 m1 m2 m3
  V : RdX w v L G
theorem NfB.next {w w' : World} {jf jn jm : Nat} {a b c d n0 n1 n2 n3 m0 m1 m2 m3 : Int} {v : Value} {L : Nat} {G : Nat → Int} (h : NfB w jf jn jm a b c d n0 n1 n2 n3 m0 m1 m2 m3 v L G) (hb : Below w.heap.size w w') : NfB w' jf jn jm a b c d n0 n1 n2 n3 m0 m1 m2 m3 v L G := ⟨h.F.next hb, h.N.next hb, h.M.next hb, h.V.next9 hb⟩
def NfC (a b c d p q r s k : Int) : Prop := ∀ W : World, Calls Try.prog 21 #[.agg #[.int .i64 a, .int .i64 b, .int .i64 c, .int .i64 d]] W fun e w' => e = .returned (.tuple #[.agg #[.int .i64 p, .int .i64 q, .int .i64 r, .int .i64 s], .int .i64 k]) ∧ Below W.heap.size W w'
def IrC (a b c d : Int) : Prop := ∀ W : World, Calls Try.prog 27 #[.agg #[.int .i64 a, .int .i64 b, .int .i64 c, .int .i64 d]] W fun e w' => e = .returned (.tuple #[.bool true, .int .i64 0]) ∧ Below W.heap.size W w'
def DsC (a b c d D : Int) : Prop := ∀ W : World, Calls Try.prog 31 #[.agg #[.int .i64 a, .int .i64 b, .int .i64 c, .int .i64 d]] W fun e w' => e = .returned (.tuple #[.int .i64 D, .int .i64 0]) ∧ Below W.heap.size W w'
def DtC (a b c d D : Int) : Prop := ∀ W : World, Calls Try.prog 33 #[.agg #[.int .i64 a, .int .i64 b, .int .i64 c, .int .i64 d]] W fun e w' => e = .returned (.tuple #[.int .i64 D, .int .i64 0]) ∧ Below W.heap.size W w'
def NfQ (n0 n1 n2 n3 k1 : Int) : Prop := (k1 ≠ 0 → n0 = 0 ∧ n1 = 0 ∧ n2 = 0 ∧ n3 = 0) ∧ (k1 = 0 → (∃ p0 p1 p2 p3, NfC n0 n1 n2 n3 p0 p1 p2 p3 2) ∨ (NfC n0 n1 n2 n3 n0 n1 n2 n3 0 ∧ IrC n0 n1 n2 n3))
def RmQ (a b c d n0 n1 n2 n3 m0 m1 m2 m3 k1 k4 : Int) : Prop := k4 = 0 → k1 = 0 → ChC a b c d n0 n1 n2 n3 m0 m1 m2 m3 ∧ ∃ δ, (δ = 1 ∨ δ = -1) ∧ DtC m0 m1 m2 m3 δ
def RfQ (a b c d n0 n1 n2 n3 k1 k2 : Int) (L : Nat) (G : Nat → Int) : Prop := k2 = 0 → k1 = 0 ∧ ∃ D, DsC a b c d D ∧ 0 < L ∧ (G (0 * 4) = n0 ∧ G (0 * 4 + 1) = n1 ∧ G (0 * 4 + 2) = n2 ∧ G (0 * 4 + 3) = n3) ∧ ∀ i, i < L → DsC (G (i * 4)) (G (i * 4 + 1)) (G (i * 4 + 2)) (G (i * 4 + 3)) D
theorem nfQ (a b c d : Int) : NfQ (nfv a b c d (·.1)) (nfv a b c d (·.2.1)) (nfv a b c d (·.2.2.1)) (nfv a b c d (·.2.2.2)) (nfc a b c d) := by
  refine ⟨fun h => ?_, fun h => ?_⟩
  · unfold nfv; rw [if_neg h, if_neg h, if_neg h, if_neg h]; exact ⟨rfl, rfl, rfl, rfl⟩
  · have ev : ∀ f : Red.F4 → Int, nfv a b c d f = f (nfm a b c d) := fun f => by unfold nfv; rw [if_pos h]
    rw [ev, ev, ev, ev]
    have hF : isF (nfm a b c d).1 (nfm a b c d).2.1 (nfm a b c d).2.2.1 (nfm a b c d).2.2.2 = true := by
      unfold nfc at h
      split at h
      · cases e : isF (nfm a b c d).1 (nfm a b c d).2.1 (nfm a b c d).2.2.1 (nfm a b c d).2.2.2
        · rw [e] at h; cases h
        · rfl
      · rename_i k; exact (k h).elim
    have hk := nf_again h
    generalize nfm a b c d = N at hk hF
    obtain ⟨n0, n1, n2, n3⟩ := N
    dsimp only at hk hF ⊢
    rcases hk with h2 | ⟨h0, hn, hr⟩
    · left
      refine ⟨nfv n0 n1 n2 n3 (·.1), nfv n0 n1 n2 n3 (·.2.1), nfv n0 n1 n2 n3 (·.2.2.1), nfv n0 n1 n2 n3 (·.2.2.2), fun W => ?_⟩
      have k := iNormalForm_any n0 n1 n2 n3 W
      unfold NfOut at k
      have hc : nfc n0 n1 n2 n3 = 2 := by unfold nfc; rw [h2]; rfl
      rw [hc] at k
      exact k
    · right
      have hc : nfc n0 n1 n2 n3 = 0 := by unfold nfc; rw [if_pos h0, hn, hF]; rfl
      refine ⟨fun W => ?_, fun W => ?_⟩
      · have k := iNormalForm_any n0 n1 n2 n3 W
        unfold NfOut at k
        have ev : ∀ f : Red.F4 → Int, nfv n0 n1 n2 n3 f = f (n0, n1, n2, n3) := fun f => by unfold nfv; rw [if_pos hc, hn]
        rw [ev, ev, ev, ev, hc] at k
        exact k
      · have k := iIsReduced_any n0 n1 n2 n3 W
        rw [hr, h0] at k
        exact k
theorem rmQ (a b c d : Int) : RmQ a b c d (nfv a b c d (·.1)) (nfv a b c d (·.2.1)) (nfv a b c d (·.2.2.1)) (nfv a b c d (·.2.2.2)) (rmv a b c d (·.1)) (rmv a b c d (·.2.1)) (rmv a b c d (·.2.2.1)) (rmv a b c d (·.2.2.2)) (nfc a b c d) (rmc a b c d) := fun h4 h1 => by
  have ev : ∀ f : Red.F4 → Int, nfv a b c d f = f (nfm a b c d) := fun f => by unfold nfv; rw [if_pos h1]
  have em : ∀ f : Red.F4 → Int, rmv a b c d f = f (rdm a b c d) := fun f => by unfold rmv; rw [if_pos h4]
  rw [ev, ev, ev, ev, em, em, em, em]
  obtain ⟨k1, k2, k3⟩ := rm_law h4 h1
  generalize nfm a b c d = N at k1
  generalize rdm a b c d = m at k1 k2 k3
  refine ⟨chC_of k1, det0 m.1 m.2.1 m.2.2.1 m.2.2.2, k2, fun W => ?_⟩
  have k := iDet_any m.1 m.2.1 m.2.2.1 m.2.2.2 W
  rw [k3] at k
  exact k
theorem rfQ (a b c d : Int) : RfQ a b c d (nfv a b c d (·.1)) (nfv a b c d (·.2.1)) (nfv a b c d (·.2.2.1)) (nfv a b c d (·.2.2.2)) (nfc a b c d) (rfc a b c d) (if rfc a b c d = 0 then (frms a b c d).length else 0) (fun i => ((frms a b c d).flatMap gm4).getD i 0) := fun h2 => by
  obtain ⟨k1, k2, k3, k4, k5⟩ := rf_law h2
  have ev : ∀ f : Red.F4 → Int, nfv a b c d f = f (nfm a b c d) := fun f => by unfold nfv; rw [if_pos k1]
  rw [ev, ev, ev, ev, if_pos h2]
  refine ⟨k1, dsc0 a b c d, fun W => ?_, k3, ?_, fun i hi W => ?_⟩
  · have k := iDisc_any a b c d W
    rw [k2] at k
    exact k
  · exact flat_at k4
  · obtain ⟨q, _, hq, e0, e1, e2, e3⟩ := row_at hi
    dsimp only
    rw [e0, e1, e2, e3]
    obtain ⟨j1, j2⟩ := k5 q hq
    have k := iDisc_any q.1 q.2.1 q.2.2.1 q.2.2.2 W
    rw [j1, j2] at k
    exact k

end Go.Proofs.Ytikmjefbjejbkaa

/- FnNormalForms, cut: the normal form of the normal form. -/
namespace Go.Proofs.Ytikmjefbjejbkaa
open Go.ChangeShapes Go.WideShapes Go.ChangeAt Go.RowKit

set_option maxRecDepth 1000000 in
set_option maxHeartbeats 8000000 in
theorem nseg164_any (w : World) (a0 : Option Addr) (len0 cap0 : Nat) (wc : World) (hcut0 : Below w.heap.size w wc) (jf jn jm : Nat) (a b c d n0 n1 n2 n3 m0 m1 m2 m3 : Int) (v8 : Value) (L : Nat) (G : Nat → Int) (k1 k2 k4 : Int) (hE : Hid (NfB wc jf jn jm a b c d n0 n1 n2 n3 m0 m1 m2 m3 v8 L G)) (hQ : Hid (NfQ n0 n1 n2 n3 k1)) (u1 u2 u6 u7 u10 u11 u12 u13 u14 u15 u16 u19 u20 u21 u22 u23 u24 u25 u26 u27 u28 u29 u30 u31 u32 u33 u34 u35 u36 u37 u38 u39 u40 u41 u42 u43 u44 u45 u46 u47 u48 u49 u50 u51 u52 u53 u54 u55 u56 u57 u58 u59 u60 u61 u62 u63 u64 u65 u66 u67 u68 u69 u70 u71 u72 u73 u74 u75 u76 u77 u78 u79 u80 u81 u82 u83 u84 u85 u86 u87 u88 u89 u90 u91 u92 u93 u94 u95 u96 u97 u98 u99 u100 u101 u102 u103 u104 u105 u106 u107 u108 u109 u110 u111 u112 u113 u114 u115 u116 u117 u118 u119 u120 u121 u122 u123 u124 u125 u126 u127 u128 u129 u130 u131 u132 u133 u134 u135 u136 u137 u138 u139 u140 u141 u142 u143 u144 u145 u146 u147 u148 u149 u150 u151 u152 u153 u154 u155 u156 u157 u158 u159 u160 u161 u162 u163 u164 u165 u166 u167 u168 u169 u170 u171 u172 u173 u174 u175 u176 u177 u178 u179 u180 u181 u182 u183 u184 u185 u186 u187 u188 u189 u190 u191 u192 u193 u194 u195 u196 u197 u198 u199 u200 u201 u202 u203 u204 u205 u206 u207 u208 u209 u210 u211 u212 u213 u214 u215 u216 u217 u218 u219 u220 u221 u222 u223 u224 u225 : Value) :
    Code.wp Try.prog (nseg 164) (bodyPost Try.prog Try.f5 fun e w' => e = .returned (.bool true) ∧ Below w.heap.size w w') ⟨#[.slice a0 len0 cap0, u1, u2, .pointer (some ⟨jf, 0, none⟩), .pointer (some ⟨jn, 0, none⟩), .int .i64 k1, u6, u7, v8, .int .i64 k2, u10, u11, u12, u13, u14, u15, u16, .pointer (some ⟨jm, 0, none⟩), .int .i64 k4, u19, u20, u21, u22, u23, u24, u25, u26, u27, u28, u29, u30, u31, u32, u33, u34, u35, u36, u37, u38, u39, u40, u41, u42, u43, u44, u45, u46, u47, u48, u49, u50, u51, u52, u53, u54, u55, u56, u57, u58, u59, u60, u61, u62, u63, u64, u65, u66, u67, u68, u69, u70, u71, u72, u73, u74, u75, u76, u77, u78, u79, u80, u81, u82, u83, u84, u85, u86, u87, u88, u89, u90, u91, u92, u93, u94, u95, u96, u97, u98, u99, u100, u101, u102, u103, u104, u105, u106, u107, u108, u109, u110, u111, u112, u113, u114, u115, u116, u117, u118, u119, u120, u121, u122, u123, u124, u125, u126, u127, u128, u129, u130, u131, u132, u133, u134, u135, u136, u137, u138, u139, u140, u141, u142, u143, u144, u145, u146, u147, u148, u149, u150, u151, u152, u153, u154, u155, u156, u157, u158, u159, u160, u161, u162, u163, u164, u165, u166, u167, u168, u169, u170, u171, u172, u173, u174, u175, u176, u177, u178, u179, u180, u181, u182, u183, u184, u185, u186, u187, u188, u189, u190, u191, u192, u193, u194, u195, u196, u197, u198, u199, u200, u201, u202, u203, u204, u205, u206, u207, u208, u209, u210, u211, u212, u213, u214, u215, u216, u217, u218, u219, u220, u221, u222, u223, u224, u225], []⟩ wc := by
  conv => arg 2; whnf
  have heq := eqForm_run
  by_cases hk : k1 = 0
  · have hq := hQ.out.2 hk
    subst hk
    have HQ2 := hid hq
    clear hq hQ
    have HN := hid hE.out.N
    clear hE
    obtain ⟨_, x0, x1, x2, x3, _⟩ := id HN.out
    rcases HQ2.out with ⟨p0, p1, p2, p3, h⟩ | ⟨h1, h2⟩
    · have HA := hid h
      unfold NfC at HA
      clear h HQ2
      go_wp2_with fail
      refine (HA.out _).mono ?_
      rintro e w2 ⟨rfl, hb2⟩
      have U2 := gr_trans hcut0 hb2
      clear HA x0 x1 x2 x3 HN hb2 hcut0
      go_wp2_with fail
      go_ret
      exact ⟨rfl, by (repeat' (first | with_reducible exact Below.refl _ _ | with_reducible assumption | with_reducible refine gr_alloc ?_ _ | with_reducible refine gr_drew ?_ | with_reducible refine gr_drewN ?_ _ | with_reducible refine gr_trans ?_ (by assumption) | with_reducible refine gr_set ?_ ?_ _ | (simp; done) | omega | (simp; omega)))⟩
    · have HA := hid h1; have HI := hid h2
      unfold NfC at HA
      unfold IrC at HI
      clear h1 h2 HQ2
      go_wp2_with fail
      refine (HA.out _).mono ?_
      rintro e w2 ⟨rfl, hb2⟩
      have U2 := gr_alloc (gr_trans hcut0 hb2) (.cells #[.int .i64 n0, .int .i64 n1, .int .i64 n2, .int .i64 n3] 26)
      have Y2 := Arr.new w2 n0 n1 n2 n3 26
      have N2 := (HN.out.next hb2).alloc (.cells #[.int .i64 n0, .int .i64 n1, .int .i64 n2, .int .i64 n3] 26)
      clear HA x0 x1 x2 x3 HN hb2 hcut0
      go_upto_region 39 with fail
      generalize w2.heap.size = j2 at *
      generalize w2.alloc (.cells #[.int .i64 n0, .int .i64 n1, .int .i64 n2, .int .i64 n3] 26) = W2 at U2 Y2 N2 ⊢
      obtain ⟨_, x0, x1, x2, x3, _⟩ := id N2
      go_wp2_with fail
      refine (HI.out _).mono ?_
      rintro e w3 ⟨rfl, hb3⟩
      have U3 := gr_trans U2 hb3
      have Y3 := Y2.next hb3; have N3 := N2.next hb3
      clear x0 x1 x2 x3 U2 Y2 N2 hb3 HI
      obtain ⟨_, x0, x1, x2, x3, _⟩ := id N3
      obtain ⟨_, y0, y1, y2, y3, _⟩ := id Y3
      have hee := eqF_4 n0 n1 n2 n3
      go_wp2_with fail
      go_ret
      exact ⟨rfl, U3⟩
  · obtain ⟨rfl, rfl, rfl, rfl⟩ := hQ.out.1 hk
    have hkb : (k1 == 0) = false := by simpa using hk
    have HN := hid hE.out.N
    clear hk hQ hE
    obtain ⟨_, x0, x1, x2, x3, _⟩ := id HN.out
    have hee := eqF_4 0 0 0 0
    go_wp2_with fail
    go_ret
    exact ⟨rfl, hcut0⟩

end Go.Proofs.Ytikmjefbjejbkaa

/- FnNormalForms, cut: the reducing matrix. -/
namespace Go.Proofs.Ytikmjefbjejbkaa
open Go.ChangeShapes Go.WideShapes Go.ChangeAt Go.RowKit

set_option maxRecDepth 1000000 in
set_option maxHeartbeats 8000000 in
theorem nseg114_any (w : World) (a0 : Option Addr) (len0 cap0 : Nat) (wc : World) (hcut0 : Below w.heap.size w wc) (jf jn jm : Nat) (a b c d n0 n1 n2 n3 m0 m1 m2 m3 : Int) (v8 : Value) (L : Nat) (G : Nat → Int) (k1 k2 k4 : Int) (hE : Hid (NfB wc jf jn jm a b c d n0 n1 n2 n3 m0 m1 m2 m3 v8 L G)) (hQ : Hid (NfQ n0 n1 n2 n3 k1)) (hQ4 : Hid (RmQ a b c d n0 n1 n2 n3 m0 m1 m2 m3 k1 k4)) (u1 u2 u6 u7 u10 u11 u12 u13 u14 u15 u16 u19 u20 u21 u22 u23 u24 u25 u26 u27 u28 u29 u30 u31 u32 u33 u34 u35 u36 u37 u38 u39 u40 u41 u42 u43 u44 u45 u46 u47 u48 u49 u50 u51 u52 u53 u54 u55 u56 u57 u58 u59 u60 u61 u62 u63 u64 u65 u66 u67 u68 u69 u70 u71 u72 u73 u74 u75 u76 u77 u78 u79 u80 u81 u82 u83 u84 u85 u86 u87 u88 u89 u90 u91 u92 u93 u94 u95 u96 u97 u98 u99 u100 u101 u102 u103 u104 u105 u106 u107 u108 u109 u110 u111 u112 u113 u114 u115 u116 u117 u118 u119 u120 u121 u122 u123 u124 u125 u126 u127 u128 u129 u130 u131 u132 u133 u134 u135 u136 u137 u138 u139 u140 u141 u142 u143 u144 u145 u146 u147 u148 u149 u150 u151 u152 u153 u154 u155 u156 u157 u158 u159 u160 u161 u162 u163 u164 u165 u166 u167 u168 u169 u170 u171 u172 u173 u174 u175 u176 u177 u178 u179 u180 u181 u182 u183 u184 u185 u186 u187 u188 u189 u190 u191 u192 u193 u194 u195 u196 u197 u198 u199 u200 u201 u202 u203 u204 u205 u206 u207 u208 u209 u210 u211 u212 u213 u214 u215 u216 u217 u218 u219 u220 u221 u222 u223 u224 u225 : Value) :
    Code.wp Try.prog (nseg 114) (bodyPost Try.prog Try.f5 fun e w' => e = .returned (.bool true) ∧ Below w.heap.size w w') ⟨#[.slice a0 len0 cap0, u1, u2, .pointer (some ⟨jf, 0, none⟩), .pointer (some ⟨jn, 0, none⟩), .int .i64 k1, u6, u7, v8, .int .i64 k2, u10, u11, u12, u13, u14, u15, u16, .pointer (some ⟨jm, 0, none⟩), .int .i64 k4, u19, u20, u21, u22, u23, u24, u25, u26, u27, u28, u29, u30, u31, u32, u33, u34, u35, u36, u37, u38, u39, u40, u41, u42, u43, u44, u45, u46, u47, u48, u49, u50, u51, u52, u53, u54, u55, u56, u57, u58, u59, u60, u61, u62, u63, u64, u65, u66, u67, u68, u69, u70, u71, u72, u73, u74, u75, u76, u77, u78, u79, u80, u81, u82, u83, u84, u85, u86, u87, u88, u89, u90, u91, u92, u93, u94, u95, u96, u97, u98, u99, u100, u101, u102, u103, u104, u105, u106, u107, u108, u109, u110, u111, u112, u113, u114, u115, u116, u117, u118, u119, u120, u121, u122, u123, u124, u125, u126, u127, u128, u129, u130, u131, u132, u133, u134, u135, u136, u137, u138, u139, u140, u141, u142, u143, u144, u145, u146, u147, u148, u149, u150, u151, u152, u153, u154, u155, u156, u157, u158, u159, u160, u161, u162, u163, u164, u165, u166, u167, u168, u169, u170, u171, u172, u173, u174, u175, u176, u177, u178, u179, u180, u181, u182, u183, u184, u185, u186, u187, u188, u189, u190, u191, u192, u193, u194, u195, u196, u197, u198, u199, u200, u201, u202, u203, u204, u205, u206, u207, u208, u209, u210, u211, u212, u213, u214, u215, u216, u217, u218, u219, u220, u221, u222, u223, u224, u225], []⟩ wc := by
  dsimp only
  conv => arg 2; whnf
  have heq := eqForm_run
  go_upto_region 31 with fail
  go_cut [164] (fun s164 wx => (∃ bq, s164 = .bool bq ∧ (bq = true → k4 = 0 ∧ k1 = 0)) ∧ wc = wx)
  case first =>
    by_cases hk : k4 = 0
    · have hkb4 : (k4 == 0) = true := by simpa using hk
      by_cases hk1 : k1 = 0
      · have hkb1 : (k1 == 0) = true := by simpa using hk1
        have HH := hid (And.intro hk hk1)
        clear hk hk1 hQ4 hQ hE
        go_wp2_with fail
        go_meet
        exact ⟨⟨_, rfl, fun _ => HH.out⟩, rfl⟩
      · have hkb1 : (k1 == 0) = false := by simpa using hk1
        clear hk hk1 hQ4 hQ hE
        go_wp2_with fail
        go_meet
        exact ⟨⟨_, rfl, fun h => Bool.noConfusion h⟩, rfl⟩
    · have hkb : (k4 == 0) = false := by simpa using hk
      clear hk hQ4 hQ hE
      go_wp2_with fail
      go_meet
      exact ⟨⟨_, rfl, fun h => Bool.noConfusion h⟩, rfl⟩
  case rest =>
    obtain ⟨⟨bq, rfl, hb⟩, rfl⟩ := hcut
    have HB := hid hb
    clear hb
    go_upto_if 164 with (fail)
    go_cut [] (fun wx => Hid (Below wc.heap.size wc wx))
    case first =>
      cases bq with
      | true =>
        obtain ⟨hk, hk1⟩ := HB.out rfl
        obtain ⟨hch, δ, hδ, hdt⟩ := hQ4.out hk hk1
        have HC := hid hch; have HD := hid hdt
        unfold ChC at HC
        unfold DtC at HD
        have HF := hid hE.out.F; have HN := hid hE.out.N; have HM := hid hE.out.M
        clear hE hQ hQ4 hch hdt hcut0 hk hk1 HB
        obtain ⟨_, x0, x1, x2, x3, _⟩ := id HF.out
        obtain ⟨_, y0, y1, y2, y3, _⟩ := id HM.out
        go_wp2_with fail
        refine (HC.out _).mono ?_
        rintro e w2 ⟨rfl, hb2⟩
        have U2 := gr_alloc hb2 (.cells #[.int .i64 n0, .int .i64 n1, .int .i64 n2, .int .i64 n3] 26)
        have Y2 := Arr.new w2 n0 n1 n2 n3 26
        have N2 := (HN.out.next hb2).alloc (.cells #[.int .i64 n0, .int .i64 n1, .int .i64 n2, .int .i64 n3] 26)
        have M2 := (HM.out.next hb2).alloc (.cells #[.int .i64 n0, .int .i64 n1, .int .i64 n2, .int .i64 n3] 26)
        clear HC x0 x1 x2 x3 y0 y1 y2 y3 HF HN HM hb2
        go_upto_region 33 with fail
        generalize w2.heap.size = j2 at *
        generalize w2.alloc (.cells #[.int .i64 n0, .int .i64 n1, .int .i64 n2, .int .i64 n3] 26) = W2 at U2 Y2 N2 M2 ⊢
        obtain ⟨_, y0, y1, y2, y3, _⟩ := id M2
        go_wp2_with fail
        refine (HD.out _).mono ?_
        rintro e w3 ⟨rfl, hb3⟩
        have U3 := gr_trans U2 hb3
        have Y3 := Y2.next hb3; have N3 := N2.next hb3
        clear y0 y1 y2 y3 U2 Y2 N2 M2 hb3 HD
        obtain ⟨_, x0, x1, x2, x3, _⟩ := id N3
        obtain ⟨_, y0, y1, y2, y3, _⟩ := id Y3
        have hee := eqF_4 n0 n1 n2 n3
        rcases hδ with rfl | rfl
        all_goals
          go_wp2_with fail
          go_meet
          exact hid U3
      | false =>
        clear HB hQ4 hQ hE
        go_wp2_with fail
        go_meet
        exact hid (Below.refl _ _)
    case rest =>
      have B2 := hcut.out
      go_step
      exact nseg164_any w a0 len0 cap0 _ (gr_trans hcut0 B2) jf jn jm a b c d n0 n1 n2 n3 m0 m1 m2 m3 v8 L G k1 k2 k4 (hid (hE.out.next B2)) hQ _ _ _ _ _ _ _ _ _ _ _ _ _ _ _ _ _ _ _ _ _ _ _ _ _ _ _ _ _ _ _ _ _ _ _ _ _ _ _ _ _ _ _ _ _ _ _ _ _ _ _ _ _ _ _ _ _ _ _ _ _ _ _ _ _ _ _ _ _ _ _ _ _ _ _ _ _ _ _ _ _ _ _ _ _ _ _ _ _ _ _ _ _ _ _ _ _ _ _ _ _ _ _ _ _ _ _ _ _ _ _ _ _ _ _ _ _ _ _ _ _ _ _ _ _ _ _ _ _ _ _ _ _ _ _ _ _ _ _ _ _ _ _ _ _ _ _ _ _ _ _ _ _ _ _ _ _ _ _ _ _ _ _ _ _ _ _ _ _ _ _ _ _ _ _ _ _ _ _ _ _ _ _ _ _ _ _ _ _ _ _ _ _ _ _ _ _ _ _ _ _ _ _ _ _ _ _ _ _ _ _ _ _ _ _ _ _ _

end Go.Proofs.Ytikmjefbjejbkaa

/- FnNormalForms, cut: reduced forms. -/
namespace Go.Proofs.Ytikmjefbjejbkaa
open Go.ChangeShapes Go.WideShapes Go.ChangeAt Go.RowKit

set_option maxRecDepth 1000000 in
set_option maxHeartbeats 8000000 in
theorem nseg112_any (w : World) (a0 : Option Addr) (len0 cap0 : Nat) (wc : World) (hcut0 : Below w.heap.size w wc) (jf jn jm : Nat) (a b c d n0 n1 n2 n3 m0 m1 m2 m3 : Int) (v8 : Value) (L : Nat) (G : Nat → Int) (k1 k2 k4 : Int) (hE : Hid (NfB wc jf jn jm a b c d n0 n1 n2 n3 m0 m1 m2 m3 v8 L G)) (hQ : Hid (NfQ n0 n1 n2 n3 k1)) (hQ4 : Hid (RmQ a b c d n0 n1 n2 n3 m0 m1 m2 m3 k1 k4)) (hQ2 : Hid (RfQ a b c d n0 n1 n2 n3 k1 k2 L G)) (u1 u2 u6 u7 u10 u11 u12 u13 u14 u15 u16 u19 u20 u21 u22 u23 u24 u25 u26 u27 u28 u29 u30 u31 u32 u33 u34 u35 u36 u37 u38 u39 u40 u41 u42 u43 u44 u45 u46 u47 u48 u49 u50 u51 u52 u53 u54 u55 u56 u57 u58 u59 u60 u61 u62 u63 u64 u65 u66 u67 u68 u69 u70 u71 u72 u73 u74 u75 u76 u77 u78 u79 u80 u81 u82 u83 u84 u85 u86 u87 u88 u89 u90 u91 u92 u93 u94 u95 u96 u97 u98 u99 u100 u101 u102 u103 u104 u105 u106 u107 u108 u109 u110 u111 u112 u113 u114 u115 u116 u117 u118 u119 u120 u121 u122 u123 u124 u125 u126 u127 u128 u129 u130 u131 u132 u133 u134 u135 u136 u137 u138 u139 u140 u141 u142 u143 u144 u145 u146 u147 u148 u149 u150 u151 u152 u153 u154 u155 u156 u157 u158 u159 u160 u161 u162 u163 u164 u165 u166 u167 u168 u169 u170 u171 u172 u173 u174 u175 u176 u177 u178 u179 u180 u181 u182 u183 u184 u185 u186 u187 u188 u189 u190 u191 u192 u193 u194 u195 u196 u197 u198 u199 u200 u201 u202 u203 u204 u205 u206 u207 u208 u209 u210 u211 u212 u213 u214 u215 u216 u217 u218 u219 u220 u221 u222 u223 u224 u225 : Value) :
    Code.wp Try.prog (nseg 112) (bodyPost Try.prog Try.f5 fun e w' => e = .returned (.bool true) ∧ Below w.heap.size w w') ⟨#[.slice a0 len0 cap0, u1, u2, .pointer (some ⟨jf, 0, none⟩), .pointer (some ⟨jn, 0, none⟩), .int .i64 k1, u6, u7, v8, .int .i64 k2, u10, u11, u12, u13, u14, u15, u16, .pointer (some ⟨jm, 0, none⟩), .int .i64 k4, u19, u20, u21, u22, u23, u24, u25, u26, u27, u28, u29, u30, u31, u32, u33, u34, u35, u36, u37, u38, u39, u40, u41, u42, u43, u44, u45, u46, u47, u48, u49, u50, u51, u52, u53, u54, u55, u56, u57, u58, u59, u60, u61, u62, u63, u64, u65, u66, u67, u68, u69, u70, u71, u72, u73, u74, u75, u76, u77, u78, u79, u80, u81, u82, u83, u84, u85, u86, u87, u88, u89, u90, u91, u92, u93, u94, u95, u96, u97, u98, u99, u100, u101, u102, u103, u104, u105, u106, u107, u108, u109, u110, u111, u112, u113, u114, u115, u116, u117, u118, u119, u120, u121, u122, u123, u124, u125, u126, u127, u128, u129, u130, u131, u132, u133, u134, u135, u136, u137, u138, u139, u140, u141, u142, u143, u144, u145, u146, u147, u148, u149, u150, u151, u152, u153, u154, u155, u156, u157, u158, u159, u160, u161, u162, u163, u164, u165, u166, u167, u168, u169, u170, u171, u172, u173, u174, u175, u176, u177, u178, u179, u180, u181, u182, u183, u184, u185, u186, u187, u188, u189, u190, u191, u192, u193, u194, u195, u196, u197, u198, u199, u200, u201, u202, u203, u204, u205, u206, u207, u208, u209, u210, u211, u212, u213, u214, u215, u216, u217, u218, u219, u220, u221, u222, u223, u224, u225], []⟩ wc := by
  conv => arg 2; whnf
  have heq := eqForm_run
  go_upto_if 114 with (fail)
  go_cut [] (fun wx => Hid (Below wc.heap.size wc wx))
  case first =>
    by_cases hk : k2 = 0
    · obtain ⟨hk1, D, hD, hL, hg, hds⟩ := hQ2.out hk
      subst hk; subst hk1
      obtain ⟨bl, cpl, hvl, hc1, hc2, hat⟩ := rdX_at hE.out.V hL
      subst hvl
      unfold maxLen at hc2
      have HAT := hid hat
      have HD := hid hD
      unfold DsC at HD
      have HDS := hid hds
      have HG := hid hg
      have HF := hid hE.out.F; have HN := hid hE.out.N
      clear hE hQ hQ4 hQ2 hat hD hds hg hcut0
      have hL0 : (0 : Int) < (L : Int) := by omega
      have hLe : ((L : Int) == 0) = false := by have : (L : Int) ≠ 0 := (by omega); simpa using this
      obtain ⟨_, x0, x1, x2, x3, _⟩ := id HF.out
      go_wp2_with fail
      refine (HD.out _).mono ?_
      rintro e w2 ⟨rfl, hb2⟩
      have U2 := hb2
      have Y2 := (HAT.out 0 hL).next hb2 (HAT.out 0 hL).lt
      rw [HG.out.1, HG.out.2.1, HG.out.2.2.1, HG.out.2.2.2] at Y2
      simp only [Nat.zero_mul] at Y2
      have N2 := HN.out.next hb2
      clear HD x0 x1 x2 x3 hb2 HF HG
      have hee := eqF_4 n0 n1 n2 n3
      obtain ⟨_, y0, y1, y2, y3⟩ := id Y2
      simp only [Nat.zero_add] at y1 y2 y3
      obtain ⟨_, t0, t1, t2, t3, _⟩ := id N2
      go_upto_region 23 with fail
      go_quiet (fail)
      clear y0 y1 y2 y3 t0 t1 t2 t3 Y2 N2
      have U3 := gr_drewN U2 nq
      generalize w2.drewN nq = w3 at U3 ⊢
      clear U2
      go_wp2_with fail
      go_loopw [23] (fun s23 wr => ∃ k : Nat, s23 = .int .i64 ((k : Int)) ∧ k ≤ L ∧ Below wc.heap.size wc wr) (fun s23 _ => L - (intOf s23).toNat)
      case atStart => exact ⟨0, rfl, Nat.zero_le _, U3⟩
      case round =>
        obtain ⟨k, rfl, hk, hB⟩ := hrel
        by_cases hlt : k < L
        · have e2 : decide ((k : Int) < (L : Int)) = true := by simp; omega
          have hk0 : (0 : Int) ≤ (k : Int) := by omega
          have hkn : (k : Int) < (L : Int) := by omega
          have Y0 := (HAT.out k hlt).next hB (HAT.out k hlt).lt
          have HDk := hid (HDS.out k hlt)
          generalize G (k * 4) = y0 at Y0 HDk
          generalize G (k * 4 + 1) = y1 at Y0 HDk
          generalize G (k * 4 + 2) = y2 at Y0 HDk
          generalize G (k * 4 + 3) = y3 at Y0 HDk
          unfold DsC at HDk
          obtain ⟨_, c0, c1, c2, c3⟩ := id Y0
          go_wp2_with fail
          refine (HDk.out _).mono ?_
          rintro e w5 ⟨rfl, hb5⟩
          have B5 := gr_trans hB hb5
          clear c0 c1 c2 c3 Y0 hb5 hB HDk
          go_wp2_with fail
          refine ⟨⟨k + 1, by go_num, by omega, B5⟩, ?_⟩
          simp only [intOf]
          omega
        · have e2 : decide ((k : Int) < (L : Int)) = false := by simp; omega
          go_wp2_with fail
          go_meet
          exact hid hB
    · have hkb : (k2 == 0) = false := by simpa using hk
      clear hk hQ4 hQ2 hQ hE
      go_wp2_with fail
      go_meet
      exact hid (Below.refl _ _)
  case rest =>
    have B2 := hcut.out
    go_step
    exact nseg114_any w a0 len0 cap0 _ (gr_trans hcut0 B2) jf jn jm a b c d n0 n1 n2 n3 m0 m1 m2 m3 v8 L G k1 k2 k4 (hid (hE.out.next B2)) hQ hQ4 _ _ _ _ _ _ _ _ _ _ _ _ _ _ _ _ _ _ _ _ _ _ _ _ _ _ _ _ _ _ _ _ _ _ _ _ _ _ _ _ _ _ _ _ _ _ _ _ _ _ _ _ _ _ _ _ _ _ _ _ _ _ _ _ _ _ _ _ _ _ _ _ _ _ _ _ _ _ _ _ _ _ _ _ _ _ _ _ _ _ _ _ _ _ _ _ _ _ _ _ _ _ _ _ _ _ _ _ _ _ _ _ _ _ _ _ _ _ _ _ _ _ _ _ _ _ _ _ _ _ _ _ _ _ _ _ _ _ _ _ _ _ _ _ _ _ _ _ _ _ _ _ _ _ _ _ _ _ _ _ _ _ _ _ _ _ _ _ _ _ _ _ _ _ _ _ _ _ _ _ _ _ _ _ _ _ _ _ _ _ _ _ _ _ _ _ _ _ _ _ _ _ _ _ _ _ _ _ _ _ _ _ _ _ _ _ _ _

end Go.Proofs.Ytikmjefbjejbkaa
