/- Several texts in one: XQu0, XQu1. -/
import Derived.Test.YtehbkmohfipmgaaBtQt0
import Derived.Test.YtehbkmohfipmgaaBtWb
import Derived.Test.YtehbkmohfipmgaaBtZm
import Derived.Test.YtehbkmohfipmgaaBtZ13
import Derived.Test.YtehbkmohfipmgaaBtZ1
import Derived.Deep.DeepCutAuto
import Derived.Deep.RegionHeld3

/- FnQuadratics: facts of the contracts. -/
namespace Go.Proofs.Ytehbkmohfipmgaa
open Go.RowKit

def QdC (p q r D : Int) : Prop := ∀ W : World, Calls Try.prog 20 #[.agg #[.int .i64 p, .int .i64 q, .int .i64 r]] W fun e w' => e = .returned (.tuple #[.int .i64 D, .int .i64 0]) ∧ Below W.heap.size W w'
def ClC (D : Int) (n : Nat) (g : Nat → Int) : Prop := ∀ W : World, Calls Try.prog 15 #[.int .i64 D] W fun e w' => ∃ v, e = .returned (.tuple #[v, .int .i64 0]) ∧ OwnU W.heap.size w' v n g ∧ Below W.heap.size W w'
def CqC (a b c x y z p q r : Int) : Prop := ∀ W : World, Calls Try.prog 7 #[.agg #[.int .i64 a, .int .i64 b, .int .i64 c], .agg #[.int .i64 x, .int .i64 y, .int .i64 z]] W fun e w' => e = .returned (.tuple #[.agg #[.int .i64 p, .int .i64 q, .int .i64 r], .int .i64 0]) ∧ Below W.heap.size W w'
theorem qdC_of {p q r D : Int} (hQ : isQ p q r = true) (hM : isM p q r = true) (h : dq p q r = D) : QdC p q r D := fun W => by
  have k := iQDisc_any p q r W
  obtain ⟨⟨a1, a2⟩, ⟨b1, b2⟩, c1, c2⟩ := isM_t hM
  have hn : isN p q r = true := by simp [isN, rng]; omega
  have hc : qcd p q r = 0 := by unfold qcd; rw [if_pos hQ, if_pos hn]
  rw [hc, h] at k
  exact k
theorem df_M {p q r : Int} (h : df10 p q r = true) : isM p q r = true := by
  simp only [df10, Bool.and_eq_true] at h
  exact h.1
/-- The order divides the number of classes. -/
def QuQ5 (u0 u1 u2 o k : Int) : Prop := k = 0 → ∃ (D : Int) (N : Nat) (G : Nat → Int), QdC u0 u1 u2 D ∧ ClC D N G ∧ 1 ≤ o ∧ o ≤ 9000000 ∧ Int.tmod (N : Int) o = 0
theorem clC_of {D : Int} (hD : dcl D = true) : ClC D (cls D).length (fun i => ((cls D).flatMap qi3).getD i 0) := fun W => by
  have k := iClassesOf_any D W
  unfold QlsOut at k
  rw [hD] at k
  exact k
theorem quQ5 (a b c : Int) : QuQ5 a b c (odv a b c) (dc1 a b c) := fun h => by
  obtain ⟨hQ, hdf⟩ := dc1_0.1 h
  obtain ⟨k1, k2, _, _, k5⟩ := el_red hdf
  obtain ⟨_, _, o3⟩ := od_spec k1
  have hng := k1.ng
  have hb : (-dsq (a, b, c) + 1) * (2 * -dsq (a, b, c) + 1) ≤ 2001 * 4001 := Int.mul_le_mul (by omega) (by omega) (by omega) (by omega)
  refine ⟨dsq (a, b, c), _, _, qdC_of hQ (df_M hdf) k5, clC_of (el_dcl k1 k2), ?_⟩
  unfold odv
  rw [if_pos h]
  refine ⟨by omega, by omega, ?_⟩
  have hd := od_dvd k1
  have hd2 : ((od (dsq (a, b, c)) (red (a, b, c)) : Int) + 1) ∣ ((cls (dsq (a, b, c))).length : Int) := by exact_mod_cast hd
  exact Int.tmod_eq_zero_of_dvd hd2
/-- The first class is the unit. -/
def QuQ4 (L : Nat) (G : Nat → Int) (k : Int) : Prop := k = 0 → ∃ l : Nat, L = l + 1 ∧ L ≤ 1000 ∧ G (0 * 3) = 1 ∧ CqC (G (0 * 3)) (G (0 * 3 + 1)) (G (0 * 3 + 2)) (G (l * 3)) (G (l * 3 + 1)) (G (l * 3 + 2)) (G (l * 3)) (G (l * 3 + 1)) (G (l * 3 + 2))
theorem quQ4 (d : Int) : QuQ4 (if (if dcl d then (0 : Int) else 2) = 0 then (cls d).length else 0) (fun i => ((cls d).flatMap qi3).getD i 0) (if dcl d then 0 else 2) := fun h => by
  have h9 := cls_le d
  rw [if_pos h] at h9 ⊢
  have hd : dcl d = true := by
    cases e : dcl d with
    | true => rfl
    | false => rw [e] at h; simp at h
  obtain ⟨⟨d1, d2⟩, d3⟩ := dcl_t hd
  have hn : d < 0 := by omega
  obtain ⟨rest, hr⟩ := cls_head hn d3
  have hl : (cls d).length = rest.length + 1 := by rw [hr]; rfl
  have h0 : (cls d)[0]? = some (un d) := by rw [hr]; rfl
  have hlt : rest.length < (cls d).length := by omega
  have hlast : (cls d)[rest.length]? = some (cls d)[rest.length] := List.getElem?_eq_getElem hlt
  have hel := cls_el hn _ (List.getElem_mem hlt)
  have hun := un_el hn d3
  generalize (cls d)[rest.length] = c at hlast hel
  obtain ⟨f1, f2, f3⟩ := at_flat (cls d) 0 _ h0
  obtain ⟨g1, g2, g3⟩ := at_flat (cls d) rest.length _ hlast
  refine ⟨rest.length, hl, h9, ?_⟩
  dsimp only
  rw [f1, f2, f3, g1, g2, g3]
  refine ⟨rfl, fun W => ?_⟩
  have k := iCompQ_any (un d).1 (un d).2.1 (un d).2.2 c.1 c.2.1 c.2.2 W
  obtain ⟨⟨u1, u2⟩, _, u3, _, u5⟩ := el_dc hun d1
  obtain ⟨⟨c1, c2⟩, _, c3, _, c5⟩ := el_dc hel d1
  have hdc : dc2 (un d).1 (un d).2.1 (un d).2.2 c.1 c.2.1 c.2.2 = 0 := dc2_0.2 ⟨⟨u1, c1⟩, u2, c2, by rw [u5, c5]⟩
  have hcp : cpq (un d).1 (un d).2.1 (un d).2.2 c.1 c.2.1 c.2.2 = c := by
    unfold cpq
    rw [if_pos hdc]
    show cp (red (un d)) (red c) = c
    rw [u3, c3]
    exact un_cp hel
  rw [hdc, hcp] at k
  exact k
/-- Definite forms are those that are reduced. -/
theorem quQ3 (a b c : Int) : (isQ a b c && df10 a b c) = decide (dc1 a b c = 0) := by
  rw [Bool.eq_iff_iff, decide_eq_true_iff, dc1_0, Bool.and_eq_true]
/-- Compositions do not depend on the order. -/
def QuQ1 (a b c x y z p q r k : Int) : Prop := (k ≠ 0 → p = 0 ∧ q = 0 ∧ r = 0) ∧ (k = 0 → CqC x y z a b c p q r ∧ ∃ D, QdC a b c D ∧ QdC p q r D)
theorem quQ1 (a b c x y z : Int) : QuQ1 a b c x y z (cpq a b c x y z).1 (cpq a b c x y z).2.1 (cpq a b c x y z).2.2 (dc2 a b c x y z) := by
  refine ⟨fun h => ?_, fun h => ?_⟩
  · unfold cpq
    rw [if_neg h]
    exact ⟨rfl, rfl, rfl⟩
  · obtain ⟨⟨h1, h2⟩, h3, h4, h5⟩ := dc2_0.1 h
    obtain ⟨k1, k2, _, _, k5⟩ := el_red h3
    obtain ⟨l1, _, _, _, l5⟩ := el_red h4
    have e : dsq (x, y, z) = dsq (a, b, c) := by rw [← k5, ← l5]; exact h5
    rw [e] at l1
    have h' : dc2 x y z a b c = 0 := dc2_0.2 ⟨⟨h2, h1⟩, h4, h3, h5.symm⟩
    have e1 : cpq a b c x y z = cp (red (a, b, c)) (red (x, y, z)) := if_pos h
    have e2 : cpq x y z a b c = cpq a b c x y z := by
      rw [e1]
      unfold cpq
      rw [if_pos h']
      exact El.comm l1 k1
    have hel := (k1.comp l1).1
    rw [← e1] at hel
    obtain ⟨⟨m1, m2⟩, _, _, _, m5⟩ := el_dc hel k2
    refine ⟨fun W => ?_, dsq (a, b, c), qdC_of h1 (df_M h3) k5, qdC_of m1 (df_M m2) m5⟩
    have k := iCompQ_any x y z a b c W
    rw [h', e2] at k
    exact k

end Go.Proofs.Ytehbkmohfipmgaa

/- FnQuadratics, cut: the facts that its pieces carry; the code behind an 'if'. -/
namespace Go.Proofs.Ytehbkmohfipmgaa
open Go.ChangeShapes Go.WideShapes Go.ChangeAt Go.RowKit

def hasCondQ (t : Nat) : Code → Bool
  | .cond (.tmp k) _ _ => k == t
  | .seq a b => hasCondQ t a || hasCondQ t b
  | .block _ c => hasCondQ t c
  | _ => false
def afterQ (t : Nat) : Code → Code
  | .seq a b => if hasCondQ t a then b else afterQ t b
  | .scope c => afterQ t c
  | _ => .skip
noncomputable def useg (t : Nat) : Code := afterQ t (Try.f3.body.getD .skip)
structure QuB (w : World) (jq js jc ju : Nat) (a b c x y z p q r s0 s1 s2 : Int) (v : Value) (L : Nat) (G : Nat → Int) : Prop where
  A : Arr3 w jq a b c
  X : Arr3 w js x y z
  P : Arr3 w jc p q r
  U : Arr3 w ju s0 s1 s2
  V : RdU w v L G
theorem QuB.next {w w' : World} {jq js jc ju : Nat} {a b c x y z p q r s0 s1 s2 : Int} {v : Value} {L : Nat} {G : Nat → Int} (h : QuB w jq js jc ju a b c x y z p q r s0 s1 s2 v L G) (hb : Below w.heap.size w w') : QuB w' jq js jc ju a b c x y z p q r s0 s1 s2 v L G := ⟨h.A.next hb, h.X.next hb, h.P.next hb, h.U.next hb, h.V.next9 hb⟩
theorem Arr3.elimu {G : Prop} {w : World} {k : Nat} (h : Arr3 w k 0 0 0) (K : Arr3 w k 0 0 0 → G) : G := K h
theorem At3.othE {w : World} {b o : Nat} {x y z : Int} (h : At3 w b o x y z) {p : Addr} (hp : b ≠ p.block) (v : Value) : At3 (w.setCell p v) b o x y z := by
  have ne : ∀ u, p ≠ (⟨b, u, none⟩ : Addr) := fun u e => hp (by rw [e])
  exact ⟨by rw [World.size_setCell]; exact h.lt, (World.cell?_setCell_other _ _ _ _ (ne _)).trans h.c0, (World.cell?_setCell_other _ _ _ _ (ne _)).trans h.c1, (World.cell?_setCell_other _ _ _ _ (ne _)).trans h.c2⟩
theorem At3.oth3E {w : World} {b o i : Nat} {x y z : Int} (h : At3 w b o x y z) (hne : b ≠ i) (p q r : Value) : At3 (((w.setCell ⟨i, 0, none⟩ p).setCell ⟨i, 1, none⟩ q).setCell ⟨i, 2, none⟩ r) b o x y z :=
  ((h.othE (p := ⟨i, 0, none⟩) hne p).othE (p := ⟨i, 1, none⟩) hne q).othE (p := ⟨i, 2, none⟩) hne r
theorem cells6u {W : World} {i b : Nat} {a b' c x y z : Int} (A : Arr3 W i a b' c) (B : At3 W b 0 x y z) :
    W.cell? ⟨i, 0, none⟩ = some (.int .i64 a) ∧ W.cell? ⟨i, 1, none⟩ = some (.int .i64 b') ∧ W.cell? ⟨i, 2, none⟩ = some (.int .i64 c) ∧ W.cell? ⟨b, 0, none⟩ = some (.int .i64 x) ∧ W.cell? ⟨b, 1, none⟩ = some (.int .i64 y) ∧ W.cell? ⟨b, 2, none⟩ = some (.int .i64 z) :=
  ⟨A.c0, A.c1, A.c2, B.c0, B.c1, B.c2⟩
set_option maxRecDepth 1000000 in
set_option maxHeartbeats 8000000 in
theorem useg213_any (w : World) (a0 : Option Addr) (len0 cap0 : Nat) (wc : World) (hcut0 : Below w.heap.size w wc) (jq js jc ju : Nat) (a b c x y z p q r s0 s1 s2 : Int) (v19 : Value) (L : Nat) (G : Nat → Int) (k1 k2 k3 k4 k5 d o : Int) (df : Bool) (hE : Hid (QuB wc jq js jc ju a b c x y z p q r s0 s1 s2 v19 L G)) (hQ1 : Hid (QuQ1 a b c x y z p q r k1)) (u1 u2 u7 u8 u10 u12 u13 u16 u17 u21 u22 u25 u26 u27 u28 u29 u30 u31 u32 u33 u34 u35 u36 u37 u38 u39 u40 u41 u42 u43 u44 u45 u46 u47 u48 u49 u50 u51 u52 u53 u54 u55 u56 u57 u58 u59 u60 u61 u62 u63 u64 u65 u66 u67 u68 u69 u70 u71 u72 u73 u74 u75 u76 u77 u78 u79 u80 u81 u82 u83 u84 u85 u86 u87 u88 u89 u90 u91 u92 u93 u94 u95 u96 u97 u98 u99 u100 u101 u102 u103 u104 u105 u106 u107 u108 u109 u110 u111 u112 u113 u114 u115 u116 u117 u118 u119 u120 u121 u122 u123 u124 u125 u126 u127 u128 u129 u130 u131 u132 u133 u134 u135 u136 u137 u138 u139 u140 u141 u142 u143 u144 u145 u146 u147 u148 u149 u150 u151 u152 u153 u154 u155 u156 u157 u158 u159 u160 u161 u162 u163 u164 u165 u166 u167 u168 u169 u170 u171 u172 u173 u174 u175 u176 u177 u178 u179 u180 u181 u182 u183 u184 u185 u186 u187 u188 u189 u190 u191 u192 u193 u194 u195 u196 u197 u198 u199 u200 u201 u202 u203 u204 u205 u206 u207 u208 u209 u210 u211 u212 u213 u214 u215 u216 u217 u218 u219 u220 u221 u222 u223 u224 u225 u226 u227 u228 u229 u230 u231 u232 u233 u234 u235 u236 u237 u238 u239 u240 u241 u242 u243 u244 u245 u246 u247 u248 u249 u250 u251 u252 u253 u254 : Value) :
    Code.wp Try.prog (useg 213) (bodyPost Try.prog Try.f3 fun e w' => e = .returned (.bool true) ∧ Below w.heap.size w w') ⟨#[.slice a0 len0 cap0, u1, u2, .pointer (some ⟨jq, 0, none⟩), .pointer (some ⟨js, 0, none⟩), .pointer (some ⟨jc, 0, none⟩), .int .i64 k1, u7, u8, .pointer (some ⟨ju, 0, none⟩), u10, .int .i64 k2, u12, u13, .bool df, .int .i64 k3, u16, u17, .int .i64 d, v19, .int .i64 k4, u21, u22, .int .i64 o, .int .i64 k5, u25, u26, u27, u28, u29, u30, u31, u32, u33, u34, u35, u36, u37, u38, u39, u40, u41, u42, u43, u44, u45, u46, u47, u48, u49, u50, u51, u52, u53, u54, u55, u56, u57, u58, u59, u60, u61, u62, u63, u64, u65, u66, u67, u68, u69, u70, u71, u72, u73, u74, u75, u76, u77, u78, u79, u80, u81, u82, u83, u84, u85, u86, u87, u88, u89, u90, u91, u92, u93, u94, u95, u96, u97, u98, u99, u100, u101, u102, u103, u104, u105, u106, u107, u108, u109, u110, u111, u112, u113, u114, u115, u116, u117, u118, u119, u120, u121, u122, u123, u124, u125, u126, u127, u128, u129, u130, u131, u132, u133, u134, u135, u136, u137, u138, u139, u140, u141, u142, u143, u144, u145, u146, u147, u148, u149, u150, u151, u152, u153, u154, u155, u156, u157, u158, u159, u160, u161, u162, u163, u164, u165, u166, u167, u168, u169, u170, u171, u172, u173, u174, u175, u176, u177, u178, u179, u180, u181, u182, u183, u184, u185, u186, u187, u188, u189, u190, u191, u192, u193, u194, u195, u196, u197, u198, u199, u200, u201, u202, u203, u204, u205, u206, u207, u208, u209, u210, u211, u212, u213, u214, u215, u216, u217, u218, u219, u220, u221, u222, u223, u224, u225, u226, u227, u228, u229, u230, u231, u232, u233, u234, u235, u236, u237, u238, u239, u240, u241, u242, u243, u244, u245, u246, u247, u248, u249, u250, u251, u252, u253, u254], []⟩ wc := by
  conv => arg 2; whnf
  have heq := eqQ_run
  by_cases hk : k1 = 0
  · obtain ⟨hcc, D, hd1, hd2⟩ := hQ1.out.2 hk
    subst hk
    have HC := hid hcc; have HD1 := hid hd1; have HD2 := hid hd2
    unfold CqC at HC
    unfold QdC at HD1 HD2
    have HA := hid hE.out.A; have HX := hid hE.out.X; have HP := hid hE.out.P
    clear hcc hd1 hd2 hE hQ1
    obtain ⟨_, x0, x1, x2, _⟩ := id HA.out
    obtain ⟨_, y0, y1, y2, _⟩ := id HX.out
    go_wp2_with fail
    refine (HC.out _).mono ?_
    rintro e w2 ⟨rfl, hb2⟩
    have U2 := gr_alloc (gr_trans hcut0 hb2) (.cells #[.int .i64 p, .int .i64 q, .int .i64 r] 25)
    have Y2 := Arr3.new w2 p q r 25
    have A2 := (HA.out.next hb2).alloc (.cells #[.int .i64 p, .int .i64 q, .int .i64 r] 25)
    have P2 := (HP.out.next hb2).alloc (.cells #[.int .i64 p, .int .i64 q, .int .i64 r] 25)
    clear HC x0 x1 x2 y0 y1 y2 HA HX HP hb2 hcut0
    go_upto_region 43 with fail
    generalize w2.heap.size = j2 at *
    generalize w2.alloc (.cells #[.int .i64 p, .int .i64 q, .int .i64 r] 25) = W2 at U2 Y2 A2 P2 ⊢
    obtain ⟨_, x0, x1, x2, _⟩ := id A2
    go_wp2_with fail
    refine (HD1.out _).mono ?_
    rintro e w3 ⟨rfl, hb3⟩
    have U3 := gr_trans U2 hb3
    have Y3 := Y2.next hb3; have P3 := P2.next hb3
    clear x0 x1 x2 U2 Y2 A2 P2 hb3 HD1
    obtain ⟨_, x0, x1, x2, _⟩ := id P3
    go_wp2_with fail
    refine (HD2.out _).mono ?_
    rintro e w4 ⟨rfl, hb4⟩
    have U4 := gr_trans U3 hb4
    have Y4 := Y3.next hb4; have P4 := P3.next hb4
    clear x0 x1 x2 U3 Y3 P3 hb4 HD2
    obtain ⟨_, x0, x1, x2, _⟩ := id P4
    obtain ⟨_, y0, y1, y2, _⟩ := id Y4
    have hee := eqQ_3 p q r
    go_wp2_with fail
    go_ret
    exact ⟨rfl, U4⟩
  · obtain ⟨rfl, rfl, rfl⟩ := hQ1.out.1 hk
    have hkb : (k1 == 0) = false := by simpa using hk
    have HP := hid hE.out.P
    clear hk hQ1 hE
    obtain ⟨_, x0, x1, x2, _⟩ := id HP.out
    have hee := eqQ_3 0 0 0
    go_wp2_with fail
    go_ret
    exact ⟨rfl, hcut0⟩

end Go.Proofs.Ytehbkmohfipmgaa
