/- FnEquivalence: matrices between forms change one to the other one, equivalent forms have the same normal form, automorphisms are 1, 2, 3 or 6, at every code. No condition. -/
import Derived.Test.YtikmjefbjejbkaaBbClo
import Derived.Test.YtikmjefbjejbkaaWa3
import Derived.Deep.DeepCutAuto
namespace Go.Proofs.Ytikmjefbjejbkaa
open Go.ChangeShapes Go.WideShapes Go.ChangeAt Go.RowKit

set_option maxHeartbeats 400000 in
theorem big_any (a : Option Addr) (len cap : Nat) (w : World) :
    Calls Try.prog 19 #[.slice a len cap] w fun e w' => e = .returned (.bool (decide (4096 < (len : Int)))) ∧ w = w' := by
  go_enter Try.func19, Try.ntmps19
  go_wp2
  go_ret
  exact ⟨rfl, rfl⟩

set_option maxRecDepth 1000000 in
set_option maxHeartbeats 8000000 in
theorem FnEquivalence_walk (w : World) (a0 : Option Addr) (len0 cap0 : Nat) (z0 : List Int) (hR : IsRow .u8 w a0 len0 cap0 z0) :
    Calls Try.prog 6 #[.slice a0 len0 cap0] w fun e w' => e = .returned (.bool true) ∧ Below w.heap.size w w' := by
  have HR := hid hR
  clear hR
  by_cases hb : 4096 < (len0 : Int)
  · go_enter Try.func6, Try.ntmps6
    go_wp2_with (go_at_call 19; refine (big_any _ _ _ _).mono ?_; rintro e w1 ⟨rfl, rfl⟩)
    go_ret
    exact ⟨rfl, Below.refl _ _⟩
  have hlen : len0 ≤ 9223372036854775807 := by omega
  have hb' : decide (4096 < (len0 : Int)) = false := decide_eq_false hb
  have HB := hid hb'
  clear hb
  go_enter Try.func6, Try.ntmps6
  go_wp2_with (go_at_call 19; refine (big_any _ _ _ _).mono ?_; rintro e w1 ⟨rfl, rfl⟩)
  refine (drawMB_any a0 len0 cap0 z0 _ HR.out hlen).mono ?_
  rintro e w1 ⟨a, b, c, d, p, q, r, s, rfl, U1⟩
  have F2 := (Arr.new w1 a b c d 26).alloc (.cells #[.int .i64 p, .int .i64 q, .int .i64 r, .int .i64 s] 26)
  have G2 := Arr.new (w1.alloc (.cells #[.int .i64 a, .int .i64 b, .int .i64 c, .int .i64 d] 26)) p q r s 26
  simp only [World.size_alloc] at G2
  have U2 := gr_alloc (gr_alloc U1 (.cells #[.int .i64 a, .int .i64 b, .int .i64 c, .int .i64 d] 26)) (.cells #[.int .i64 p, .int .i64 q, .int .i64 r, .int .i64 s] 26)
  have Q6 := hid (evQ3 a b c d p q r s)
  have c1 := fun W => iMatBetween_any a b c d p q r s W
  have c2 := fun W => sMatBetween_any a b c d p q r s W
  unfold MbOut FlsOut at c1 c2
  generalize (if mbc a b c d p q r s = 0 then (mbt (a, b, c, d) (p, q, r, s)).length else 0) = n at c1 c2 Q6
  generalize (fun i => ((mbt (a, b, c, d) (p, q, r, s)).flatMap gm4).getD i 0) = G at c1 c2 Q6
  generalize mbc a b c d p q r s = k6 at c1 c2 Q6
  have C1 := hid c1; have C2 := hid c2
  clear c1 c2 U1
  go_upto_region 4 with fail
  obtain ⟨jf, hjf⟩ : ∃ j, j = w1.heap.size := ⟨_, rfl⟩
  obtain ⟨jg, hjg⟩ : ∃ j, j = w1.heap.size + 1 := ⟨_, rfl⟩
  rw [← hjf] at F2
  rw [← hjg] at G2
  rw [← hjg, ← hjf]
  generalize (w1.alloc (.cells #[.int .i64 a, .int .i64 b, .int .i64 c, .int .i64 d] 26)).alloc (.cells #[.int .i64 p, .int .i64 q, .int .i64 r, .int .i64 s] 26) = W2 at F2 G2 U2 ⊢
  clear hjf hjg
  obtain ⟨_, x0, x1, x2, x3, _⟩ := id F2
  obtain ⟨_, y0, y1, y2, y3, _⟩ := id G2
  go_wp2_with fail
  refine (C1.out _).mono ?_
  rintro e w3 ⟨v5, rfl, hv5, hb3⟩
  have F3 := F2.next hb3; have G3 := G2.next hb3; have U3 := gr_trans U2 hb3
  have V3 := hid hv5.rd
  clear x0 x1 x2 x3 y0 y1 y2 y3 F2 G2 U2 hb3 hv5 C1
  obtain ⟨_, x0, x1, x2, x3, _⟩ := id F3
  obtain ⟨_, y0, y1, y2, y3, _⟩ := id G3
  go_wp2_with fail
  refine (C2.out _).mono ?_
  rintro e w4 ⟨v7, rfl, hv7, hb4⟩
  have F4 := F3.next hb4; have G4 := G3.next hb4; have U4 := gr_trans U3 hb4
  have V4 := hid (V3.out.next9 hb4); have V4' := hid hv7.rd
  clear x0 x1 x2 x3 y0 y1 y2 y3 F3 G3 U3 V3 hb4 hv7 C2
  go_wp2_with fail
  refine (mxs9_any _ _ _ _ _ V4.out V4'.out).mono ?_
  rintro e w5 ⟨rfl, hb5⟩
  have E5 := hid (EvB.next ⟨F4, G4, V4.out⟩ hb5)
  have U5 := gr_trans U4 hb5
  have R5 := hid (row8_nx HR.out U5)
  clear F4 G4 U4 V4 V4' hb5
  go_wp2_with fail
  refine (drawAE_any a0 len0 cap0 z0 _ R5.out hlen).mono ?_
  rintro e w6 ⟨h0, h1, h2, h3, g0, g1, g2, g3, rfl, hb6⟩
  have H7 := (Arr.new w6 h0 h1 h2 h3 26).alloc (.cells #[.int .i64 g0, .int .i64 g1, .int .i64 g2, .int .i64 g3] 26)
  have K7 := Arr.new (w6.alloc (.cells #[.int .i64 h0, .int .i64 h1, .int .i64 h2, .int .i64 h3] 26)) g0 g1 g2 g3 26
  simp only [World.size_alloc] at K7
  have hb7 := gr_alloc (gr_alloc hb6 (.cells #[.int .i64 h0, .int .i64 h1, .int .i64 h2, .int .i64 h3] 26)) (.cells #[.int .i64 g0, .int .i64 g1, .int .i64 g2, .int .i64 g3] 26)
  have E7 := hid (E5.out.next hb7)
  have U7 := gr_trans U5 hb7
  have Q12 := hid (evQ1 h0 h1 h2 h3 g0 g1 g2 g3)
  have c1 := fun W => iAreEq_any h0 h1 h2 h3 g0 g1 g2 g3 W
  have c2 := fun W => sAreEq_any h0 h1 h2 h3 g0 g1 g2 g3 W
  generalize aeq h0 h1 h2 h3 g0 g1 g2 g3 = sb at c1 c2 Q12
  generalize rcd2 h0 h1 h2 h3 g0 g1 g2 g3 = k12 at c1 c2 Q12
  have C1 := hid c1; have C2 := hid c2
  clear c1 c2 E5 U5 hb6 hb7 R5
  go_upto_region 9 with fail
  obtain ⟨jh, hjh⟩ : ∃ j, j = w6.heap.size := ⟨_, rfl⟩
  obtain ⟨jk, hjk⟩ : ∃ j, j = w6.heap.size + 1 := ⟨_, rfl⟩
  rw [← hjh] at H7
  rw [← hjk] at K7
  rw [← hjk, ← hjh]
  generalize (w6.alloc (.cells #[.int .i64 h0, .int .i64 h1, .int .i64 h2, .int .i64 h3] 26)).alloc (.cells #[.int .i64 g0, .int .i64 g1, .int .i64 g2, .int .i64 g3] 26) = W7 at H7 K7 E7 U7 ⊢
  clear hjh hjk
  obtain ⟨_, x0, x1, x2, x3, _⟩ := id H7
  obtain ⟨_, y0, y1, y2, y3, _⟩ := id K7
  go_wp2_with fail
  refine (C1.out _).mono ?_
  rintro e w8 ⟨rfl, hb8⟩
  have H8 := H7.next hb8; have K8 := K7.next hb8; have E8 := hid (E7.out.next hb8); have U8 := gr_trans U7 hb8
  clear x0 x1 x2 x3 y0 y1 y2 y3 H7 K7 E7 U7 hb8 C1
  obtain ⟨_, x0, x1, x2, x3, _⟩ := id H8
  obtain ⟨_, y0, y1, y2, y3, _⟩ := id K8
  have hnn : (!sb == sb) = false := by cases sb <;> rfl
  go_wp2_with fail
  refine (C2.out _).mono ?_
  rintro e w9 ⟨rfl, hb9⟩
  have H9 := hid (H8.next hb9); have K9 := hid (K8.next hb9); have E9 := hid (E8.out.next hb9); have U9 := gr_trans U8 hb9
  have R9 := hid (row8_nx HR.out U9)
  clear x0 x1 x2 x3 y0 y1 y2 y3 H8 K8 E8 U8 hb9 C2
  go_wp2_with fail
  refine (drawAut_any a0 len0 cap0 z0 _ R9.out hlen).mono ?_
  rintro e w10 ⟨o0, o1, o2, o3, rfl, hb10⟩
  have O11 := Arr.new w10 o0 o1 o2 o3 26
  have hb11 := gr_alloc hb10 (.cells #[.int .i64 o0, .int .i64 o1, .int .i64 o2, .int .i64 o3] 26)
  have H11 := hid (H9.out.next hb11); have K11 := hid (K9.out.next hb11); have E11 := hid (E9.out.next hb11); have U11 := gr_trans U9 hb11
  have Q17 := hid (evQ2 o0 o1 o2 o3)
  have c1 := fun W => iAut_any o0 o1 o2 o3 W
  have c2 := fun W => sAut_any o0 o1 o2 o3 W
  unfold MbOut FlsOut at c1 c2
  generalize (if mbc o0 o1 o2 o3 o0 o1 o2 o3 = 0 then (mbt (o0, o1, o2, o3) (o0, o1, o2, o3)).length else 0) = m at c1 c2 Q17
  generalize (fun i => ((mbt (o0, o1, o2, o3) (o0, o1, o2, o3)).flatMap gm4).getD i 0) = F at c1 c2 Q17
  generalize mbc o0 o1 o2 o3 o0 o1 o2 o3 = k17 at c1 c2 Q17
  have C1 := hid c1; have C2 := hid c2
  clear c1 c2 H9 K9 E9 U9 hb10 hb11 R9
  go_upto_region 14 with fail
  obtain ⟨ju, hju⟩ : ∃ j, j = w10.heap.size := ⟨_, rfl⟩
  rw [← hju] at O11
  rw [← hju]
  generalize w10.alloc (.cells #[.int .i64 o0, .int .i64 o1, .int .i64 o2, .int .i64 o3] 26) = W11 at O11 H11 K11 E11 U11 ⊢
  clear hju
  obtain ⟨_, x0, x1, x2, x3, _⟩ := id O11
  go_wp2_with fail
  refine (C1.out _).mono ?_
  rintro e w12 ⟨v16, rfl, hv16, hb12⟩
  have O12 := O11.next hb12; have H12 := hid (H11.out.next hb12); have K12 := hid (K11.out.next hb12); have E12 := hid (E11.out.next hb12); have U12 := gr_trans U11 hb12
  have V12 := hid hv16.rd
  clear x0 x1 x2 x3 O11 H11 K11 E11 U11 hb12 hv16 C1
  obtain ⟨_, x0, x1, x2, x3, _⟩ := id O12
  go_wp2_with fail
  refine (C2.out _).mono ?_
  rintro e w13 ⟨v18, rfl, hv18, hb13⟩
  have O13 := O12.next hb13; have H13 := hid (H12.out.next hb13); have K13 := hid (K12.out.next hb13); have E13 := hid (E12.out.next hb13); have U13 := gr_trans U12 hb13
  have V13 := hid (V12.out.next9 hb13); have V13' := hid hv18.rd
  clear x0 x1 x2 x3 O12 H12 K12 E12 U12 V12 hb13 hv18 C2
  go_wp2_with fail
  refine (mxs9_any _ _ _ _ _ V13.out V13'.out).mono ?_
  rintro e w14 ⟨rfl, hb14⟩
  have O14 := hid (O13.next hb14); have H14 := hid (H13.out.next hb14); have K14 := hid (K13.out.next hb14); have E14 := hid (E13.out.next hb14); have U14 := gr_trans U13 hb14
  have V14 := hid (V13.out.next9 hb14)
  clear O13 H13 K13 E13 U13 V13 V13' hb14
  go_upto_if 103 with (fail)
  go_cut [] (fun wx => w14 = wx)
  case first =>
    go_wp2_with fail
    go_meet
    rfl
  case rest =>
    subst hcut
    go_step
    exact eseg103_any w a0 len0 cap0 _ U14 jf jg jh jk ju a b c d p q r s h0 h1 h2 h3 g0 g1 g2 g3 o0 o1 o2 o3 v5 v16 n m G F k6 k12 k17 sb E14 Q6 H14 K14 Q12 O14 V14 Q17 _ _ _ _ _ _ _ _ _ _ _ _ _ _ _ _ _ _ _ _ _ _ _ _ _ _ _ _ _ _ _ _ _ _ _ _ _ _ _ _ _ _ _ _ _ _ _ _ _ _ _ _ _ _ _ _ _ _ _ _ _ _ _ _ _ _ _ _ _ _ _ _ _ _ _ _ _ _ _ _ _ _ _ _ _ _ _ _ _ _ _ _ _ _ _ _ _ _ _ _ _ _ _ _ _ _ _ _ _ _ _ _ _ _ _ _ _ _ _ _ _ _ _ _ _ _ _ _ _ _ _ _ _ _ _ _ _ _ _ _ _ _ _ _ _ _ _ _ _ _ _ _ _ _ _ _ _ _ _ _ _ _ _ _ _ _ _ _ _ _ _ _ _ _ _ _ _ _ _ _ _ _ _ _ _ _ _ _ _ _ _

set_option maxRecDepth 100000 in
set_option maxHeartbeats 1000000 in
theorem FnEquivalence_lifted (os : Os) (started : os.Started) (H : Type) (enc : TypeId × Value → H) :
    ReturnsInHanded {} Try.checked os 6 .any (Rows.fnEquivalenceSpec.pre6 enc Try.prog Try.f6 Rows.fnEquivalenceRow.domain false) (Rows.fnEquivalenceSpec.post enc Try.prog Try.f6 false true false false) := by
  refine returnsInHanded_of_change (C := Try.checked) own started (by kernel_rfl) Try.func6
    (ChangeSpec.witness6 (enc := enc) (C := Try.checked) false ⟨#[], #[.slice none 0 0], []⟩ 8 (by kernel_rfl) (by kernel_rfl) (by kernel_rfl) (by kernel_rfl)) ?_
  intro W base args ds gs before hval0 hW hcnd _
  have hval : ∀ (j : Nat) t v, Try.f6.params[j]? = some t → args[j]? = some v → Value.okWide Try.prog W .any base t v := hval0
  have hW' := hW
  obtain ⟨p, q, hA0, hV, rfl, hfz, hnd⟩ := hW
  have hA : DataW.TrodAll enc Try.prog W 0 (fun _ => true) true Try.f6.params.toList args.toList ds p := hA0
  rw [Try.params6] at hA hval
  obtain ⟨v0, vs0, d0, ds0, p0, q0, hargs, rfl, rfl, h0, r0⟩ := trodAll_cons hA
  obtain ⟨rfl, rfl, rfl⟩ := trodAll_nil r0
  obtain rfl : args = #[v0] := by cases args; simp_all
  obtain ⟨rfl, rfl⟩ := trodVars_none hV
  have k0 := h0
  have lt0 : ∀ x ∈ p0, x.block < W.heap.size := by obtain ⟨m, hm⟩ := k0; exact DataW.trod_lt m _ _ _ hm
  obtain ⟨a0, len0, cap0, rfl⟩ := okWide_slice Try.underlying33 (hval 0 33 v0 rfl rfl)
  obtain ⟨z0, w0⟩ := open_row (k := .u8) Try.underlying33 Try.underlying5 (by kernel_rfl) h0
  clear hA0 hval0
  refine (FnEquivalence_walk W a0 len0 cap0 z0 w0).mono fun e W' ⟨he, bel⟩ => ?_
  subst he
  exact ⟨_, rfl, _, _, _, [], _, [], hW', trodAll_mk1 (shut_bool Try.underlying4 _), (trodAll_cons_mk (Below.trod laidOut (by kernel_rfl) (of_decide_eq_true (by kernel_rfl)) k0 bel lt0) trodAll_mk0), rfl, bel.frame _, fun h => by cases h⟩

set_option maxRecDepth 100000 in
set_option maxHeartbeats 1000000 in
theorem FnEquivalence_closed : joinedFacts Try.prog 6 Try.f6 Rows.fnEquivalenceSpec Rows.fnEquivalenceRow = true := by
  unfold joinedFacts
  exact clo_and (clo_and (clo_and (clo_and (clo_and (clo_and (clo_and (clo_and (clo_and (clo_and (clo_and (clo_and (clo_and (clo_and (clo_and (clo_and (clo_and (clo_and (clo_and (clo_and (clo_and (clo_and (clo_and (clo_and (clo_and (clo_and (clo_and (clo_and (clo_and (clo_and (clo_and (by kernel_rfl) laidOut) (by kernel_rfl)) (by kernel_rfl)) (by kernel_rfl)) (by kernel_rfl)) (by kernel_rfl)) (by kernel_rfl)) (by kernel_rfl)) (by kernel_rfl)) (by kernel_rfl)) (by kernel_rfl)) (by kernel_rfl)) (by kernel_rfl)) (by kernel_rfl)) (by kernel_rfl)) (by kernel_rfl)) (by kernel_rfl)) (by kernel_rfl)) (by kernel_rfl)) (by kernel_rfl)) (by kernel_rfl)) (by kernel_rfl)) (by kernel_rfl)) (by kernel_rfl)) clo_enter) clo_lifts) clo_make) (by kernel_rfl)) (by kernel_rfl)) (by kernel_rfl)) (by kernel_rfl)

/-- THE STATEMENT. -/
theorem FnEquivalence_holds : Rows.FnEquivalenceSaid :=
  OpenClaim.holds_of_wide 6 Try.f6 rfl rfl rfl rfl rfl rfl rfl ⟨rfl, rfl, rfl, rfl, rfl⟩ rfl rfl rfl rfl rfl (by kernel_rfl) Try.func6 FnEquivalence_closed
    (of_decide_eq_true (by kernel_rfl)) (by unfold Func.isWrapper; first | (rw [if_pos (by decide +kernel)]; kernel_rfl) | (rw [if_neg (by decide +kernel)]; exact ⟨rfl, rfl⟩))
    (fun os started H enc _ => FnEquivalence_lifted os started H enc)
#print axioms FnEquivalence_holds

end Go.Proofs.Ytikmjefbjejbkaa
