/- FnNormalForms: normal forms are reduced and equivalent, reduced forms have the same discriminant, at every code. No condition. -/
import Derived.Test.YtikmjefbjejbkaaBbClo
import Derived.Test.YtikmjefbjejbkaaWb2
import Derived.Deep.DeepCutAuto
namespace Go.Proofs.Ytikmjefbjejbkaa
open Go.ChangeShapes Go.WideShapes Go.ChangeAt Go.RowKit

set_option maxHeartbeats 400000 in
theorem big_any (a : Option Addr) (len cap : Nat) (w : World) :
    Calls Try.prog 19 #[.slice a len cap] w fun e w' => e = .returned (.bool (decide (4096 < (len : Int)))) ∧ w = w' := by
  go_enter Try.func19, Try.ntmps19
  go_wp2
  go_ret
  exact ⟨rfl, rfl⟩

set_option maxRecDepth 1000000 in
set_option maxHeartbeats 8000000 in
theorem FnNormalForms_walk (w : World) (a0 : Option Addr) (len0 cap0 : Nat) (z0 : List Int) (hR : IsRow .u8 w a0 len0 cap0 z0) :
    Calls Try.prog 5 #[.slice a0 len0 cap0] w fun e w' => e = .returned (.bool true) ∧ Below w.heap.size w w' := by
  have heq := eqForm_run
  have hem := eqMatrix_run
  have HR := hid hR
  clear hR
  by_cases hb : 4096 < (len0 : Int)
  · go_enter Try.func5, Try.ntmps5
    go_wp2_with (go_at_call 19; refine (big_any _ _ _ _).mono ?_; rintro e w1 ⟨rfl, rfl⟩)
    go_ret
    exact ⟨rfl, Below.refl _ _⟩
  have hlen : len0 ≤ 9223372036854775807 := by omega
  have hb' : decide (4096 < (len0 : Int)) = false := decide_eq_false hb
  have HB := hid hb'
  clear hb
  go_enter Try.func5, Try.ntmps5
  go_wp2_with (go_at_call 19; refine (big_any _ _ _ _).mono ?_; rintro e w1 ⟨rfl, rfl⟩)
  refine (drawNf_any a0 len0 cap0 z0 _ HR.out hlen).mono ?_
  rintro e w1 ⟨a, b, c, d, rfl, U1⟩
  have F2 := Arr.new w1 a b c d 26
  have U2 := gr_alloc U1 (.cells #[.int .i64 a, .int .i64 b, .int .i64 c, .int .i64 d] 26)
  have q1 := nfQ a b c d; have q2 := rfQ a b c d; have q4 := rmQ a b c d
  have c1 := fun W => iNormalForm_any a b c d W
  have c2 := fun W => sNormalForm_any a b c d W
  have c3 := fun W => iReducedForms_any a b c d W
  have c4 := fun W => sReducedForms_any a b c d W
  have c5 := fun W => iReducingMatrix_any a b c d W
  have c6 := fun W => sReducingMatrix_any a b c d W
  unfold NfOut at c1 c2
  unfold RfOut FlsOut at c3 c4
  unfold RmOut at c5 c6
  generalize nfv a b c d (·.1) = n0 at c1 c2 q1 q2 q4
  generalize nfv a b c d (·.2.1) = n1 at c1 c2 q1 q2 q4
  generalize nfv a b c d (·.2.2.1) = n2 at c1 c2 q1 q2 q4
  generalize nfv a b c d (·.2.2.2) = n3 at c1 c2 q1 q2 q4
  generalize rmv a b c d (·.1) = m0 at c5 c6 q4
  generalize rmv a b c d (·.2.1) = m1 at c5 c6 q4
  generalize rmv a b c d (·.2.2.1) = m2 at c5 c6 q4
  generalize rmv a b c d (·.2.2.2) = m3 at c5 c6 q4
  generalize (if rfc a b c d = 0 then (frms a b c d).length else 0) = L at c3 c4 q2
  generalize (fun i => ((frms a b c d).flatMap gm4).getD i 0) = G at c3 c4 q2
  generalize nfc a b c d = k1 at c1 c2 q1 q2 q4
  generalize rfc a b c d = k2 at c3 c4 q2
  generalize rmc a b c d = k4 at c5 c6 q4
  have C1 := hid c1; have C2 := hid c2; have C3 := hid c3; have C4 := hid c4; have C5 := hid c5; have C6 := hid c6
  have Q1 := hid q1; have Q2 := hid q2; have Q4 := hid q4
  clear c1 c2 c3 c4 c5 c6 q1 q2 q4 U1
  go_upto_region 4 with fail
  obtain ⟨jf, hjf⟩ : ∃ j, j = w1.heap.size := ⟨_, rfl⟩
  rw [← hjf] at F2
  rw [← hjf]
  generalize w1.alloc (.cells #[.int .i64 a, .int .i64 b, .int .i64 c, .int .i64 d] 26) = W2 at F2 U2 ⊢
  clear hjf
  obtain ⟨_, x0, x1, x2, x3, _⟩ := id F2
  go_wp2_with fail
  refine (C1.out _).mono ?_
  rintro e w3 ⟨rfl, hb3⟩
  have N4 := Arr.new w3 n0 n1 n2 n3 26
  have F4 := (F2.next hb3).alloc (.cells #[.int .i64 n0, .int .i64 n1, .int .i64 n2, .int .i64 n3] 26)
  have U4 := gr_alloc (gr_trans U2 hb3) (.cells #[.int .i64 n0, .int .i64 n1, .int .i64 n2, .int .i64 n3] 26)
  clear x0 x1 x2 x3 F2 U2 hb3 C1
  go_upto_region 5 with fail
  obtain ⟨jn, hjn⟩ : ∃ j, j = w3.heap.size := ⟨_, rfl⟩
  rw [← hjn] at N4
  rw [← hjn]
  generalize w3.alloc (.cells #[.int .i64 n0, .int .i64 n1, .int .i64 n2, .int .i64 n3] 26) = W4 at F4 N4 U4 ⊢
  clear hjn
  obtain ⟨_, x0, x1, x2, x3, _⟩ := id F4
  go_wp2_with fail
  refine (C2.out _).mono ?_
  rintro e w5 ⟨rfl, hb5⟩
  have Y6 := Arr.new w5 n0 n1 n2 n3 26
  have F6 := (F4.next hb5).alloc (.cells #[.int .i64 n0, .int .i64 n1, .int .i64 n2, .int .i64 n3] 26)
  have N6 := (N4.next hb5).alloc (.cells #[.int .i64 n0, .int .i64 n1, .int .i64 n2, .int .i64 n3] 26)
  have U6 := gr_alloc (gr_trans U4 hb5) (.cells #[.int .i64 n0, .int .i64 n1, .int .i64 n2, .int .i64 n3] 26)
  clear x0 x1 x2 x3 F4 N4 U4 hb5 C2
  go_upto_region 6 with fail
  generalize w5.heap.size = j5 at *
  generalize w5.alloc (.cells #[.int .i64 n0, .int .i64 n1, .int .i64 n2, .int .i64 n3] 26) = W6 at F6 N6 Y6 U6 ⊢
  have hee := eqF_4 n0 n1 n2 n3
  obtain ⟨_, x0, x1, x2, x3, _⟩ := id F6
  obtain ⟨_, y0, y1, y2, y3, _⟩ := id N6
  obtain ⟨_, t0, t1, t2, t3, _⟩ := id Y6
  go_wp2_with fail
  refine (C3.out _).mono ?_
  rintro e w7 ⟨⟨v8, rfl, hv8, hb7⟩, _⟩
  have F7 := F6.next hb7; have N7 := N6.next hb7; have U7 := gr_trans U6 hb7
  have V7 := hid hv8.rd
  clear x0 x1 x2 x3 y0 y1 y2 y3 t0 t1 t2 t3 F6 N6 Y6 U6 hb7 hv8 C3
  obtain ⟨_, x0, x1, x2, x3, _⟩ := id F7
  go_wp2_with fail
  refine (C4.out _).mono ?_
  rintro e w8 ⟨⟨v10, rfl, hv10, hb8⟩, _⟩
  have F8 := F7.next hb8; have N8 := N7.next hb8; have U8 := gr_trans U7 hb8
  have V8 := hid (V7.out.next9 hb8); have V8' := hid hv10.rd
  clear x0 x1 x2 x3 F7 N7 U7 V7 hb8 hv10 C4
  go_wp2_with fail
  refine (frs9_any _ _ _ _ _ V8.out V8'.out).mono ?_
  rintro e w9 ⟨rfl, hb9⟩
  have F9 := hid (F8.next hb9); have N9 := hid (N8.next hb9); have U9 := gr_trans U8 hb9
  have V9 := hid (V8.out.next9 hb9)
  have R9 := hid (row8_nx HR.out U9)
  clear F8 N8 U8 V8 V8' hb9
  go_wp2_with fail
  refine (drawIR_any a0 len0 cap0 z0 _ R9.out hlen).mono ?_
  rintro e w10 ⟨g0, g1, g2, g3, rfl, hb10⟩
  have G11 := Arr.new w10 g0 g1 g2 g3 26
  have hb11 := gr_alloc hb10 (.cells #[.int .i64 g0, .int .i64 g1, .int .i64 g2, .int .i64 g3] 26)
  have F11 := hid (F9.out.next hb11); have N11 := hid (N9.out.next hb11); have V11 := hid (V9.out.next9 hb11); have U11 := gr_trans U9 hb11
  have c1 := fun W => iIsReduced_any g0 g1 g2 g3 W
  have c2 := fun W => sIsReduced_any g0 g1 g2 g3 W
  generalize rd0 g0 g1 g2 g3 = rb at c1 c2
  generalize rcd g0 g1 g2 g3 = rk at c1 c2
  have C1 := hid c1; have C2 := hid c2
  clear c1 c2 F9 N9 V9 U9 hb10 hb11 R9
  go_upto_region 13 with fail
  generalize w10.heap.size = jr at *
  generalize w10.alloc (.cells #[.int .i64 g0, .int .i64 g1, .int .i64 g2, .int .i64 g3] 26) = W11 at G11 F11 N11 V11 U11 ⊢
  obtain ⟨_, x0, x1, x2, x3, _⟩ := id G11
  go_wp2_with fail
  refine (C1.out _).mono ?_
  rintro e w12 ⟨rfl, hb12⟩
  have G12 := G11.next hb12; have F12 := hid (F11.out.next hb12); have N12 := hid (N11.out.next hb12); have V12 := hid (V11.out.next9 hb12); have U12 := gr_trans U11 hb12
  clear x0 x1 x2 x3 G11 F11 N11 V11 U11 hb12 C1
  obtain ⟨_, x0, x1, x2, x3, _⟩ := id G12
  have hnn : (!rb == rb) = false := by cases rb <;> rfl
  obtain ⟨_, y0, y1, y2, y3, _⟩ := id ((F12.out))
  go_wp2_with fail
  refine (C2.out _).mono ?_
  rintro e w13 ⟨rfl, hb13⟩
  have F13 := F12.out.next hb13; have N13 := hid (N12.out.next hb13); have V13 := hid (V12.out.next9 hb13); have U13 := gr_trans U12 hb13
  clear x0 x1 x2 x3 y0 y1 y2 y3 G12 F12 N12 V12 U12 hb13 C2
  obtain ⟨_, x0, x1, x2, x3, _⟩ := id F13
  go_wp2_with fail
  refine (C5.out _).mono ?_
  rintro e w14 ⟨rfl, hb14⟩
  have M15 := Arr.new w14 m0 m1 m2 m3 44
  have hb15 := gr_alloc hb14 (.cells #[.int .i64 m0, .int .i64 m1, .int .i64 m2, .int .i64 m3] 44)
  have F15 := F13.next hb15; have N15 := hid (N13.out.next hb15); have V15 := hid (V13.out.next9 hb15); have U15 := gr_trans U13 hb15
  clear x0 x1 x2 x3 F13 N13 V13 U13 hb14 hb15 C5
  go_upto_region 18 with fail
  obtain ⟨jm, hjm⟩ : ∃ j, j = w14.heap.size := ⟨_, rfl⟩
  rw [← hjm] at M15
  rw [← hjm]
  generalize w14.alloc (.cells #[.int .i64 m0, .int .i64 m1, .int .i64 m2, .int .i64 m3] 44) = W15 at M15 F15 N15 V15 U15 ⊢
  clear hjm
  obtain ⟨_, x0, x1, x2, x3, _⟩ := id F15
  go_wp2_with fail
  refine (C6.out _).mono ?_
  rintro e w16 ⟨rfl, hb16⟩
  have Y17 := Arr.new w16 m0 m1 m2 m3 44
  have hb17 := gr_alloc hb16 (.cells #[.int .i64 m0, .int .i64 m1, .int .i64 m2, .int .i64 m3] 44)
  have M17 := M15.next hb17; have F17 := hid (F15.next hb17); have N17 := hid (N15.out.next hb17); have V17 := hid (V15.out.next9 hb17); have U17 := gr_trans U15 hb17
  clear x0 x1 x2 x3 M15 F15 N15 V15 U15 hb16 hb17 C6
  go_upto_region 19 with fail
  generalize w16.heap.size = j16 at *
  generalize w16.alloc (.cells #[.int .i64 m0, .int .i64 m1, .int .i64 m2, .int .i64 m3] 44) = W17 at Y17 M17 F17 N17 V17 U17 ⊢
  have hem2 := eqF_4 m0 m1 m2 m3
  obtain ⟨_, x0, x1, x2, x3, _⟩ := id M17
  obtain ⟨_, y0, y1, y2, y3, _⟩ := id Y17
  have E17 := hid (NfB.mk F17.out N17.out M17 V17.out)
  go_upto_if 112 with (fail)
  go_cut [] (fun wx => W17 = wx)
  case first =>
    go_wp2_with fail
    go_meet
    rfl
  case rest =>
    subst hcut
    go_step
    exact nseg112_any w a0 len0 cap0 _ U17 jf jn jm a b c d n0 n1 n2 n3 m0 m1 m2 m3 v8 L G k1 k2 k4 E17 Q1 Q4 Q2 _ _ _ _ _ _ _ _ _ _ _ _ _ _ _ _ _ _ _ _ _ _ _ _ _ _ _ _ _ _ _ _ _ _ _ _ _ _ _ _ _ _ _ _ _ _ _ _ _ _ _ _ _ _ _ _ _ _ _ _ _ _ _ _ _ _ _ _ _ _ _ _ _ _ _ _ _ _ _ _ _ _ _ _ _ _ _ _ _ _ _ _ _ _ _ _ _ _ _ _ _ _ _ _ _ _ _ _ _ _ _ _ _ _ _ _ _ _ _ _ _ _ _ _ _ _ _ _ _ _ _ _ _ _ _ _ _ _ _ _ _ _ _ _ _ _ _ _ _ _ _ _ _ _ _ _ _ _ _ _ _ _ _ _ _ _ _ _ _ _ _ _ _ _ _ _ _ _ _ _ _ _ _ _ _ _ _ _ _ _ _ _ _ _ _ _ _ _ _ _ _ _ _ _ _ _ _ _ _ _ _ _ _ _ _ _ _ _

set_option maxRecDepth 100000 in
set_option maxHeartbeats 1000000 in
theorem FnNormalForms_lifted (os : Os) (started : os.Started) (H : Type) (enc : TypeId × Value → H) :
    ReturnsInHanded {} Try.checked os 5 .any (Rows.fnNormalFormsSpec.pre6 enc Try.prog Try.f5 Rows.fnNormalFormsRow.domain false) (Rows.fnNormalFormsSpec.post enc Try.prog Try.f5 false true false false) := by
  refine returnsInHanded_of_change (C := Try.checked) own started (by kernel_rfl) Try.func5
    (ChangeSpec.witness6 (enc := enc) (C := Try.checked) false ⟨#[], #[.slice none 0 0], []⟩ 8 (by kernel_rfl) (by kernel_rfl) (by kernel_rfl) (by kernel_rfl)) ?_
  intro W base args ds gs before hval0 hW hcnd _
  have hval : ∀ (j : Nat) t v, Try.f5.params[j]? = some t → args[j]? = some v → Value.okWide Try.prog W .any base t v := hval0
  have hW' := hW
  obtain ⟨p, q, hA0, hV, rfl, hfz, hnd⟩ := hW
  have hA : DataW.TrodAll enc Try.prog W 0 (fun _ => true) true Try.f5.params.toList args.toList ds p := hA0
  rw [Try.params5] at hA hval
  obtain ⟨v0, vs0, d0, ds0, p0, q0, hargs, rfl, rfl, h0, r0⟩ := trodAll_cons hA
  obtain ⟨rfl, rfl, rfl⟩ := trodAll_nil r0
  obtain rfl : args = #[v0] := by cases args; simp_all
  obtain ⟨rfl, rfl⟩ := trodVars_none hV
  have k0 := h0
  have lt0 : ∀ x ∈ p0, x.block < W.heap.size := by obtain ⟨m, hm⟩ := k0; exact DataW.trod_lt m _ _ _ hm
  obtain ⟨a0, len0, cap0, rfl⟩ := okWide_slice Try.underlying33 (hval 0 33 v0 rfl rfl)
  obtain ⟨z0, w0⟩ := open_row (k := .u8) Try.underlying33 Try.underlying5 (by kernel_rfl) h0
  clear hA0 hval0
  refine (FnNormalForms_walk W a0 len0 cap0 z0 w0).mono fun e W' ⟨he, bel⟩ => ?_
  subst he
  exact ⟨_, rfl, _, _, _, [], _, [], hW', trodAll_mk1 (shut_bool Try.underlying4 _), (trodAll_cons_mk (Below.trod laidOut (by kernel_rfl) (of_decide_eq_true (by kernel_rfl)) k0 bel lt0) trodAll_mk0), rfl, bel.frame _, fun h => by cases h⟩

set_option maxRecDepth 100000 in
set_option maxHeartbeats 1000000 in
theorem FnNormalForms_closed : joinedFacts Try.prog 5 Try.f5 Rows.fnNormalFormsSpec Rows.fnNormalFormsRow = true := by
  unfold joinedFacts
  exact clo_and (clo_and (clo_and (clo_and (clo_and (clo_and (clo_and (clo_and (clo_and (clo_and (clo_and (clo_and (clo_and (clo_and (clo_and (clo_and (clo_and (clo_and (clo_and (clo_and (clo_and (clo_and (clo_and (clo_and (clo_and (clo_and (clo_and (clo_and (clo_and (clo_and (clo_and (by kernel_rfl) laidOut) (by kernel_rfl)) (by kernel_rfl)) (by kernel_rfl)) (by kernel_rfl)) (by kernel_rfl)) (by kernel_rfl)) (by kernel_rfl)) (by kernel_rfl)) (by kernel_rfl)) (by kernel_rfl)) (by kernel_rfl)) (by kernel_rfl)) (by kernel_rfl)) (by kernel_rfl)) (by kernel_rfl)) (by kernel_rfl)) (by kernel_rfl)) (by kernel_rfl)) (by kernel_rfl)) (by kernel_rfl)) (by kernel_rfl)) (by kernel_rfl)) (by kernel_rfl)) clo_enter) clo_lifts) clo_make) (by kernel_rfl)) (by kernel_rfl)) (by kernel_rfl)) (by kernel_rfl)

/-- THE STATEMENT. -/
theorem FnNormalForms_holds : Rows.FnNormalFormsSaid :=
  OpenClaim.holds_of_wide 5 Try.f5 rfl rfl rfl rfl rfl rfl rfl ⟨rfl, rfl, rfl, rfl, rfl⟩ rfl rfl rfl rfl rfl (by kernel_rfl) Try.func5 FnNormalForms_closed
    (of_decide_eq_true (by kernel_rfl)) (by unfold Func.isWrapper; first | (rw [if_pos (by decide +kernel)]; kernel_rfl) | (rw [if_neg (by decide +kernel)]; exact ⟨rfl, rfl⟩))
    (fun os started H enc _ => FnNormalForms_lifted os started H enc)
#print axioms FnNormalForms_holds

end Go.Proofs.Ytikmjefbjejbkaa
