/- FnQuadratics: compositions do not depend on the order, the unit changes nothing, orders divide numbers of classes, at every code. No condition. -/
import Derived.Test.YtehbkmohfipmgaaBtClo
import Derived.Test.YtehbkmohfipmgaaQu4
import Derived.Deep.DeepCutAuto
import Derived.Deep.RegionHeld3
namespace Go.Proofs.Ytehbkmohfipmgaa
open Go.ChangeShapes Go.WideShapes Go.ChangeAt Go.RowKit

set_option maxHeartbeats 400000 in
theorem big_any (a : Option Addr) (len cap : Nat) (w : World) :
    Calls Try.prog 5 #[.slice a len cap] w fun e w' => e = .returned (.bool (decide (4096 < (len : Int)))) ∧ w = w' := by
  go_enter Try.func5, Try.ntmps5
  go_wp2
  go_ret
  exact ⟨rfl, rfl⟩

set_option maxRecDepth 1000000 in
set_option maxHeartbeats 8000000 in
theorem FnQuadratics_walk (w : World) (a0 : Option Addr) (len0 cap0 : Nat) (z0 : List Int) (hR : IsRow .u8 w a0 len0 cap0 z0) :
    Calls Try.prog 3 #[.slice a0 len0 cap0] w fun e w' => e = .returned (.bool true) ∧ Below w.heap.size w w' := by
  have heq := eqQ_run
  have HR := hid hR
  clear hR
  by_cases hb : 4096 < (len0 : Int)
  · go_enter Try.func3, Try.ntmps3
    go_wp2_with (go_at_call 5; refine (big_any _ _ _ _).mono ?_; rintro e w1 ⟨rfl, rfl⟩)
    go_ret
    exact ⟨rfl, Below.refl _ _⟩
  have hlen : len0 ≤ 9223372036854775807 := by omega
  have hb' : decide (4096 < (len0 : Int)) = false := decide_eq_false hb
  have HB := hid hb'
  clear hb
  go_enter Try.func3, Try.ntmps3
  go_wp2_with (go_at_call 5; refine (big_any _ _ _ _).mono ?_; rintro e w1 ⟨rfl, rfl⟩)
  refine (drawCq_any a0 len0 cap0 z0 _ HR.out hlen).mono ?_
  rintro e w1 ⟨a, b, c, x, y, z, rfl, U1⟩
  have q1 := quQ1 a b c x y z
  have c1 := fun W => iCompQ_any a b c x y z W
  have c2 := fun W => sCompQ_any a b c x y z W
  generalize (cpq a b c x y z).1 = p at c1 c2 q1
  generalize (cpq a b c x y z).2.1 = q at c1 c2 q1
  generalize (cpq a b c x y z).2.2 = r at c1 c2 q1
  generalize dc2 a b c x y z = k1 at c1 c2 q1
  have C1 := hid c1; have C2 := hid c2; have Q1 := hid q1
  clear c1 c2 q1
  have A2 := (Arr3.new w1 a b c 25).alloc (.cells #[.int .i64 x, .int .i64 y, .int .i64 z] 25)
  have X2 := Arr3.new (w1.alloc (.cells #[.int .i64 a, .int .i64 b, .int .i64 c] 25)) x y z 25
  simp only [World.size_alloc] at X2
  have U2 := gr_alloc (gr_alloc U1 (.cells #[.int .i64 a, .int .i64 b, .int .i64 c] 25)) (.cells #[.int .i64 x, .int .i64 y, .int .i64 z] 25)
  clear U1
  go_upto_region 4 with fail
  try simp only [World.size_alloc]
  obtain ⟨jq, hjq⟩ : ∃ j, j = w1.heap.size := ⟨_, rfl⟩
  rw [← hjq] at A2 X2
  rw [← hjq]
  obtain ⟨js, hjs⟩ : ∃ j, j = jq + 1 := ⟨_, rfl⟩
  rw [← hjs] at X2
  rw [← hjs]
  generalize (w1.alloc (.cells #[.int .i64 a, .int .i64 b, .int .i64 c] 25)).alloc (.cells #[.int .i64 x, .int .i64 y, .int .i64 z] 25) = W2 at A2 X2 U2 ⊢
  clear hjq hjs
  obtain ⟨_, x0, x1, x2, _⟩ := id A2
  obtain ⟨_, y0, y1, y2, _⟩ := id X2
  go_wp2_with fail
  refine (C1.out _).mono ?_
  rintro e w3 ⟨rfl, hb3⟩
  have P4 := Arr3.new w3 p q r 25
  have hb4 := gr_alloc hb3 (.cells #[.int .i64 p, .int .i64 q, .int .i64 r] 25)
  have A4 := A2.next hb4; have X4 := X2.next hb4; have U4 := gr_trans U2 hb4
  clear x0 x1 x2 y0 y1 y2 A2 X2 U2 hb3 hb4 C1
  go_upto_region 5 with fail
  obtain ⟨jc, hjc⟩ : ∃ j, j = w3.heap.size := ⟨_, rfl⟩
  rw [← hjc] at P4
  rw [← hjc]
  generalize w3.alloc (.cells #[.int .i64 p, .int .i64 q, .int .i64 r] 25) = W4 at P4 A4 X4 U4 ⊢
  clear hjc
  obtain ⟨_, x0, x1, x2, _⟩ := id A4
  obtain ⟨_, y0, y1, y2, _⟩ := id X4
  go_wp2_with fail
  refine (C2.out _).mono ?_
  rintro e w5 ⟨rfl, hb5⟩
  have Y6 := Arr3.new w5 p q r 25
  have hb6 := gr_alloc hb5 (.cells #[.int .i64 p, .int .i64 q, .int .i64 r] 25)
  have A6 := hid (A4.next hb6); have X6 := hid (X4.next hb6); have P6 := P4.next hb6; have U6 := gr_trans U4 hb6
  clear x0 x1 x2 y0 y1 y2 A4 X4 P4 U4 hb5 hb6 C2
  go_upto_region 6 with fail
  generalize w5.heap.size = j5 at *
  generalize w5.alloc (.cells #[.int .i64 p, .int .i64 q, .int .i64 r] 25) = W6 at Y6 A6 X6 P6 U6 ⊢
  have hee := eqQ_3 p q r
  obtain ⟨_, x0, x1, x2, _⟩ := id P6
  obtain ⟨_, y0, y1, y2, _⟩ := id Y6
  have R6 := hid (row8_nx HR.out U6)
  go_wp2_with fail
  refine (drawRq_any a0 len0 cap0 z0 _ R6.out hlen).mono ?_
  rintro e w7 ⟨s0, s1, s2, rfl, hb7⟩
  have S8 := Arr3.new w7 s0 s1 s2 25
  have hb8 := gr_alloc hb7 (.cells #[.int .i64 s0, .int .i64 s1, .int .i64 s2] 25)
  have A8 := hid (A6.out.next hb8); have X8 := hid (X6.out.next hb8); have P8 := hid (P6.next hb8); have U8 := gr_trans U6 hb8
  have q3 := quQ3 s0 s1 s2; have q5 := quQ5 s0 s1 s2
  have c1 := fun W => iReduceQ_any s0 s1 s2 W
  have c2 := fun W => sReduceQ_any s0 s1 s2 W
  have c3 := fun W => iIsDef_any s0 s1 s2 W
  have c4 := fun W => sIsDef_any s0 s1 s2 W
  have c5 := fun W => iOrder_any s0 s1 s2 W
  have c6 := fun W => sOrder_any s0 s1 s2 W
  generalize rqv s0 s1 s2 (red (s0, s1, s2)).1 = e0 at c1 c2
  generalize rqv s0 s1 s2 (red (s0, s1, s2)).2.1 = e1 at c1 c2
  generalize rqv s0 s1 s2 (red (s0, s1, s2)).2.2 = e2 at c1 c2
  generalize (isQ s0 s1 s2 && df10 s0 s1 s2) = df at c3 c4 q3
  generalize qif s0 s1 s2 = k3 at c3 c4
  generalize odv s0 s1 s2 = o at c5 c6 q5
  generalize dc1 s0 s1 s2 = k2 at c1 c2 c5 c6 q3 q5
  have C1 := hid c1; have C2 := hid c2; have C3 := hid c3; have C4 := hid c4; have C5 := hid c5; have C6 := hid c6; have Q3 := hid q3; have Q5 := hid q5
  clear c1 c2 c3 c4 c5 c6 q3 q5 x0 x1 x2 y0 y1 y2 hee Y6 A6 X6 P6 U6 R6 hb7 hb8
  go_upto_region 9 with fail
  obtain ⟨ju, hju⟩ : ∃ j, j = w7.heap.size := ⟨_, rfl⟩
  rw [← hju] at S8
  rw [← hju]
  generalize w7.alloc (.cells #[.int .i64 s0, .int .i64 s1, .int .i64 s2] 25) = W8 at S8 A8 X8 P8 U8 ⊢
  clear hju
  obtain ⟨_, x0, x1, x2, _⟩ := id S8
  go_wp2_with fail
  refine (C1.out _).mono ?_
  rintro e w9 ⟨rfl, hb9⟩
  have E10 := Arr3.new w9 e0 e1 e2 25
  have hb10 := gr_alloc hb9 (.cells #[.int .i64 e0, .int .i64 e1, .int .i64 e2] 25)
  have A10 := hid (A8.out.next hb10); have X10 := hid (X8.out.next hb10); have P10 := hid (P8.out.next hb10); have S10 := S8.next hb10; have U10 := gr_trans U8 hb10
  clear x0 x1 x2 A8 X8 P8 S8 U8 hb9 hb10 C1
  go_upto_region 10 with fail
  generalize w9.heap.size = j9 at *
  generalize w9.alloc (.cells #[.int .i64 e0, .int .i64 e1, .int .i64 e2] 25) = W10 at E10 A10 X10 P10 S10 U10 ⊢
  obtain ⟨_, x0, x1, x2, _⟩ := id S10
  go_wp2_with fail
  refine (C2.out _).mono ?_
  rintro e w11 ⟨rfl, hb11⟩
  have Y12 := Arr3.new w11 e0 e1 e2 25
  have hb12 := gr_alloc hb11 (.cells #[.int .i64 e0, .int .i64 e1, .int .i64 e2] 25)
  have A12 := hid (A10.out.next hb12); have X12 := hid (X10.out.next hb12); have P12 := hid (P10.out.next hb12); have S12 := S10.next hb12; have E12 := E10.next hb12; have U12 := gr_trans U10 hb12
  clear x0 x1 x2 A10 X10 P10 S10 E10 U10 hb11 hb12 C2
  go_upto_region 11 with fail
  generalize w11.heap.size = j11 at *
  generalize w11.alloc (.cells #[.int .i64 e0, .int .i64 e1, .int .i64 e2] 25) = W12 at Y12 A12 X12 P12 S12 E12 U12 ⊢
  have hee := eqQ_3 e0 e1 e2
  obtain ⟨_, x0, x1, x2, _⟩ := id S12
  obtain ⟨_, y0, y1, y2, _⟩ := id E12
  obtain ⟨_, t0, t1, t2, _⟩ := id Y12
  go_wp2_with fail
  refine (C3.out _).mono ?_
  rintro e w13 ⟨rfl, hb13⟩
  have A13 := hid (A12.out.next hb13); have X13 := hid (X12.out.next hb13); have P13 := hid (P12.out.next hb13); have S13 := S12.next hb13; have U13 := gr_trans U12 hb13
  clear x0 x1 x2 y0 y1 y2 t0 t1 t2 hee A12 X12 P12 S12 E12 Y12 U12 hb13 C3
  obtain ⟨_, x0, x1, x2, _⟩ := id S13
  go_wp2_with fail
  refine (C4.out _).mono ?_
  rintro e w14 ⟨rfl, hb14⟩
  have A14 := hid (A13.out.next hb14); have X14 := hid (X13.out.next hb14); have P14 := hid (P13.out.next hb14); have S14 := hid (S13.next hb14); have U14 := gr_trans U13 hb14
  have hnn : (!df == df) = false := by cases df <;> rfl
  have R14 := hid (row8_nx HR.out U14)
  clear x0 x1 x2 A13 X13 P13 S13 U13 hb14 C4
  go_wp2_with fail
  refine (drawCl_any a0 len0 cap0 z0 _ R14.out hlen).mono ?_
  rintro e w15 ⟨d, rfl, hb15⟩
  have A15 := hid (A14.out.next hb15); have X15 := hid (X14.out.next hb15); have P15 := hid (P14.out.next hb15); have S15 := hid (S14.out.next hb15); have U15 := gr_trans U14 hb15
  have q4 := quQ4 d
  have c1 := fun W => iClassesOf_any d W
  have c2 := fun W => sClassesOf_any d W
  unfold QlsOut at c1 c2
  generalize (if (if dcl d then (0 : Int) else 2) = 0 then (cls d).length else 0) = L at c1 c2 q4
  generalize (fun i => ((cls d).flatMap qi3).getD i 0) = G at c1 c2 q4
  generalize (if dcl d then (0 : Int) else 2) = k4 at c1 c2 q4
  have C1 := hid c1; have C2 := hid c2; have Q4 := hid q4
  clear c1 c2 q4 A14 X14 P14 S14 U14 hb15 R14 hnn
  go_wp2_with fail
  refine (C1.out _).mono ?_
  rintro e w16 ⟨v19, rfl, hv, hb16⟩
  have A16 := hid (A15.out.next hb16); have X16 := hid (X15.out.next hb16); have P16 := hid (P15.out.next hb16); have S16 := hid (S15.out.next hb16); have U16 := gr_trans U15 hb16
  have V16 := hid hv.rd
  clear A15 X15 P15 S15 U15 hb16 hv C1
  go_wp2_with fail
  refine (C2.out _).mono ?_
  rintro e w17 ⟨v21, rfl, hv, hb17⟩
  have A17 := hid (A16.out.next hb17); have X17 := hid (X16.out.next hb17); have P17 := hid (P16.out.next hb17); have S17 := hid (S16.out.next hb17); have U17 := gr_trans U16 hb17
  have V17 := hid (V16.out.next9 hb17); have V17' := hid hv.rd
  clear A16 X16 P16 S16 U16 V16 hb17 hv C2
  go_wp2_with fail
  refine (qds9_any _ _ _ _ _ V17.out V17'.out).mono ?_
  rintro e w18 ⟨rfl, hb18⟩
  have A18 := hid (A17.out.next hb18); have X18 := hid (X17.out.next hb18); have P18 := hid (P17.out.next hb18); have S18 := S17.out.next hb18; have U18 := gr_trans U17 hb18
  have V18 := hid (V17.out.next9 hb18)
  clear A17 X17 P17 S17 U17 V17 V17' hb18
  obtain ⟨_, x0, x1, x2, _⟩ := id S18
  go_wp2_with fail
  refine (C5.out _).mono ?_
  rintro e w19 ⟨rfl, hb19⟩
  have A19 := hid (A18.out.next hb19); have X19 := hid (X18.out.next hb19); have P19 := hid (P18.out.next hb19); have S19 := S18.next hb19; have U19 := gr_trans U18 hb19
  have V19 := hid (V18.out.next9 hb19)
  clear x0 x1 x2 A18 X18 P18 S18 U18 V18 hb19 C5
  obtain ⟨_, x0, x1, x2, _⟩ := id S19
  go_wp2_with fail
  refine (C6.out _).mono ?_
  rintro e w20 ⟨rfl, hb20⟩
  have U20 := gr_trans U19 hb20
  have E20 := hid (QuB.mk (A19.out.next hb20) (X19.out.next hb20) (P19.out.next hb20) (S19.next hb20) (V19.out.next9 hb20))
  clear x0 x1 x2 A19 X19 P19 S19 U19 V19 hb20 C6
  go_upto_if 143 with (fail)
  go_cut [] (fun wx => w20 = wx)
  case first =>
    go_wp2_with fail
    go_meet
    rfl
  case rest =>
    subst hcut
    go_step
    exact useg143_any w a0 len0 cap0 _ U20 jq js jc ju a b c x y z p q r s0 s1 s2 v19 L G k1 k2 k3 k4 k2 d o df E20 Q1 Q3 Q4 Q5 _ _ _ _ _ _ _ _ _ _ _ _ _ _ _ _ _ _ _ _ _ _ _ _ _ _ _ _ _ _ _ _ _ _ _ _ _ _ _ _ _ _ _ _ _ _ _ _ _ _ _ _ _ _ _ _ _ _ _ _ _ _ _ _ _ _ _ _ _ _ _ _ _ _ _ _ _ _ _ _ _ _ _ _ _ _ _ _ _ _ _ _ _ _ _ _ _ _ _ _ _ _ _ _ _ _ _ _ _ _ _ _ _ _ _ _ _ _ _ _ _ _ _ _ _ _ _ _ _ _ _ _ _ _ _ _ _ _ _ _ _ _ _ _ _ _ _ _ _ _ _ _ _ _ _ _ _ _ _ _ _ _ _ _ _ _ _ _ _ _ _ _ _ _ _ _ _ _ _ _ _ _ _ _ _ _ _ _ _ _ _ _ _ _ _ _ _ _ _ _ _ _ _ _ _ _ _ _ _ _ _ _ _ _ _ _ _ _ _ _ _ _ _ _ _ _ _ _ _ _ _ _ _ _ _ _ _ _ _ _ _

set_option maxRecDepth 100000 in
set_option maxHeartbeats 1000000 in
theorem FnQuadratics_lifted (os : Os) (started : os.Started) (H : Type) (enc : TypeId × Value → H) :
    ReturnsInHanded {} Try.checked os 3 .any (Rows.fnQuadraticsSpec.pre6 enc Try.prog Try.f3 Rows.fnQuadraticsRow.domain false) (Rows.fnQuadraticsSpec.post enc Try.prog Try.f3 false true false false) := by
  refine returnsInHanded_of_change (C := Try.checked) own started (by kernel_rfl) Try.func3
    (ChangeSpec.witness6 (enc := enc) (C := Try.checked) false ⟨#[], #[.slice none 0 0], []⟩ 8 (by kernel_rfl) (by kernel_rfl) (by kernel_rfl) (by kernel_rfl)) ?_
  intro W base args ds gs before hval0 hW hcnd _
  have hval : ∀ (j : Nat) t v, Try.f3.params[j]? = some t → args[j]? = some v → Value.okWide Try.prog W .any base t v := hval0
  have hW' := hW
  obtain ⟨p, q, hA0, hV, rfl, hfz, hnd⟩ := hW
  have hA : DataW.TrodAll enc Try.prog W 0 (fun _ => true) true Try.f3.params.toList args.toList ds p := hA0
  rw [Try.params3] at hA hval
  obtain ⟨v0, vs0, d0, ds0, p0, q0, hargs, rfl, rfl, h0, r0⟩ := trodAll_cons hA
  obtain ⟨rfl, rfl, rfl⟩ := trodAll_nil r0
  obtain rfl : args = #[v0] := by cases args; simp_all
  obtain ⟨rfl, rfl⟩ := trodVars_none hV
  have k0 := h0
  have lt0 : ∀ x ∈ p0, x.block < W.heap.size := by obtain ⟨m, hm⟩ := k0; exact DataW.trod_lt m _ _ _ hm
  obtain ⟨a0, len0, cap0, rfl⟩ := okWide_slice Try.underlying22 (hval 0 22 v0 rfl rfl)
  obtain ⟨z0, w0⟩ := open_row (k := .u8) Try.underlying22 Try.underlying5 (by kernel_rfl) h0
  clear hA0 hval0
  refine (FnQuadratics_walk W a0 len0 cap0 z0 w0).mono fun e W' ⟨he, bel⟩ => ?_
  subst he
  exact ⟨_, rfl, _, _, _, [], _, [], hW', trodAll_mk1 (shut_bool Try.underlying4 _), (trodAll_cons_mk (Below.trod laidOut (by kernel_rfl) (of_decide_eq_true (by kernel_rfl)) k0 bel lt0) trodAll_mk0), rfl, bel.frame _, fun h => by cases h⟩

set_option maxRecDepth 100000 in
set_option maxHeartbeats 1000000 in
theorem FnQuadratics_closed : joinedFacts Try.prog 3 Try.f3 Rows.fnQuadraticsSpec Rows.fnQuadraticsRow = true := by
  unfold joinedFacts
  exact clo_and (clo_and (clo_and (clo_and (clo_and (clo_and (clo_and (clo_and (clo_and (clo_and (clo_and (clo_and (clo_and (clo_and (clo_and (clo_and (clo_and (clo_and (clo_and (clo_and (clo_and (clo_and (clo_and (clo_and (clo_and (clo_and (clo_and (clo_and (clo_and (clo_and (clo_and (by kernel_rfl) laidOut) (by kernel_rfl)) (by kernel_rfl)) (by kernel_rfl)) (by kernel_rfl)) (by kernel_rfl)) (by kernel_rfl)) (by kernel_rfl)) (by kernel_rfl)) (by kernel_rfl)) (by kernel_rfl)) (by kernel_rfl)) (by kernel_rfl)) (by kernel_rfl)) (by kernel_rfl)) (by kernel_rfl)) (by kernel_rfl)) (by kernel_rfl)) (by kernel_rfl)) (by kernel_rfl)) (by kernel_rfl)) (by kernel_rfl)) (by kernel_rfl)) (by kernel_rfl)) clo_enter) clo_lifts) clo_make) (by kernel_rfl)) (by kernel_rfl)) (by kernel_rfl)) (by kernel_rfl)

/-- THE STATEMENT. -/
theorem FnQuadratics_holds : Rows.FnQuadraticsSaid :=
  OpenClaim.holds_of_wide 3 Try.f3 rfl rfl rfl rfl rfl rfl rfl ⟨rfl, rfl, rfl, rfl, rfl⟩ rfl rfl rfl rfl rfl (by kernel_rfl) Try.func3 FnQuadratics_closed
    (of_decide_eq_true (by kernel_rfl)) (by unfold Func.isWrapper; first | (rw [if_pos (by decide +kernel)]; kernel_rfl) | (rw [if_neg (by decide +kernel)]; exact ⟨rfl, rfl⟩))
    (fun os started H enc _ => FnQuadratics_lifted os started H enc)
#print axioms FnQuadratics_holds

end Go.Proofs.Ytehbkmohfipmgaa
