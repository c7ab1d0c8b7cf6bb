/- FnExactAutomorphismsOf: AutomorphismsOf answers as its model at every argument; its answer owns its memory. No condition. -/
import Derived.Test.YtikmjefbjejbkaaBbClo
import Derived.Test.YtikmjefbjejbkaaBbZ1
import Derived.Test.YtikmjefbjejbkaaBbZ4
import Derived.Test.YtikmjefbjejbkaaBbAz
namespace Go.Proofs.Ytikmjefbjejbkaa
open Go.ChangeShapes Go.WideShapes Go.ChangeAt Go.RowKit

set_option maxRecDepth 100000 in
set_option maxHeartbeats 2000000 in
theorem FnExactAutomorphismsOf_walk (p0 q0 r0 s0 : Int) (_ : Wf4 p0 q0 r0 s0) (w : World) :
    Calls Try.prog 4 #[.agg #[.int .i64 p0, .int .i64 q0, .int .i64 r0, .int .i64 s0]] w fun e w' => e = .returned (.bool true) ∧ Below w.heap.size w w' := by
  have hs := fun W => sAut_any p0 q0 r0 s0 W
  have hp := fun W => iAut_any p0 q0 r0 s0 W
  have hl := mbt_le p0 q0 r0 s0 p0 q0 r0 s0
  unfold MbOut FlsOut at hs hp
  generalize (if mbc p0 q0 r0 s0 p0 q0 r0 s0 = 0 then (mbt (p0, q0, r0, s0) (p0, q0, r0, s0)).length else 0) = n at hs hp hl
  generalize mbc p0 q0 r0 s0 p0 q0 r0 s0 = k at hs hp
  generalize (fun i => ((mbt (p0, q0, r0, s0) (p0, q0, r0, s0)).flatMap gm4).getD i 0) = g at hs hp
  have HS := hid hs
  have HP := hid hp
  clear hs hp
  have A0 := Arr.new w p0 q0 r0 s0 22
  have U0 := gr_alloc (Below.refl w.heap.size w) (.cells #[.int .i64 p0, .int .i64 q0, .int .i64 r0, .int .i64 s0] 22)
  go_enter Try.func4, Try.ntmps4
  go_wp2_with fail
  refine (toForm_any p0 q0 r0 s0 _).mono ?_
  rintro e w1 ⟨rfl, hb1⟩
  have A1 := A0.next hb1
  have U1 := gr_trans U0 hb1
  clear A0 U0
  go_wp2_with fail
  refine (HS.out _).mono ?_
  rintro e w2 ⟨v, rfl, hV, hb2⟩
  have A2 := A1.next hb2
  have U2 := gr_trans U1 hb2
  have V2 := hV.rdB
  clear A1 U1 hV
  obtain ⟨_, c0, c1, c2, c3, _⟩ := id A2
  go_wp2_with fail
  refine (toForm_any p0 q0 r0 s0 _).mono ?_
  rintro e w3 ⟨rfl, hb3⟩
  have A3 := A2.next hb3
  have U3 := gr_trans U2 hb3
  have V3 := V2.below hb3 (Nat.le_refl _)
  clear A2 U2 V2 c0 c1 c2 c3
  go_wp2_with fail
  refine (HP.out _).mono ?_
  rintro e w4 ⟨u, rfl, hW, hb4⟩
  have hz3 := hb3.size
  have hz4 := hb4.size
  have A4 := A3.next hb4
  have U4 := gr_trans U3 hb4
  have V4 := V3.below hb4 hz3
  have hA4 := A3.lt
  clear A3 U3 V3
  go_wp2_with fail
  refine (eqMX_any u v n g _ hW.rd (V4.rd (Nat.le_trans hz3 hz4))).mono ?_
  rintro e w5 ⟨rfl, hb5⟩
  have hz5 := hb5.size
  have A5 := A4.next hb5
  have U5 := gr_trans U4 hb5
  have V5 := V4.below hb5 (Nat.le_trans hz3 hz4)
  have W5 := hW.next hb5
  clear A4 U4 V4 hW
  go_wp2_with fail
  refine (markMX_any w3.heap.size u n g _ W5 (by omega)).mono ?_
  rintro e w6 ⟨rfl, W6, hb6⟩
  have hz6 := hb6.size
  have A6 := A5.below hb6 hA4
  have U6 : Below w.heap.size w w6 := U5.trans (hb6.mono (by have := hb1.size; have := hb2.size; simp at *; omega))
  have V6 := V5.below hb6 hz3
  clear A5 U5 V5 W5
  go_wp2_with fail
  refine (heldMX_any w3.heap.size u n _ W6 (by omega)).mono ?_
  rintro e w7 ⟨rfl, hb7⟩
  have hz7 := hb7.size
  have A7 := A6.next hb7
  have U7 := gr_trans U6 hb7
  have V7 := V6.below hb7 (by omega)
  have W7 := W6.next hb7
  clear A6 U6 V6 W6
  obtain ⟨_, c0, c1, c2, c3, _⟩ := id A7
  go_wp2_with fail
  refine (toForm_any p0 q0 r0 s0 _).mono ?_
  rintro e w8 ⟨rfl, hb8⟩
  have hz8 := hb8.size
  have U8 := gr_trans U7 hb8
  have V8 := V7.below hb8 (by omega)
  have W8 := W7.next hb8
  clear A7 U7 V7 W7 c0 c1 c2 c3
  go_wp2_with fail
  refine (HP.out _).mono ?_
  rintro e w9 ⟨u9, rfl, hX, hb9⟩
  have hz9 := hb9.size
  have U9 := gr_trans U8 hb9
  have V9 := V8.below hb9 (by omega)
  have W9 := W8.next hb9
  clear U8 V8 W8
  go_wp2_with fail
  refine (eqMX_any u9 v n g _ hX.rd (V9.rd (by omega))).mono ?_
  rintro e w10 ⟨rfl, hb10⟩
  have U10 := gr_trans U9 hb10
  have W10 := W9.next hb10
  clear U9 V9 W9 hX
  go_wp2_with fail
  refine (heldMX_any w3.heap.size u n _ W10 (by omega)).mono ?_
  rintro e w11 ⟨rfl, hb11⟩
  go_wp2
  go_ret
  exact ⟨rfl, gr_trans U10 hb11⟩

set_option maxRecDepth 100000 in
set_option maxHeartbeats 1000000 in
theorem FnExactAutomorphismsOf_lifted (os : Os) (started : os.Started) (H : Type) (enc : TypeId × Value → H) :
    ReturnsInHanded {} Try.checked os 4 .any (Rows.fnExactAutomorphismsOfSpec.pre6 enc Try.prog Try.f4 Rows.fnExactAutomorphismsOfRow.domain false) (Rows.fnExactAutomorphismsOfSpec.post enc Try.prog Try.f4 false true false false) := by
  refine returnsInHanded_of_change (C := Try.checked) own started (by kernel_rfl) Try.func4
    (ChangeSpec.witness6 (enc := enc) (C := Try.checked) false ⟨#[], #[.agg #[.int .i64 0, .int .i64 0, .int .i64 0, .int .i64 0]], []⟩ 8 (by kernel_rfl) (by kernel_rfl) (by kernel_rfl) (by kernel_rfl)) ?_
  intro W base args ds gs before hval0 hW hcnd _
  have hval : ∀ (j : Nat) t v, Try.f4.params[j]? = some t → args[j]? = some v → Value.okWide Try.prog W .any base t v := hval0
  have hW' := hW
  obtain ⟨p, q, hA0, hV, rfl, hfz, hnd⟩ := hW
  have hA : DataW.TrodAll enc Try.prog W 0 (fun _ => true) true Try.f4.params.toList args.toList ds p := hA0
  rw [Try.params4] at hA hval
  obtain ⟨v0, vs0, d0, ds0, p0, q0, hargs, rfl, rfl, h0, r0⟩ := trodAll_cons hA
  obtain ⟨rfl, rfl, rfl⟩ := trodAll_nil r0
  obtain rfl : args = #[v0] := by cases args; simp_all
  obtain ⟨rfl, rfl⟩ := trodVars_none hV
  have k0 := h0
  have lt0 : ∀ x ∈ p0, x.block < W.heap.size := by obtain ⟨m, hm⟩ := k0; exact DataW.trod_lt m _ _ _ hm
  obtain ⟨a0, b0, c0, e0, rfl, w0⟩ := open_arr4 Try.underlying22 Try.underlying2 (by kernel_rfl) (by kernel_rfl) (hval 0 22 v0 rfl rfl) h0
  clear hA0 hval0
  refine (FnExactAutomorphismsOf_walk a0 b0 c0 e0 w0 W).mono fun e W' ⟨he, bel⟩ => ?_
  subst he
  exact ⟨_, rfl, _, _, _, [], _, [], hW', trodAll_mk1 (shut_bool Try.underlying4 _), (trodAll_cons_mk (Below.trod laidOut (by kernel_rfl) (of_decide_eq_true (by kernel_rfl)) k0 bel lt0) trodAll_mk0), rfl, bel.frame _, fun h => by cases h⟩

set_option maxRecDepth 100000 in
set_option maxHeartbeats 1000000 in
theorem FnExactAutomorphismsOf_closed : joinedFacts Try.prog 4 Try.f4 Rows.fnExactAutomorphismsOfSpec Rows.fnExactAutomorphismsOfRow = true := by
  unfold joinedFacts
  exact clo_and (clo_and (clo_and (clo_and (clo_and (clo_and (clo_and (clo_and (clo_and (clo_and (clo_and (clo_and (clo_and (clo_and (clo_and (clo_and (clo_and (clo_and (clo_and (clo_and (clo_and (clo_and (clo_and (clo_and (clo_and (clo_and (clo_and (clo_and (clo_and (clo_and (clo_and (by kernel_rfl) laidOut) (by kernel_rfl)) (by kernel_rfl)) (by kernel_rfl)) (by kernel_rfl)) (by kernel_rfl)) (by kernel_rfl)) (by kernel_rfl)) (by kernel_rfl)) (by kernel_rfl)) (by kernel_rfl)) (by kernel_rfl)) (by kernel_rfl)) (by kernel_rfl)) (by kernel_rfl)) (by kernel_rfl)) (by kernel_rfl)) (by kernel_rfl)) (by kernel_rfl)) (by kernel_rfl)) (by kernel_rfl)) (by kernel_rfl)) (by kernel_rfl)) (by kernel_rfl)) clo_enter) clo_lifts) clo_make) (by kernel_rfl)) (by kernel_rfl)) (by kernel_rfl)) (by kernel_rfl)

/-- THE STATEMENT. -/
theorem FnExactAutomorphismsOf_holds : Rows.FnExactAutomorphismsOfSaid :=
  OpenClaim.holds_of_wide 4 Try.f4 rfl rfl rfl rfl rfl rfl rfl ⟨rfl, rfl, rfl, rfl, rfl⟩ rfl rfl rfl rfl rfl (by kernel_rfl) Try.func4 FnExactAutomorphismsOf_closed
    (of_decide_eq_true (by kernel_rfl)) (by unfold Func.isWrapper; first | (rw [if_pos (by decide +kernel)]; kernel_rfl) | (rw [if_neg (by decide +kernel)]; exact ⟨rfl, rfl⟩))
    (fun os started H enc _ => FnExactAutomorphismsOf_lifted os started H enc)
#print axioms FnExactAutomorphismsOf_holds

end Go.Proofs.Ytikmjefbjejbkaa
