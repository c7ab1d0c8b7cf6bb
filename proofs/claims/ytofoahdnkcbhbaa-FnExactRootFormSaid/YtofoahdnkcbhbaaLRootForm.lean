/- FnExactRootForm: RootForm answers as its model at every argument. No condition. -/
import Derived.Test.YtofoahdnkcbhbaaOpen
import Derived.Test.YtofoahdnkcbhbaaZa
namespace Go.Proofs.Ytofoahdnkcbhbaa
open Go.ChangeShapes Go.WideShapes Go.ChangeAt Go.RowKit

set_option maxHeartbeats 1000000 in
theorem FnExactRootForm_walk (p0 q0 r0 s0 : Int) (_ : Wf4 p0 q0 r0 s0) (w : World) :
    Calls Try.prog 10 #[.agg #[.int .i64 p0, .int .i64 q0, .int .i64 r0, .int .i64 s0]] w fun e w' => e = .returned (.bool true) ∧ Below w.heap.size w w' := by
  go_enter Try.func10, Try.ntmps10
  go_wp2_with fail
  refine (toForm_any p0 q0 r0 s0 _).mono ?_
  rintro e w1 ⟨rfl, hb1⟩
  have A0_1 := (Arr.new w p0 q0 r0 s0 41).next hb1
  go_wp2_with fail
  refine (sRootForm_any p0 q0 r0 s0 _).mono ?_
  rintro e w2 ⟨rfl, hb2⟩
  have A0_2 := (A0_1).next hb2
  obtain ⟨_, h0, h1, h2, h3, _⟩ := id A0_2
  go_wp2_with fail
  refine (toForm_any p0 q0 r0 s0 _).mono ?_
  rintro e w3 ⟨rfl, hb3⟩
  have A0_3 := (A0_2.alloc _).next hb3
  have V_3 := (Arr3.new w2 _ _ _ 25).next hb3
  go_wp2_with fail
  refine (iRootForm_any p0 q0 r0 s0 _).mono ?_
  rintro e w4 ⟨rfl, hb4⟩
  have A0_4 := (A0_3).next hb4
  have V_4 := V_3.next hb4
  obtain ⟨hlt, v0, v1, v2, _⟩ := id V_4
  go_wp2_with fail
  refine (eqQuadratic_same _ _ _ _).mono ?_
  rintro e w5 ⟨rfl, hb5⟩
  go_wp2
  go_ret
  exact ⟨rfl, by (repeat' (first | with_reducible exact Below.refl _ _ | with_reducible assumption | with_reducible refine gr_alloc ?_ _ | with_reducible refine gr_drew ?_ | with_reducible refine gr_drewN ?_ _ | with_reducible refine gr_trans ?_ (by assumption) | with_reducible refine gr_set ?_ ?_ _ | (simp; done) | omega | (simp; omega)))⟩

set_option maxRecDepth 100000 in
set_option maxHeartbeats 1000000 in
theorem FnExactRootForm_lifted (os : Os) (started : os.Started) (H : Type) (enc : TypeId × Value → H) :
    ReturnsInHanded {} Try.checked os 10 .any (Rows.fnExactRootFormSpec.pre6 enc Try.prog Try.f10 Rows.fnExactRootFormRow.domain false) (Rows.fnExactRootFormSpec.post enc Try.prog Try.f10 false true false false) := by
  refine returnsInHanded_of_change (C := Try.checked) own started (by kernel_rfl) Try.func10
    (ChangeSpec.witness6 (enc := enc) (C := Try.checked) false ⟨#[], #[.agg #[.int .i64 0, .int .i64 0, .int .i64 0, .int .i64 0]], []⟩ 8 (by kernel_rfl) (by kernel_rfl) (by kernel_rfl) (by kernel_rfl)) ?_
  intro W base args ds gs before hval0 hW hcnd _
  have hval : ∀ (j : Nat) t v, Try.f10.params[j]? = some t → args[j]? = some v → Value.okWide Try.prog W .any base t v := hval0
  have hW' := hW
  obtain ⟨p, q, hA0, hV, rfl, hfz, hnd⟩ := hW
  have hA : DataW.TrodAll enc Try.prog W 0 (fun _ => true) true Try.f10.params.toList args.toList ds p := hA0
  rw [Try.params10] at hA hval
  obtain ⟨v0, vs0, d0, ds0, p0, q0, hargs, rfl, rfl, h0, r0⟩ := trodAll_cons hA
  obtain ⟨rfl, rfl, rfl⟩ := trodAll_nil r0
  obtain rfl : args = #[v0] := by cases args; simp_all
  obtain ⟨rfl, rfl⟩ := trodVars_none hV
  have k0 := h0
  have lt0 : ∀ x ∈ p0, x.block < W.heap.size := by obtain ⟨m, hm⟩ := k0; exact DataW.trod_lt m _ _ _ hm
  obtain ⟨a0, b0, c0, e0, rfl, w0⟩ := open_arr4 Try.underlying41 Try.underlying2 (by kernel_rfl) (by kernel_rfl) (hval 0 41 v0 rfl rfl) h0
  clear hA0 hval0
  refine (FnExactRootForm_walk a0 b0 c0 e0 w0 W).mono fun e W' ⟨he, bel⟩ => ?_
  subst he
  exact ⟨_, rfl, _, _, _, [], _, [], hW', trodAll_mk1 (shut_bool Try.underlying4 _), (trodAll_cons_mk (Below.trod laidOut (by kernel_rfl) (of_decide_eq_true (by kernel_rfl)) k0 bel lt0) trodAll_mk0), rfl, bel.frame _, fun h => by cases h⟩

/-- THE STATEMENT. -/
theorem FnExactRootForm_holds : Rows.FnExactRootFormSaid :=
  OpenClaim.holds_of_wide 10 Try.f10 rfl rfl rfl rfl rfl rfl rfl ⟨rfl, rfl, rfl, rfl, rfl⟩ rfl rfl rfl rfl rfl (by kernel_rfl) Try.func10 (by kernel_rfl)
    (of_decide_eq_true (by kernel_rfl)) (by unfold Func.isWrapper; first | (rw [if_pos (by decide +kernel)]; kernel_rfl) | (rw [if_neg (by decide +kernel)]; exact ⟨rfl, rfl⟩))
    (fun os started H enc _ => FnExactRootForm_lifted os started H enc)
#print axioms FnExactRootForm_holds

end Go.Proofs.Ytofoahdnkcbhbaa
