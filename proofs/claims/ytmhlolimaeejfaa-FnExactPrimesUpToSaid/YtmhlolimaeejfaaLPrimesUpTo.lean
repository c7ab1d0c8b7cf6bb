/- FnExactPrimesUpTo: PrimesUpTo answers as its model at every argument; its answer owns its memory. No condition. -/
import Derived.Test.YtmhlolimaeejfaaClo
import Derived.Test.YtmhlolimaeejfaaOpen
import Derived.Test.YtmhlolimaeejfaaList2
import Derived.Test.YtmhlolimaeejfaaPl
namespace Go.Proofs.Ytmhlolimaeejfaa
open Go.ChangeShapes Go.WideShapes Go.ChangeAt Go.RowKit

set_option maxRecDepth 100000 in
set_option maxHeartbeats 2000000 in
theorem FnExactPrimesUpTo_walk (n0 : Int) (_ : (Lit.int .i64 n0).wf = true) (w : World) :
    Calls Try.prog 9 #[.int .i64 n0] w fun e w' => e = .returned (.bool true) ∧ Below w.heap.size w w' := by
  have hs := fun W => sPrimesUpTo_any n0 W
  have hp := fun W => iPrimesUpTo_any n0 W
  have hl : (if (nco n0) = 0 then (prl (n0.toNat + 1)).length else 0) ≤ 1000 := prl_le n0
  unfold LstOut at hs hp
  generalize (if (nco n0) = 0 then (prl (n0.toNat + 1)).length else 0) = n at hs hp hl
  generalize (nco n0) = k at hs hp
  generalize (fun i => (prl (n0.toNat + 1)).getD i 0) = g at hs hp
  have HS := hid hs
  have HP := hid hp
  clear hs hp
  go_enter Try.func9, Try.ntmps9
  go_wp2_with fail
  refine (HS.out _).mono ?_
  rintro e w2 ⟨v, rfl, hV, hb2⟩
  have V2 := hV.rdB
  clear hV
  go_wp2_with fail
  refine (HP.out _).mono ?_
  rintro e w4 ⟨u, rfl, hW, hb4⟩
  have hz2 := hb2.size
  have hz4 := hb4.size
  have U4 := gr_trans hb2 hb4
  have V4 := V2.below hb4 (Nat.le_refl _)
  clear V2
  go_wp2_with fail
  refine (eqI_any u v n g _ hW.rd (V4.rd hz4)).mono ?_
  rintro e w5 ⟨rfl, hb5⟩
  have hz5 := hb5.size
  have U5 := gr_trans U4 hb5
  have V5 := V4.below hb5 hz4
  have W5 := hW.next hb5
  clear U4 V4 hW
  go_wp2_with fail
  refine (markI_any w2.heap.size u n g _ W5 hl).mono ?_
  rintro e w6 ⟨rfl, W6, hb6⟩
  have hz6 := hb6.size
  have U6 : Below w.heap.size w w6 := U5.trans (hb6.mono hz2)
  have V6 := V5.below hb6 (Nat.le_refl _)
  clear U5 V5 W5
  go_wp2_with fail
  refine (heldI_any w2.heap.size u n _ W6 hl).mono ?_
  rintro e w7 ⟨rfl, hb7⟩
  have hz7 := hb7.size
  have U7 := gr_trans U6 hb7
  have V7 := V6.below hb7 (by omega)
  have W7 := W6.next hb7
  clear U6 V6 W6
  go_wp2_with fail
  refine (HP.out _).mono ?_
  rintro e w9 ⟨u9, rfl, hX, hb9⟩
  have hz9 := hb9.size
  have U9 := gr_trans U7 hb9
  have V9 := V7.below hb9 (by omega)
  have W9 := W7.next hb9
  clear V7 W7 U7
  go_wp2_with fail
  refine (eqI_any u9 v n g _ hX.rd (V9.rd (by omega))).mono ?_
  rintro e w10 ⟨rfl, hb10⟩
  have U10 := gr_trans U9 hb10
  have W10 := W9.next hb10
  clear U9 V9 W9 hX
  go_wp2_with fail
  refine (heldI_any w2.heap.size u n _ W10 hl).mono ?_
  rintro e w11 ⟨rfl, hb11⟩
  go_wp2
  go_ret
  exact ⟨rfl, gr_trans U10 hb11⟩

set_option maxRecDepth 100000 in
set_option maxHeartbeats 1000000 in
theorem FnExactPrimesUpTo_lifted (os : Os) (started : os.Started) (H : Type) (enc : TypeId × Value → H) :
    ReturnsInHanded {} Try.checked os 9 .any (Rows.fnExactPrimesUpToSpec.pre6 enc Try.prog Try.f9 Rows.fnExactPrimesUpToRow.domain false) (Rows.fnExactPrimesUpToSpec.post enc Try.prog Try.f9 false true false false) := by
  refine returnsInHanded_of_change (C := Try.checked) own started (by kernel_rfl) Try.func9
    (ChangeSpec.witness6 (enc := enc) (C := Try.checked) false ⟨#[], #[.int .i64 0], []⟩ 8 (by kernel_rfl) (by kernel_rfl) (by kernel_rfl) (by kernel_rfl)) ?_
  intro W base args ds gs before hval0 hW hcnd _
  have hval : ∀ (j : Nat) t v, Try.f9.params[j]? = some t → args[j]? = some v → Value.okWide Try.prog W .any base t v := hval0
  have hW' := hW
  obtain ⟨p, q, hA0, hV, rfl, hfz, hnd⟩ := hW
  have hA : DataW.TrodAll enc Try.prog W 0 (fun _ => true) true Try.f9.params.toList args.toList ds p := hA0
  rw [Try.params9] at hA hval
  obtain ⟨v0, vs0, d0, ds0, p0, q0, hargs, rfl, rfl, h0, r0⟩ := trodAll_cons hA
  obtain ⟨rfl, rfl, rfl⟩ := trodAll_nil r0
  obtain rfl : args = #[v0] := by cases args; simp_all
  obtain ⟨rfl, rfl⟩ := trodVars_none hV
  have k0 := h0
  have lt0 : ∀ x ∈ p0, x.block < W.heap.size := by obtain ⟨m, hm⟩ := k0; exact DataW.trod_lt m _ _ _ hm
  obtain ⟨a0, rfl, _, _, w0⟩ := open_int Try.underlying2 (hval 0 2 v0 rfl rfl) h0
  clear hA0 hval0
  refine (FnExactPrimesUpTo_walk a0 w0 W).mono fun e W' ⟨he, bel⟩ => ?_
  subst he
  exact ⟨_, rfl, _, _, _, [], _, [], hW', trodAll_mk1 (shut_bool Try.underlying4 _), (trodAll_cons_mk (Below.trod laidOut (by kernel_rfl) (of_decide_eq_true (by kernel_rfl)) k0 bel lt0) trodAll_mk0), rfl, bel.frame _, fun h => by cases h⟩

set_option maxRecDepth 100000 in
set_option maxHeartbeats 1000000 in
theorem FnExactPrimesUpTo_closed : joinedFacts Try.prog 9 Try.f9 Rows.fnExactPrimesUpToSpec Rows.fnExactPrimesUpToRow = true := by
  unfold joinedFacts
  exact clo_and (clo_and (clo_and (clo_and (clo_and (clo_and (clo_and (clo_and (clo_and (clo_and (clo_and (clo_and (clo_and (clo_and (clo_and (clo_and (clo_and (clo_and (clo_and (clo_and (clo_and (clo_and (clo_and (clo_and (clo_and (clo_and (clo_and (clo_and (clo_and (clo_and (clo_and (by kernel_rfl) laidOut) (by kernel_rfl)) (by kernel_rfl)) (by kernel_rfl)) (by kernel_rfl)) (by kernel_rfl)) (by kernel_rfl)) (by kernel_rfl)) (by kernel_rfl)) (by kernel_rfl)) (by kernel_rfl)) (by kernel_rfl)) (by kernel_rfl)) (by kernel_rfl)) (by kernel_rfl)) (by kernel_rfl)) (by kernel_rfl)) (by kernel_rfl)) (by kernel_rfl)) (by kernel_rfl)) (by kernel_rfl)) (by kernel_rfl)) (by kernel_rfl)) (by kernel_rfl)) clo_enter) clo_lifts) clo_make) (by kernel_rfl)) (by kernel_rfl)) (by kernel_rfl)) (by kernel_rfl)

/-- THE STATEMENT. -/
theorem FnExactPrimesUpTo_holds : Rows.FnExactPrimesUpToSaid :=
  OpenClaim.holds_of_wide 9 Try.f9 rfl rfl rfl rfl rfl rfl rfl ⟨rfl, rfl, rfl, rfl, rfl⟩ rfl rfl rfl rfl rfl (by kernel_rfl) Try.func9 FnExactPrimesUpTo_closed
    (of_decide_eq_true (by kernel_rfl)) (by unfold Func.isWrapper; first | (rw [if_pos (by decide +kernel)]; kernel_rfl) | (rw [if_neg (by decide +kernel)]; exact ⟨rfl, rfl⟩))
    (fun os started H enc _ => FnExactPrimesUpTo_lifted os started H enc)
#print axioms FnExactPrimesUpTo_holds

end Go.Proofs.Ytmhlolimaeejfaa
