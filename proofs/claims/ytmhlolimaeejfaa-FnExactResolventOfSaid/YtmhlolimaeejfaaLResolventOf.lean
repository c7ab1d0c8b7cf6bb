/- FnExactResolventOf: ResolventOf answers as its model at every argument. No condition. -/
import Derived.Test.YtmhlolimaeejfaaClo
import Derived.Test.YtmhlolimaeejfaaOpen
import Derived.Test.YtmhlolimaeejfaaYr
namespace Go.Proofs.Ytmhlolimaeejfaa
open Go.ChangeShapes Go.WideShapes Go.ChangeAt Go.RowKit

set_option maxRecDepth 100000 in
set_option maxHeartbeats 2000000 in
theorem FnExactResolventOf_walk (n0 : Int) (_ : (Lit.int .i64 n0).wf = true) (w : World) :
    Calls Try.prog 16 #[.int .i64 n0] w fun e w' => e = .returned (.bool true) ∧ Below w.heap.size w w' := by
  have HS := hid (fun W => sRes_any n0 W)
  have HP := hid (fun W => iRes_any n0 W)
  go_enter Try.func16, Try.ntmps16
  go_wp2_with fail
  refine (HS.out _).mono ?_
  rintro e w1 ⟨d, f, rfl, h1, hb1⟩
  have H1 := hid h1
  clear h1
  go_wp2_with fail
  refine (HP.out _).mono ?_
  rintro e w2 ⟨d2, f2, rfl, h2, hb2⟩
  obtain ⟨rfl, rfl⟩ := H1.out.one h2
  clear h2 H1
  go_wp2
  go_ret
  exact ⟨rfl, gr_trans hb1 hb2⟩

set_option maxRecDepth 100000 in
set_option maxHeartbeats 1000000 in
theorem FnExactResolventOf_lifted (os : Os) (started : os.Started) (H : Type) (enc : TypeId × Value → H) :
    ReturnsInHanded {} Try.checked os 16 .any (Rows.fnExactResolventOfSpec.pre6 enc Try.prog Try.f16 Rows.fnExactResolventOfRow.domain false) (Rows.fnExactResolventOfSpec.post enc Try.prog Try.f16 false true false false) := by
  refine returnsInHanded_of_change (C := Try.checked) own started (by kernel_rfl) Try.func16
    (ChangeSpec.witness6 (enc := enc) (C := Try.checked) false ⟨#[], #[.int .i64 0], []⟩ 8 (by kernel_rfl) (by kernel_rfl) (by kernel_rfl) (by kernel_rfl)) ?_
  intro W base args ds gs before hval0 hW hcnd _
  have hval : ∀ (j : Nat) t v, Try.f16.params[j]? = some t → args[j]? = some v → Value.okWide Try.prog W .any base t v := hval0
  have hW' := hW
  obtain ⟨p, q, hA0, hV, rfl, hfz, hnd⟩ := hW
  have hA : DataW.TrodAll enc Try.prog W 0 (fun _ => true) true Try.f16.params.toList args.toList ds p := hA0
  rw [Try.params16] at hA hval
  obtain ⟨v0, vs0, d0, ds0, p0, q0, hargs, rfl, rfl, h0, r0⟩ := trodAll_cons hA
  obtain ⟨rfl, rfl, rfl⟩ := trodAll_nil r0
  obtain rfl : args = #[v0] := by cases args; simp_all
  obtain ⟨rfl, rfl⟩ := trodVars_none hV
  have k0 := h0
  have lt0 : ∀ x ∈ p0, x.block < W.heap.size := by obtain ⟨m, hm⟩ := k0; exact DataW.trod_lt m _ _ _ hm
  obtain ⟨a0, rfl, _, _, w0⟩ := open_int Try.underlying2 (hval 0 2 v0 rfl rfl) h0
  clear hA0 hval0
  refine (FnExactResolventOf_walk a0 w0 W).mono fun e W' ⟨he, bel⟩ => ?_
  subst he
  exact ⟨_, rfl, _, _, _, [], _, [], hW', trodAll_mk1 (shut_bool Try.underlying4 _), (trodAll_cons_mk (Below.trod laidOut (by kernel_rfl) (of_decide_eq_true (by kernel_rfl)) k0 bel lt0) trodAll_mk0), rfl, bel.frame _, fun h => by cases h⟩

set_option maxRecDepth 100000 in
set_option maxHeartbeats 1000000 in
theorem FnExactResolventOf_closed : joinedFacts Try.prog 16 Try.f16 Rows.fnExactResolventOfSpec Rows.fnExactResolventOfRow = true := by
  unfold joinedFacts
  exact clo_and (clo_and (clo_and (clo_and (clo_and (clo_and (clo_and (clo_and (clo_and (clo_and (clo_and (clo_and (clo_and (clo_and (clo_and (clo_and (clo_and (clo_and (clo_and (clo_and (clo_and (clo_and (clo_and (clo_and (clo_and (clo_and (clo_and (clo_and (clo_and (clo_and (clo_and (by kernel_rfl) laidOut) (by kernel_rfl)) (by kernel_rfl)) (by kernel_rfl)) (by kernel_rfl)) (by kernel_rfl)) (by kernel_rfl)) (by kernel_rfl)) (by kernel_rfl)) (by kernel_rfl)) (by kernel_rfl)) (by kernel_rfl)) (by kernel_rfl)) (by kernel_rfl)) (by kernel_rfl)) (by kernel_rfl)) (by kernel_rfl)) (by kernel_rfl)) (by kernel_rfl)) (by kernel_rfl)) (by kernel_rfl)) (by kernel_rfl)) (by kernel_rfl)) (by kernel_rfl)) clo_enter) clo_lifts) clo_make) (by kernel_rfl)) (by kernel_rfl)) (by kernel_rfl)) (by kernel_rfl)

/-- THE STATEMENT. -/
theorem FnExactResolventOf_holds : Rows.FnExactResolventOfSaid :=
  OpenClaim.holds_of_wide 16 Try.f16 rfl rfl rfl rfl rfl rfl rfl ⟨rfl, rfl, rfl, rfl, rfl⟩ rfl rfl rfl rfl rfl (by kernel_rfl) Try.func16 FnExactResolventOf_closed
    (of_decide_eq_true (by kernel_rfl)) (by unfold Func.isWrapper; first | (rw [if_pos (by decide +kernel)]; kernel_rfl) | (rw [if_neg (by decide +kernel)]; exact ⟨rfl, rfl⟩))
    (fun os started H enc _ => FnExactResolventOf_lifted os started H enc)
#print axioms FnExactResolventOf_holds

end Go.Proofs.Ytmhlolimaeejfaa
