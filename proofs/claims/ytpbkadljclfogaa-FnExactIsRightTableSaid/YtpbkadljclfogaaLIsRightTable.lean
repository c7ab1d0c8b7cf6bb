/- FnExactIsRightTable: IsRightTable answers as its model at every argument. No condition. -/
import Derived.Test.YtpbkadljclfogaaToE
import Derived.Test.YtpbkadljclfogaaE18
namespace Go.Proofs.Ytpbkadljclfogaa
open Go.ChangeShapes Go.WideShapes Go.ChangeAt Go.RowKit

theorem rdw_of {w : World} {B n : Nat} {t : TypeId} {g : Nat → Int} (h : w.rowIs B t (n * 3) (fun i => .int .i64 (g i))) (hn : n ≤ 1048576) : RdW w (.slice (some ⟨B, 0, none⟩) n n) n g :=
  .inr ⟨B, n, rfl, Nat.le_refl _, by unfold maxLen; omega, h.lt, fun i hi => h.cell (by omega)⟩

set_option maxRecDepth 100000 in
set_option maxHeartbeats 1000000 in
theorem FnExactIsRightTable_walk (w : World) (a : Option Addr) (len cap : Nat) (h : IsRowE w a len cap) :
    Calls Try.prog 13 #[.slice a len cap] w fun e w' => e = .returned (.bool true) ∧ Below w.heap.size w w' := by
  have hlen : len ≤ maxLen := by
    rcases h with ⟨_, rfl, _⟩ | ⟨x, _, h1, h2, _⟩
    · exact Nat.zero_le _
    · omega
  unfold maxLen at hlen
  obtain ⟨g, hG⟩ := RowG.of h
  clear h
  by_cases hbig : 1048576 < len
  · go_enter Try.func13, Try.ntmps13
    go_wp2_with (go_in)
    go_ret
    exact ⟨rfl, by (repeat' (first | with_reducible exact Below.refl _ _ | with_reducible assumption | with_reducible refine gr_alloc ?_ _ | with_reducible refine gr_drew ?_ | with_reducible refine gr_drewN ?_ _ | with_reducible refine gr_trans ?_ (by assumption) | with_reducible refine gr_set ?_ ?_ _ | (simp; done) | omega | (simp; omega)))⟩
  · have hl : len ≤ 1048576 := by omega
    have hs := fun v W => sIsRT_any v len g W
    have hp := fun v W => iIsRT_any v len g W
    generalize irt len g = yb at hs hp
    generalize tbc len g = yc at hs hp
    have HS := hid hs
    have HP := hid hp
    clear hs hp
    go_enter Try.func13, Try.ntmps13
    go_wp2_with (first | (go_at_call 50; fail) | (go_at_call 48; go_in))
    refine (toE_any a len cap g _ hG hl).mono ?_
    rintro e w1 ⟨rfl, hr1, hb1⟩
    have hG1 := hG.next hb1
    have hR1 := rdw_of hr1 hl
    clear hr1
    go_wp2_with fail
    refine (HS.out _ _ hR1).mono ?_
    rintro e w2 ⟨rfl, hb2⟩
    have hG2 := hG1.next hb2
    have U2 := gr_trans hb1 hb2
    clear hG1 hR1
    go_wp2_with fail
    refine (toE_any a len cap g _ hG2 hl).mono ?_
    rintro e w3 ⟨rfl, hr3, hb3⟩
    have hG3 := hG2.next hb3
    have U3 := gr_trans U2 hb3
    have hR3 := rdw_of hr3 hl
    clear hG2 U2 hr3
    go_wp2_with fail
    refine (HP.out _ _ hR3).mono ?_
    rintro e w4 ⟨rfl, hb4⟩
    have hG4 := hG3.next hb4
    have hR4 := hR3.next hb4
    have U4 := gr_trans U3 hb4
    clear hG3 hR3 U3
    go_wp2_with fail
    refine (toE_any a len cap g _ hG4 hl).mono ?_
    rintro e w6 ⟨rfl, hr6, hb6⟩
    have hR6 := rdw_of hr6 hl
    go_wp2_with fail
    refine (eqW_any _ _ len g _ (hR4.next hb6) hR6).mono ?_
    rintro e w7 ⟨rfl, hb7⟩
    go_wp2
    go_ret
    exact ⟨rfl, by (repeat' (first | with_reducible exact Below.refl _ _ | with_reducible assumption | with_reducible refine gr_alloc ?_ _ | with_reducible refine gr_drew ?_ | with_reducible refine gr_drewN ?_ _ | with_reducible refine gr_trans ?_ (by assumption) | with_reducible refine gr_set ?_ ?_ _ | (simp; done) | omega | (simp; omega)))⟩

set_option maxRecDepth 100000 in
set_option maxHeartbeats 1000000 in
theorem FnExactIsRightTable_lifted (os : Os) (started : os.Started) (H : Type) (enc : TypeId × Value → H) :
    ReturnsInHanded {} Try.checked os 13 .any (Rows.fnExactIsRightTableSpec.pre6 enc Try.prog Try.f13 Rows.fnExactIsRightTableRow.domain false) (Rows.fnExactIsRightTableSpec.post enc Try.prog Try.f13 false true false false) := by
  refine returnsInHanded_of_change (C := Try.checked) own started (by kernel_rfl) Try.func13
    (ChangeSpec.witness6 (enc := enc) (C := Try.checked) false ⟨#[], #[.slice none 0 0], []⟩ 8 (by kernel_rfl) (by kernel_rfl) (by kernel_rfl) (by kernel_rfl)) ?_
  intro W base args ds gs before hval0 hW hcnd _
  have hval : ∀ (j : Nat) t v, Try.f13.params[j]? = some t → args[j]? = some v → Value.okWide Try.prog W .any base t v := hval0
  have hW' := hW
  obtain ⟨p, q, hA0, hV, rfl, hfz, hnd⟩ := hW
  have hA : DataW.TrodAll enc Try.prog W 0 (fun _ => true) true Try.f13.params.toList args.toList ds p := hA0
  rw [Try.params13] at hA hval
  obtain ⟨v0, vs0, d0, ds0, p0, q0, hargs, rfl, rfl, h0, r0⟩ := trodAll_cons hA
  obtain ⟨rfl, rfl, rfl⟩ := trodAll_nil r0
  obtain rfl : args = #[v0] := by cases args; simp_all
  obtain ⟨rfl, rfl⟩ := trodVars_none hV
  have k0 := h0
  have lt0 : ∀ x ∈ p0, x.block < W.heap.size := by obtain ⟨m, hm⟩ := k0; exact DataW.trod_lt m _ _ _ hm
  obtain ⟨a0, len0, cap0, rfl⟩ := okWide_slice Try.underlying55 (hval 0 55 v0 rfl rfl)
  have w0 := open_rowE Try.underlying55 Try.underlying22 Try.underlying2 (by kernel_rfl) (by kernel_rfl) h0
  clear hA0 hval0
  refine (FnExactIsRightTable_walk W a0 len0 cap0 w0).mono fun e W' ⟨he, bel⟩ => ?_
  subst he
  exact ⟨_, rfl, _, _, _, [], _, [], hW', trodAll_mk1 (shut_bool Try.underlying4 _), (trodAll_cons_mk (Below.trod laidOut (by kernel_rfl) (of_decide_eq_true (by kernel_rfl)) k0 bel lt0) trodAll_mk0), rfl, bel.frame _, fun h => by cases h⟩

/-- THE STATEMENT. -/
theorem FnExactIsRightTable_holds : Rows.FnExactIsRightTableSaid :=
  OpenClaim.holds_of_wide 13 Try.f13 rfl rfl rfl rfl rfl rfl rfl ⟨rfl, rfl, rfl, rfl, rfl⟩ rfl rfl rfl rfl rfl (by kernel_rfl) Try.func13 (by kernel_rfl)
    (of_decide_eq_true (by kernel_rfl)) (by unfold Func.isWrapper; first | (rw [if_pos (by decide +kernel)]; kernel_rfl) | (rw [if_neg (by decide +kernel)]; exact ⟨rfl, rfl⟩))
    (fun os started H enc _ => FnExactIsRightTable_lifted os started H enc)
#print axioms FnExactIsRightTable_holds

end Go.Proofs.Ytpbkadljclfogaa
