/- FnExactFormOfTable: FormOfTable answers as its model at every argument. No condition. -/
import Derived.Test.YtpbkadljclfogaaToE
import Derived.Test.YtpbkadljclfogaaE18
import Derived.Test.YtpbkadljclfogaaC1k
namespace Go.Proofs.Ytpbkadljclfogaa
open Go.ChangeShapes Go.WideShapes Go.ChangeAt Go.RowKit

theorem rdw_of {w : World} {B n : Nat} {t : TypeId} {g : Nat → Int} (h : w.rowIs B t (n * 3) (fun i => .int .i64 (g i))) (hn : n ≤ 1048576) : RdW w (.slice (some ⟨B, 0, none⟩) n n) n g :=
  .inr ⟨B, n, rfl, Nat.le_refl _, by unfold maxLen; omega, h.lt, fun i hi => h.cell (by omega)⟩

set_option maxRecDepth 100000 in
set_option maxHeartbeats 1000000 in
theorem FnExactFormOfTable_walk (w : World) (a : Option Addr) (len cap : Nat) (h : IsRowE w a len cap) :
    Calls Try.prog 14 #[.slice a len cap] w fun e w' => e = .returned (.bool true) ∧ Below w.heap.size w w' := by
  have hlen : len ≤ maxLen := by
    rcases h with ⟨_, rfl, _⟩ | ⟨x, _, h1, h2, _⟩
    · exact Nat.zero_le _
    · omega
  unfold maxLen at hlen
  obtain ⟨g, hG⟩ := RowG.of h
  clear h
  by_cases hbig : 1048576 < len
  · go_enter Try.func14, Try.ntmps14
    go_wp2_with (go_in)
    go_ret
    exact ⟨rfl, by (repeat' (first | with_reducible exact Below.refl _ _ | with_reducible assumption | with_reducible refine gr_alloc ?_ _ | with_reducible refine gr_drew ?_ | with_reducible refine gr_drewN ?_ _ | with_reducible refine gr_trans ?_ (by assumption) | with_reducible refine gr_set ?_ ?_ _ | (simp; done) | omega | (simp; omega)))⟩
  · have hl : len ≤ 1048576 := by omega
    have hs := fun v W => sFOT_any v len g W
    have hp := fun v W => iFOT_any v len g W
    generalize if0 (foc len g) (ng (g 2)) = y0 at hs hp
    generalize if0 (foc len g) (fo1 g) = y1 at hs hp
    generalize if0 (foc len g) (fo2 g) = y2 at hs hp
    generalize if0 (foc len g) (g 7) = y3 at hs hp
    generalize foc len g = yc at hs hp
    have HS := hid hs
    have HP := hid hp
    clear hs hp
    go_enter Try.func14, Try.ntmps14
    go_wp2_with (first | (go_at_call 50; fail) | (go_at_call 48; go_in))
    refine (toE_any a len cap g _ hG hl).mono ?_
    rintro e w1 ⟨rfl, hr1, hb1⟩
    have hG1 := hG.next hb1
    have hR1 := rdw_of hr1 hl
    clear hr1
    go_wp2_with fail
    refine (HS.out _ _ hR1).mono ?_
    rintro e w2 ⟨rfl, hb2⟩
    have hG2 := hG1.next hb2
    have U2 := gr_trans hb1 hb2
    clear hG1 hR1
    go_wp2_with fail
    have V2 := Arr.new w2 y0 y1 y2 y3 30
    refine (toE_any a len cap g _ (hG2.next (gr_alloc (Below.refl _ _) _)) hl).mono ?_
    rintro e w3 ⟨rfl, hr3, hb3⟩
    simp only [World.size_alloc] at hr3
    have hG3 := (hG2.next (gr_alloc (Below.refl _ _) _)).next hb3
    have V3 := V2.next hb3
    have U3 := gr_trans (gr_alloc U2 (.cells #[.int .i64 y0, .int .i64 y1, .int .i64 y2, .int .i64 y3] 30)) hb3
    have hR3 := rdw_of hr3 hl
    clear hG2 U2 hr3 V2
    go_wp2_with fail
    refine (HP.out _ _ hR3).mono ?_
    rintro e w4 ⟨rfl, hb4⟩
    have hG4 := (hG3.next hb4).next (gr_alloc (Below.refl _ _) (.cells #[.int .i64 y0, .int .i64 y1, .int .i64 y2, .int .i64 y3] 30))
    have hR4 := (hR3.next hb4).next (gr_alloc (Below.refl _ _) (.cells #[.int .i64 y0, .int .i64 y1, .int .i64 y2, .int .i64 y3] 30))
    have V4 := (V3.next hb4).alloc (.cells #[.int .i64 y0, .int .i64 y1, .int .i64 y2, .int .i64 y3] 30)
    have X4 := Arr.new w4 y0 y1 y2 y3 30
    have U4 := gr_alloc (gr_trans U3 hb4) (.cells #[.int .i64 y0, .int .i64 y1, .int .i64 y2, .int .i64 y3] 30)
    clear hG3 hR3 V3 U3
    obtain ⟨_, v0, v1, v2, v3, _⟩ := id V4
    obtain ⟨_, x0, x1, x2, x3, _⟩ := id X4
    go_wp2_with fail
    refine (eqForm_same _ _ _ _ _).mono ?_
    rintro e w5 ⟨rfl, hb5⟩
    have hG5 := hG4.next hb5
    have hR5 := hR4.next hb5
    have U5 := gr_trans U4 hb5
    clear hG4 hR4 U4
    go_wp2_with fail
    refine (toE_any a len cap g _ hG5 hl).mono ?_
    rintro e w6 ⟨rfl, hr6, hb6⟩
    have hR6 := rdw_of hr6 hl
    go_wp2_with fail
    refine (eqW_any _ _ len g _ (hR5.next hb6) hR6).mono ?_
    rintro e w7 ⟨rfl, hb7⟩
    go_wp2
    go_ret
    exact ⟨rfl, by (repeat' (first | with_reducible exact Below.refl _ _ | with_reducible assumption | with_reducible refine gr_alloc ?_ _ | with_reducible refine gr_drew ?_ | with_reducible refine gr_drewN ?_ _ | with_reducible refine gr_trans ?_ (by assumption) | with_reducible refine gr_set ?_ ?_ _ | (simp; done) | omega | (simp; omega)))⟩

set_option maxRecDepth 100000 in
set_option maxHeartbeats 1000000 in
theorem FnExactFormOfTable_lifted (os : Os) (started : os.Started) (H : Type) (enc : TypeId × Value → H) :
    ReturnsInHanded {} Try.checked os 14 .any (Rows.fnExactFormOfTableSpec.pre6 enc Try.prog Try.f14 Rows.fnExactFormOfTableRow.domain false) (Rows.fnExactFormOfTableSpec.post enc Try.prog Try.f14 false true false false) := by
  refine returnsInHanded_of_change (C := Try.checked) own started (by kernel_rfl) Try.func14
    (ChangeSpec.witness6 (enc := enc) (C := Try.checked) false ⟨#[], #[.slice none 0 0], []⟩ 8 (by kernel_rfl) (by kernel_rfl) (by kernel_rfl) (by kernel_rfl)) ?_
  intro W base args ds gs before hval0 hW hcnd _
  have hval : ∀ (j : Nat) t v, Try.f14.params[j]? = some t → args[j]? = some v → Value.okWide Try.prog W .any base t v := hval0
  have hW' := hW
  obtain ⟨p, q, hA0, hV, rfl, hfz, hnd⟩ := hW
  have hA : DataW.TrodAll enc Try.prog W 0 (fun _ => true) true Try.f14.params.toList args.toList ds p := hA0
  rw [Try.params14] at hA hval
  obtain ⟨v0, vs0, d0, ds0, p0, q0, hargs, rfl, rfl, h0, r0⟩ := trodAll_cons hA
  obtain ⟨rfl, rfl, rfl⟩ := trodAll_nil r0
  obtain rfl : args = #[v0] := by cases args; simp_all
  obtain ⟨rfl, rfl⟩ := trodVars_none hV
  have k0 := h0
  have lt0 : ∀ x ∈ p0, x.block < W.heap.size := by obtain ⟨m, hm⟩ := k0; exact DataW.trod_lt m _ _ _ hm
  obtain ⟨a0, len0, cap0, rfl⟩ := okWide_slice Try.underlying55 (hval 0 55 v0 rfl rfl)
  have w0 := open_rowE Try.underlying55 Try.underlying22 Try.underlying2 (by kernel_rfl) (by kernel_rfl) h0
  clear hA0 hval0
  refine (FnExactFormOfTable_walk W a0 len0 cap0 w0).mono fun e W' ⟨he, bel⟩ => ?_
  subst he
  exact ⟨_, rfl, _, _, _, [], _, [], hW', trodAll_mk1 (shut_bool Try.underlying4 _), (trodAll_cons_mk (Below.trod laidOut (by kernel_rfl) (of_decide_eq_true (by kernel_rfl)) k0 bel lt0) trodAll_mk0), rfl, bel.frame _, fun h => by cases h⟩

/-- THE STATEMENT. -/
theorem FnExactFormOfTable_holds : Rows.FnExactFormOfTableSaid :=
  OpenClaim.holds_of_wide 14 Try.f14 rfl rfl rfl rfl rfl rfl rfl ⟨rfl, rfl, rfl, rfl, rfl⟩ rfl rfl rfl rfl rfl (by kernel_rfl) Try.func14 (by kernel_rfl)
    (of_decide_eq_true (by kernel_rfl)) (by unfold Func.isWrapper; first | (rw [if_pos (by decide +kernel)]; kernel_rfl) | (rw [if_neg (by decide +kernel)]; exact ⟨rfl, rfl⟩))
    (fun os started H enc _ => FnExactFormOfTable_lifted os started H enc)
#print axioms FnExactFormOfTable_holds

end Go.Proofs.Ytpbkadljclfogaa
