/- FnExactFormThrough: FormThrough answers as its model at every argument, and leaves the argument as it was. No condition. -/
import Derived.Test.YtmacdknamcdjeaaOpen
import Derived.Test.YtmacdknamcdjeaaC1w
import Derived.Test.YtmacdknamcdjeaaC1k
namespace Go.Proofs.Ytmacdknamcdjeaa
open Go.ChangeShapes Go.WideShapes Go.ChangeAt Go.RowKit

theorem IsRow.next {w w' : World} {a : Option Addr} {len cap : Nat} {zs : List Int} (h : IsRow .i64 w a len cap zs) (hb : Below w.heap.size w w') : IsRow .i64 w' a len cap zs := by
  rcases h with h | ⟨x, h1, h2, h3, h4, h5, h6⟩
  · exact .inl h
  · refine .inr ⟨x, h1, h2, h3, h4, fun i hi => ?_, h6⟩
    exact (hb.cell (p := x.add i) (World.block_lt_of_cell? w (x.add i) (h5 i hi))).trans (h5 i hi)

set_option maxRecDepth 100000 in
set_option maxHeartbeats 2000000 in
theorem FnExactFormThrough_walk (w : World) (a0 : Option Addr) (len0 cap0 : Nat) (z0 : List Int) (hR : IsRow .i64 w a0 len0 cap0 z0) :
    Calls Try.prog 4 #[.slice a0 len0 cap0] w fun e w' => e = .returned (.bool true) ∧ Below w.heap.size w w' := by
  have hcb : len0 ≤ cap0 ∧ cap0 ≤ maxLen := by
    rcases hR with ⟨_, rfl, rfl, _⟩ | ⟨_, _, h2, h3, _⟩
    · exact ⟨Nat.le_refl _, by unfold maxLen; omega⟩
    · exact ⟨h2, h3⟩
  obtain ⟨hlc, hcm⟩ := hcb
  unfold maxLen at hcm
  have HR := hid hR
  clear hR
  by_cases hl : len0 ≤ 1048576
  · go_enter Try.func4, Try.ntmps4
    go_wp2_with fail
    refine (toI_any a0 len0 cap0 z0 _ HR.out hl).mono ?_
    rintro e w1 ⟨rfl, hrow1, hb1⟩
    have hrd1 := Rd.of_row hrow1 (by unfold maxLen; omega)
    have HR1 := hid (HR.out.next hb1)
    have U1 := hb1
    clear hrow1 hb1 HR
    obtain ⟨g, hg⟩ : ∃ g, g = fun i => z0.getD i 0 := ⟨_, rfl⟩
    rw [← hg] at hrd1
    have HG := hid hg
    clear hg
    go_wp2_with fail
    refine (sFT_any _ len0 g _ hrd1).mono ?_
    rintro e w2 ⟨rfl, hb2⟩
    have HR2 := hid (HR1.out.next hb2)
    have U2 := gr_trans U1 hb2
    clear hrd1 HR1 U1 hb2
    have X2 := Arr.new w2 (thn len0 g (g 0)) (thn len0 g ((g 2 - g 3 - 2 * g 1) / 2)) (thn len0 g ((g 2 + g 3 - 2 * g 0) / 2)) (thn len0 g (g 1)) 23
    have U3 := gr_alloc U2 (.cells #[.int .i64 (thn len0 g (g 0)), .int .i64 (thn len0 g ((g 2 - g 3 - 2 * g 1) / 2)), .int .i64 (thn len0 g ((g 2 + g 3 - 2 * g 0) / 2)), .int .i64 (thn len0 g (g 1))] 23)
    have HR3 := hid (HR2.out.next (gr_alloc (Below.refl _ w2) (.cells #[.int .i64 (thn len0 g (g 0)), .int .i64 (thn len0 g ((g 2 - g 3 - 2 * g 1) / 2)), .int .i64 (thn len0 g ((g 2 + g 3 - 2 * g 0) / 2)), .int .i64 (thn len0 g (g 1))] 23)))
    clear HR2 U2
    go_wp2_with fail
    refine (toI_any a0 len0 cap0 z0 _ HR3.out hl).mono ?_
    rintro e w4 ⟨rfl, hrow4, hb4⟩
    simp only [World.size_alloc] at hrow4
    have hrd4 := Rd.of_row hrow4 (by unfold maxLen; omega)
    rw [← HG.out] at hrd4
    have X4 := X2.next hb4
    have HR4 := hid (HR3.out.next hb4)
    have U4 := gr_trans U3 hb4
    clear X2 HR3 U3 hrow4 hb4
    go_wp2_with fail
    refine (iFT_any _ len0 g _ hrd4).mono ?_
    rintro e w5 ⟨rfl, hb5⟩
    have hrd5 := hrd4.next hb5
    have X5 := X4.next hb5
    have HR5 := hid (HR4.out.next hb5)
    have U5 := gr_trans U4 hb5
    have Y5 := Arr.new w5 (thn len0 g (g 0)) (thn len0 g ((g 2 - g 3 - 2 * g 1) / 2)) (thn len0 g ((g 2 + g 3 - 2 * g 0) / 2)) (thn len0 g (g 1)) 23
    have X6 := X5.alloc (.cells #[.int .i64 (thn len0 g (g 0)), .int .i64 (thn len0 g ((g 2 - g 3 - 2 * g 1) / 2)), .int .i64 (thn len0 g ((g 2 + g 3 - 2 * g 0) / 2)), .int .i64 (thn len0 g (g 1))] 23)
    have U6 := gr_alloc U5 (.cells #[.int .i64 (thn len0 g (g 0)), .int .i64 (thn len0 g ((g 2 - g 3 - 2 * g 1) / 2)), .int .i64 (thn len0 g ((g 2 + g 3 - 2 * g 0) / 2)), .int .i64 (thn len0 g (g 1))] 23)
    have hrd6 := hrd5.next (gr_alloc (Below.refl _ w5) (.cells #[.int .i64 (thn len0 g (g 0)), .int .i64 (thn len0 g ((g 2 - g 3 - 2 * g 1) / 2)), .int .i64 (thn len0 g ((g 2 + g 3 - 2 * g 0) / 2)), .int .i64 (thn len0 g (g 1))] 23))
    have HR6 := hid (HR5.out.next (gr_alloc (Below.refl _ w5) (.cells #[.int .i64 (thn len0 g (g 0)), .int .i64 (thn len0 g ((g 2 - g 3 - 2 * g 1) / 2)), .int .i64 (thn len0 g ((g 2 + g 3 - 2 * g 0) / 2)), .int .i64 (thn len0 g (g 1))] 23)))
    have hl5 := X5.lt
    clear hrd4 hrd5 X4 X5 HR4 HR5 U4 U5 hb5
    obtain ⟨_, x0, x1, x2, x3, _⟩ := id X6
    go_wp2_with fail
    refine (eqForm_same _ _ _ _ _).mono ?_
    rintro e w7 ⟨rfl, hb7⟩
    have hrd7 := hrd6.next hb7
    have HR7 := hid (HR6.out.next hb7)
    have U7 := gr_trans U6 hb7
    clear hrd6 HR6 U6 hb7 x0 x1 x2 x3 X6 Y5 hl5
    go_wp2_with fail
    refine (toI_any a0 len0 cap0 z0 _ HR7.out hl).mono ?_
    rintro e w8 ⟨rfl, hrow8, hb8⟩
    have hrd8 := Rd.of_row hrow8 (by unfold maxLen; omega)
    rw [← HG.out] at hrd8
    have hrd9 := hrd7.next hb8
    have U8 := gr_trans U7 hb8
    clear hrow8 hrd7 HR7 U7 hb8
    go_wp2_with fail
    refine (eqI_any _ _ len0 g _ hrd9 hrd8).mono ?_
    rintro e w9 ⟨rfl, hb9⟩
    go_wp2
    go_ret
    exact ⟨rfl, by (repeat' (first | with_reducible exact Below.refl _ _ | with_reducible assumption | with_reducible refine gr_alloc ?_ _ | with_reducible refine gr_drew ?_ | with_reducible refine gr_drewN ?_ _ | with_reducible refine gr_trans ?_ (by assumption) | with_reducible refine gr_set ?_ ?_ _ | (simp; done) | omega | (simp; omega)))⟩
  · go_enter Try.func4, Try.ntmps4
    go_wp2
    go_ret
    exact ⟨rfl, by (repeat' (first | with_reducible exact Below.refl _ _ | with_reducible assumption | with_reducible refine gr_alloc ?_ _ | with_reducible refine gr_drew ?_ | with_reducible refine gr_drewN ?_ _ | with_reducible refine gr_trans ?_ (by assumption) | with_reducible refine gr_set ?_ ?_ _ | (simp; done) | omega | (simp; omega)))⟩
set_option maxRecDepth 100000 in
set_option maxHeartbeats 1000000 in
theorem FnExactFormThrough_lifted (os : Os) (started : os.Started) (H : Type) (enc : TypeId × Value → H) :
    ReturnsInHanded {} Try.checked os 4 .any (Rows.fnExactFormThroughSpec.pre6 enc Try.prog Try.f4 Rows.fnExactFormThroughRow.domain false) (Rows.fnExactFormThroughSpec.post enc Try.prog Try.f4 false true false false) := by
  refine returnsInHanded_of_change (C := Try.checked) own started (by kernel_rfl) Try.func4
    (ChangeSpec.witness6 (enc := enc) (C := Try.checked) false ⟨#[], #[.slice none 0 0], []⟩ 8 (by kernel_rfl) (by kernel_rfl) (by kernel_rfl) (by kernel_rfl)) ?_
  intro W base args ds gs before hval0 hW hcnd _
  have hval : ∀ (j : Nat) t v, Try.f4.params[j]? = some t → args[j]? = some v → Value.okWide Try.prog W .any base t v := hval0
  have hW' := hW
  obtain ⟨p, q, hA0, hV, rfl, hfz, hnd⟩ := hW
  have hA : DataW.TrodAll enc Try.prog W 0 (fun _ => true) true Try.f4.params.toList args.toList ds p := hA0
  rw [Try.params4] at hA hval
  obtain ⟨v0, vs0, d0, ds0, p0, q0, hargs, rfl, rfl, h0, r0⟩ := trodAll_cons hA
  obtain ⟨rfl, rfl, rfl⟩ := trodAll_nil r0
  obtain rfl : args = #[v0] := by cases args; simp_all
  obtain ⟨rfl, rfl⟩ := trodVars_none hV
  have k0 := h0
  have lt0 : ∀ x ∈ p0, x.block < W.heap.size := by obtain ⟨m, hm⟩ := k0; exact DataW.trod_lt m _ _ _ hm
  obtain ⟨a0, len0, cap0, rfl⟩ := okWide_slice Try.underlying31 (hval 0 31 v0 rfl rfl)
  obtain ⟨z0, w0⟩ := open_row (k := .i64) Try.underlying31 Try.underlying2 (by kernel_rfl) h0
  clear hA0 hval0
  refine (FnExactFormThrough_walk W a0 len0 cap0 z0 w0).mono fun e W' ⟨he, bel⟩ => ?_
  subst he
  exact ⟨_, rfl, _, _, _, [], _, [], hW', trodAll_mk1 (shut_bool Try.underlying4 _), (trodAll_cons_mk (Below.trod laidOut (by kernel_rfl) (of_decide_eq_true (by kernel_rfl)) k0 bel lt0) trodAll_mk0), rfl, bel.frame _, fun h => by cases h⟩

/-- THE STATEMENT. -/
theorem FnExactFormThrough_holds : Rows.FnExactFormThroughSaid :=
  OpenClaim.holds_of_wide 4 Try.f4 rfl rfl rfl rfl rfl rfl rfl ⟨rfl, rfl, rfl, rfl, rfl⟩ rfl rfl rfl rfl rfl (by kernel_rfl) Try.func4 (by kernel_rfl)
    (of_decide_eq_true (by kernel_rfl)) (by unfold Func.isWrapper; first | (rw [if_pos (by decide +kernel)]; kernel_rfl) | (rw [if_neg (by decide +kernel)]; exact ⟨rfl, rfl⟩))
    (fun os started H enc _ => FnExactFormThrough_lifted os started H enc)
#print axioms FnExactFormThrough_holds

end Go.Proofs.Ytmacdknamcdjeaa
