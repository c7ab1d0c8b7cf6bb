/- FnExactParseForm: ParseForm answers as its model, at every text. No condition. -/
import Derived.Test.YtfibeifkmfnehaaDoorClo
import Derived.Test.YtfibeifkmfnehaaDoorOpenP
import Derived.Test.YtfibeifkmfnehaaDoorC1k
namespace Go.Proofs.YtfibeifkmfnehaaDoor
open Go.ChangeShapes Go.WideShapes Go.ChangeAt Go.RowKit

set_option maxRecDepth 100000 in
set_option maxHeartbeats 2000000 in
theorem FnExactParseForm_walk (l : List UInt8) (w : World) (m : Int) (hm : w.cell? ⟨3, 0, none⟩ = some (.int .i64 m)) (hE : Errs w) (hT : Tab w) :
    Calls Tryd.prog 4 #[.string ⟨l.toArray⟩] w fun e w' => e = .returned (.bool true) ∧ Below w.heap.size w w' := by
  have hg := World.block_lt_of_cell? w _ hm
  have hz : (⟨l.toArray⟩ : ByteArray).size = l.length := by simp [ByteArray.size]
  go_enter Tryd.func4, Tryd.ntmps4
  by_cases hl : l.length ≤ 1048576
  · have el : ((1048576 : Int) < (l.length : Int)) = False := by simp; omega
    have H1 := hid (fun W => sParse_any l W hl)
    have H2 := hid (fun W (U : Below w.heap.size w W) => iParse_any l W m hl ((U.cell (p := ⟨3, 0, none⟩) hg).trans hm) (Nat.lt_of_lt_of_le hg U.size) (hE.next U) (hT.next U))
    clear hm hE hT hg
    unfold PfOut at H1 H2
    generalize f0 (frT l) = x0 at H1 H2
    generalize f1 (frT l) = x1 at H1 H2
    generalize f2 (frT l) = x2 at H1 H2
    generalize f3 (frT l) = x3 at H1 H2
    generalize cpf (frT l) = k at H1 H2
    generalize (⟨l.toArray⟩ : ByteArray) = s at H1 H2 hz ⊢
    go_wp2_with fail
    refine (H1.out _).mono ?_
    rintro e w1 ⟨rfl, hb1⟩
    have A1 := Arr.new w1 x0 x1 x2 x3 25
    have U1 := gr_alloc hb1 (.cells #[.int .i64 x0, .int .i64 x1, .int .i64 x2, .int .i64 x3] 25)
    go_upto_region 4 with fail
    generalize hj : w1.heap.size = j at *
    generalize w1.alloc (.cells #[.int .i64 x0, .int .i64 x1, .int .i64 x2, .int .i64 x3] 25) = W1 at A1 U1 ⊢
    clear hj hb1
    go_wp2_with fail
    refine (H2.out _ U1).mono ?_
    rintro e w2 ⟨rfl, hb2⟩
    have A2 := (A1.next hb2).alloc (.cells #[.int .i64 x0, .int .i64 x1, .int .i64 x2, .int .i64 x3] 25)
    have B2 := Arr.new w2 x0 x1 x2 x3 25
    have U2 := gr_alloc (gr_trans U1 hb2) (.cells #[.int .i64 x0, .int .i64 x1, .int .i64 x2, .int .i64 x3] 25)
    go_upto_region 5 with fail
    generalize hj2 : w2.heap.size = j2 at *
    generalize w2.alloc (.cells #[.int .i64 x0, .int .i64 x1, .int .i64 x2, .int .i64 x3] 25) = W2 at A2 B2 U2 ⊢
    obtain ⟨_, a0, a1, a2, a3, _⟩ := id A2
    obtain ⟨_, b0, b1, b2, b3, _⟩ := id B2
    go_wp2_with fail
    refine (eqForm_same x0 x1 x2 x3 _).mono ?_
    rintro e w3 ⟨rfl, hb3⟩
    go_wp2
    go_ret
    exact ⟨rfl, by (repeat' (first | with_reducible exact Below.refl _ _ | with_reducible assumption | with_reducible refine gr_alloc ?_ _ | with_reducible refine gr_drew ?_ | with_reducible refine gr_drewN ?_ _ | with_reducible refine gr_trans ?_ (by assumption) | with_reducible refine gr_set ?_ ?_ _ | (simp; done) | omega | (simp; omega)))⟩
  · have el : ((1048576 : Int) < (l.length : Int)) = True := by simp; omega
    clear hm hE hT hg
    generalize (⟨l.toArray⟩ : ByteArray) = s at hz ⊢
    go_wp2
    go_ret
    exact ⟨rfl, by (repeat' (first | with_reducible exact Below.refl _ _ | with_reducible assumption | with_reducible refine gr_alloc ?_ _ | with_reducible refine gr_drew ?_ | with_reducible refine gr_drewN ?_ _ | with_reducible refine gr_trans ?_ (by assumption) | with_reducible refine gr_set ?_ ?_ _ | (simp; done) | omega | (simp; omega)))⟩

set_option maxRecDepth 100000 in
set_option maxHeartbeats 1000000 in
theorem FnExactParseForm_lifted (os : Os) (started : os.Started) (H : Type) (enc : TypeId × Value → H) :
    ReturnsInHanded {} Tryd.checked os 4 .any (fun w args => (Rows.fnExactParseFormSpec.pre enc Tryd.prog Tryd.f4 Rows.fnExactParseFormRow.domain false w args ∧ laidMetH Tryd.prog Rows.fnExactParseFormRow.laid w) ∧ sizedMet enc Tryd.prog Tryd.f4 (OpenSpec.ofChange Rows.fnExactParseFormSpec) false w args)
      (Rows.fnExactParseFormSpec.post enc Tryd.prog Tryd.f4 false true false false) := by
  refine returnsInHanded_of_calls (C := Tryd.checked) own started (by kernel_rfl)
    (ChangeSpec.witness_shaped (enc := enc) (C := Tryd.checked) (os := os) (X := fun w _ => laidMetH Tryd.prog Rows.fnExactParseFormRow.laid w) false (World.laidAll Tryd.prog os Rows.fnExactParseFormRow.laid) #[.string ByteArray.empty] 8 (World.laidAll_os _ _ _) (World.shaped_of_ZipB (by kernel_rfl) (by kernel_rfl)) (by kernel_rfl) (by kernel_rfl) (by kernel_rfl) (pf_door os _)) ?_
  intro wz tape inp _ hshp _ hok hpre _
  obtain ⟨_, _, _, fn, hfn, _, _, _, _, hval0⟩ := hok
  obtain rfl : fn = Tryd.f4 := Option.some.inj (hfn.symm.trans Tryd.func4)
  obtain ⟨⟨⟨ds, gs, before, hW0, hcnd⟩, hL0⟩, _⟩ := hpre
  have hL : laidMetH Tryd.prog Rows.fnExactParseFormRow.laid (wz.forCall tape inp) := hL0.of_heap (by rfl)
  have hW := DataW.Whole.of_heap (w' := wz.forCall tape inp) (by rfl) hW0
  suffices h : Calls Tryd.prog 4 inp.args (wz.forCall tape inp) fun e W' => ∃ v, e = .returned v ∧ Rows.fnExactParseFormSpec.post enc Tryd.prog Tryd.f4 false true false false (wz.forCall tape inp) inp.args v W' from
    h.mono fun e W' ⟨v, he, hp⟩ => by subst he; exact ChangeSpec.post_blind hp
  clear hL0 hW0 hfn hcnd
  generalize wz.forCall tape inp = W at *
  generalize inp.args = args at *
  generalize wz.heap.size = base at *
  have hval : ∀ (j : Nat) t v, Tryd.f4.params[j]? = some t → args[j]? = some v → Value.okWide Tryd.prog W .any base t v := hval0
  have hW' := hW
  obtain ⟨p, q, hA0, hV, rfl, hfz, hnd⟩ := hW
  have hA : DataW.TrodAll enc Tryd.prog W 0 (fun _ => true) true Tryd.f4.params.toList args.toList ds p := hA0
  rw [Tryd.params4] at hA hval
  obtain ⟨v0, vs0, d0, ds0, p0, q0, hargs, rfl, rfl, h0, r0⟩ := trodAll_cons hA
  obtain ⟨rfl, rfl, rfl⟩ := trodAll_nil r0
  obtain rfl : args = #[v0] := by cases args; simp_all
  obtain ⟨rfl, rfl⟩ := trodVars_none hV
  have k0 := h0
  have lt0 : ∀ x ∈ p0, x.block < W.heap.size := by obtain ⟨m, hm⟩ := k0; exact DataW.trod_lt m _ _ _ hm
  obtain ⟨a0, rfl, _, _, w0⟩ := Go.ChangeMaps.open_string Tryd.underlying9 (hval 0 9 v0 rfl rfl) h0
  clear hA0 hval0
  obtain ⟨hTab, hErr⟩ := pf_laid hL
  obtain ⟨mx, hmx⟩ := pf_maxLen hshp
  obtain ⟨l, rfl⟩ : ∃ l : List UInt8, a0 = ⟨l.toArray⟩ := ⟨a0.data.toList, by cases a0; simp⟩
  refine (FnExactParseForm_walk l W mx hmx hErr hTab).mono fun e W' ⟨he, bel⟩ => ?_
  subst he
  exact ⟨_, rfl, _, _, _, [], _, [], hW', trodAll_mk1 (shut_bool Tryd.underlying4 _), (trodAll_cons_mk (Below.trod laidOut (by kernel_rfl) (of_decide_eq_true (by kernel_rfl)) k0 bel lt0) trodAll_mk0), rfl, bel.frame _, fun h => by cases h⟩

set_option maxRecDepth 100000 in
set_option maxHeartbeats 1000000 in
theorem FnExactParseForm_closed : joinedFacts Tryd.prog 4 Tryd.f4 Rows.fnExactParseFormSpec Rows.fnExactParseFormRow = true := by
  unfold joinedFacts
  exact clo_and (clo_and (clo_and (clo_and (clo_and (clo_and (clo_and (clo_and (clo_and (clo_and (clo_and (clo_and (clo_and (clo_and (clo_and (clo_and (clo_and (clo_and (clo_and (clo_and (clo_and (clo_and (clo_and (clo_and (clo_and (clo_and (clo_and (clo_and (clo_and (clo_and (clo_and (by kernel_rfl) laidOut) (by kernel_rfl)) (by kernel_rfl)) (by kernel_rfl)) (by kernel_rfl)) (by kernel_rfl)) (by kernel_rfl)) (by kernel_rfl)) (by kernel_rfl)) (by kernel_rfl)) (by kernel_rfl)) (by kernel_rfl)) (by kernel_rfl)) (by kernel_rfl)) (by kernel_rfl)) (by kernel_rfl)) (by kernel_rfl)) (by kernel_rfl)) (by kernel_rfl)) (by kernel_rfl)) (by kernel_rfl)) (by kernel_rfl)) (by kernel_rfl)) (by kernel_rfl)) clo_enter) clo_lifts) clo_make) (by kernel_rfl)) (by kernel_rfl)) (by kernel_rfl)) (by kernel_rfl)

/-- The row of the statement. -/
theorem FnExactParseForm_holds : Rows.FnExactParseFormSaid :=
  OpenClaim.holds_of_wide 4 Tryd.f4 rfl rfl rfl rfl rfl rfl rfl ⟨rfl, rfl, rfl, rfl, rfl⟩ rfl rfl rfl rfl rfl (by kernel_rfl) Tryd.func4 FnExactParseForm_closed
    (of_decide_eq_true (by kernel_rfl)) (by unfold Func.isWrapper; first | (rw [if_pos (by decide +kernel)]; kernel_rfl) | (rw [if_neg (by decide +kernel)]; exact ⟨rfl, rfl⟩))
    (fun os started H enc _ => FnExactParseForm_lifted os started H enc)

/-- THE STATEMENT: the row, its listed variables tied to the program's text. -/
theorem FnExactParseForm_card : Rows.FnExactParseFormCardSaid :=
  Claim7.holds_tied_plain_at .later [] [.data, .data, .data, .data, .sentinel, .sentinel, .pinned] true (true, "a5c1385caf9279ed5865154b509aab42a96bc57010780836d1c7a251e6c60511") true
    FnExactParseForm_holds (fun _ h => by cases h) (by kernel_rfl) (fun _ h => by cases h) fnExactParseForm_row_tie rfl ⟨rfl, rfl⟩ (by kernel_rfl) rfl
    (fun f fn hf hfn => by
      obtain rfl : f = 4 := Option.some.inj ((show Tryd.prog.funcNamed "loop.example/g01342/laws.FnExactParseForm" = some 4 by kernel_rfl).symm.trans hf) |>.symm
      obtain rfl : fn = Tryd.f4 := (Option.some.inj (Tryd.func4.symm.trans hfn)).symm
      exact ⟨by kernel_rfl, fun j t ht => by
        rw [Tryd.params4] at ht
        have hm : t ∈ [9] := by simpa using Array.mem_of_getElem? ht
        have hall : ([9].all fun u => !Tryd.prog.wantsStandIn u) = true := by kernel_rfl
        exact (show Tryd.prog.wantsStandIn t = false by simpa using List.all_eq_true.1 hall t hm)⟩)
    (by kernel_rfl)
#print axioms FnExactParseForm_card

end Go.Proofs.YtfibeifkmfnehaaDoor
