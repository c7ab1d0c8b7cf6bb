/- FnExactFactorForm: FactorForm answers as its model at every argument; its answers own their memory. One condition, tied to the program's text: the package's error for forms without factors is laid. -/
import Derived.Test.YtgdbnaabbaimjaaDoorOpenD
import Derived.Test.YtgdbnaabbaimjaaDoorFh
import Derived.Test.YtgdbnaabbaimjaaDoorPb
namespace Go.Proofs.YtgdbnaabbaimjaaDoor
open Go.ChangeShapes Go.WideShapes Go.ChangeAt Go.RowKit

theorem fac_len {a b c d : Int} (h : rrc a b c d = 0) : (fac a b c d).1.length ≤ 4 ∧ (frs (fac a b c d).2).length ≤ 4 := by
  have hF : isF a b c d = true := by
    cases hF : isF a b c d with
    | true => rfl
    | false => rw [rrc_n hF] at h; omega
  have hN : mul0 (cnt a b c d) 0 = false := by
    cases hN : mul0 (cnt a b c d) 0 with
    | false => rfl
    | true => rw [rrc_5 hF hN] at h; omega
  obtain ⟨ha, hb, hc, hd⟩ := isF_t hF
  have hi := fR_inv _ _ (FInv_0 ha hb hc hd hN)
  have hl := hi.len
  have e : fac a b c d = fR (rrt a b c d) ([], ptl4 a b c d) := rfl
  rw [← e] at hl
  simp only [frs, List.length_map]
  omega

set_option maxRecDepth 100000 in
set_option maxHeartbeats 4000000 in
theorem FnExactFactorForm_walk (p0 q0 r0 s0 : Int) (_ : Wf4 p0 q0 r0 s0) (pv : Value) (w : World) (hg : Sen w pv) :
    Calls Tryd.prog 5 #[.agg #[.int .i64 p0, .int .i64 q0, .int .i64 r0, .int .i64 s0]] w fun e w' => e = .returned (.bool true) ∧ Below w.heap.size w w' := by
  have hs := fun W => sFactorForm_any p0 q0 r0 s0 W
  have hp := fun W hg => iFactorForm_any p0 q0 r0 s0 pv W hg
  have hln : rrc p0 q0 r0 s0 = 0 → (fac p0 q0 r0 s0).1.length ≤ 4 ∧ (frs (fac p0 q0 r0 s0).2).length ≤ 4 := fac_len
  unfold FfM at hs
  unfold FfOut at hp
  generalize rrc p0 q0 r0 s0 = k at hs hp hln
  generalize fsg (fac p0 q0 r0 s0).2 = sg at hs hp
  generalize cnt p0 q0 r0 s0 = n at hs hp
  generalize frs (fac p0 q0 r0 s0).2 = L at hs hp hln
  generalize (fac p0 q0 r0 s0).1 = R at hs hp hln
  have HS := hid hs
  have HP := hid hp
  clear hs hp
  have G0 := hg.alloc (.cells #[.int .i64 p0, .int .i64 q0, .int .i64 r0, .int .i64 s0] 22)
  have A0 := Arr.new w p0 q0 r0 s0 22
  have U0 := gr_alloc (Below.refl w.heap.size w) (.cells #[.int .i64 p0, .int .i64 q0, .int .i64 r0, .int .i64 s0] 22)
  go_enter Tryd.func5, Tryd.ntmps5
  go_wp2_with fail
  refine (toForm_any p0 q0 r0 s0 _).mono ?_
  rintro e w1 ⟨rfl, hb1⟩
  have A1 := A0.next hb1
  have U1 := gr_trans U0 hb1
  have G1 := G0.next hb1
  clear A0 U0 G0
  by_cases hk : k = 0
  · obtain ⟨hl1, hl2⟩ := hln hk
    subst hk
    go_wp2_with fail
    refine (HS.out _).mono ?_
    rintro e w2 ⟨hb2, ⟨h, _⟩ | ⟨_, vs, bs, cs, TS, rfl, hV, hVb, hVc, hVm⟩⟩
    · exact absurd rfl h
    have A2 := A1.next hb2
    have U2 := gr_trans U1 hb2
    have G2 := G1.next hb2
    have V2 := hV.rd
    clear A1 U1 G1 hV
    obtain ⟨_, c0, c1, c2, c3, _⟩ := id A2
    obtain ⟨vsa, vsc, rfl, _⟩ := id V2
    go_wp2_with fail
    refine (toForm_any p0 q0 r0 s0 _).mono ?_
    rintro e w3 ⟨rfl, hb3⟩
    have A3 := A2.next hb3
    have U3 := gr_trans U2 hb3
    have G3 := G2.next hb3
    have V3 := V2.next hb3
    have B3 := hVb.next hb3
    have hz3 := U3.size
    clear A2 U2 G2 V2 c0 c1 c2 c3 hVb
    go_wp2_with fail
    refine (HP.out _ G3).mono ?_
    rintro e w4 ⟨hb4, ⟨h, _⟩ | ⟨_, vp, bp, cp, TP, rfl, hW, hWb, hWc, hWm, hWl, hWs⟩⟩
    · exact absurd rfl h
    obtain ⟨TW, W4, hT, hTv⟩ := hW.toC hWb hWs
    obtain ⟨vpa, vpc, rfl⟩ := hW.form
    have hbs := hWb.lt
    have hbr : w3.heap.size ≤ bp := hWl
    clear hW
    have HA3 := hid A3; have HG3 := hid G3; have HV3 := hid V3; have HB3 := hid B3; have HU3 := hid U3; have HTW := hid hT; have HTV := hid hTv
    clear A3 G3 V3 B3 U3 hT hTv hWs
    have HW4 := hid W4; have HWb := hid hWb; have HK4 := hid hb4
    clear W4 hWb hb4
    go_wp2_with fail
    refine (eqRowsM_any _ _ _ _ 2 R.length _ TW _ _ (by omega) HW4.out (HV3.out.next HK4.out)).mono ?_
    rintro e w5 ⟨rfl, hb5⟩
    have HK5 := hid (gr_trans HK4.out hb5)
    have HW5 := hid (HW4.out.next hb5)
    have HWb5 := hid (HWb.out.next hb5)
    clear HW4 HWb HK4 hb5
    go_wp2_with fail
    refine (eqI_any _ _ L.length _ _ (HWb5.out.rd hWc hWm) ((HB3.out.next HK5.out).rd hVc hVm)).mono ?_
    rintro e w6 ⟨rfl, hb6⟩
    have HK6 := hid (gr_trans HK5.out hb6)
    have HW6 := hid (HW5.out.next hb6)
    have HWb6 := hid (HWb5.out.next hb6)
    clear HW5 HWb5 HK5 hb6
    go_wp2_with fail
    refine (markRows2K_any _ _ _ R.length _ TW _ (by omega) HW6.out).mono ?_
    rintro e w7 ⟨rfl, W7, hb7, hk7⟩
    have HK7 := hid (HK6.out.trans hb7)
    have hcl7 := (HWb6.out.cl).same hb7.size (hk7 bp HWb6.out.lt (fun i hi => HTW.out i hi))
    have HW7 := hid W7
    have HC7 := hid hcl7
    have hbl7 := hcl7.1
    clear W7 hcl7 hb7 hk7 HW6 HWb6 HK6
    go_wp2_with fail
    refine (markK_any bp cp L.length (1 + 2 * R.length) _ _ HC7.out (by omega) (by omega) (by omega) hWc).mono ?_
    rintro e w8 ⟨rfl, hcl8, hkb⟩
    have HK8 := hid (HK7.out.trans (hkb.below hbr hbl7))
    have HW8 := hid (HW7.out.keep hkb HTW.out HTV.out)
    have HC8 := hid hcl8
    clear hcl8 hkb HK7 HW7 HC7
    have hn1 : ¬ ((1 : Int) + 2 * (R.length : Int) < 0) := by omega
    have hn2 : ¬ ((1 : Int) + 2 * (R.length : Int) + (L.length : Int) < 0) := by omega
    go_wp2_with fail
    refine (heldRows2_any _ _ _ R.length TW _ (by omega) HW8.out).mono ?_
    rintro e w9 ⟨rfl, hb9⟩
    have HK9 := hid (gr_trans HK8.out hb9)
    have HW9 := hid (HW8.out.next hb9)
    have HC9 := hid (HC8.out.below hb9)
    clear hb9 HK8 HW8 HC8
    go_wp2_with fail
    refine (heldK_any bp cp L.length (1 + 2 * R.length) _ HC9.out (by omega) (by omega) (by omega) hWc).mono ?_
    rintro e w10 ⟨rfl, hb10⟩
    have HK10 := hid (gr_trans HK9.out hb10)
    have HW10 := hid (HW9.out.next hb10)
    have HC10 := hid (HC9.out.below hb10)
    have A10 := HA3.out.next HK10.out
    obtain ⟨_, c0, c1, c2, c3, _⟩ := id A10
    clear hb10 HK9 HW9 HC9 A10
    go_wp2_with fail
    refine (toForm_any p0 q0 r0 s0 _).mono ?_
    rintro e w11 ⟨rfl, hb11⟩
    have HK11 := hid (gr_trans HK10.out hb11)
    have HW11 := hid (HW10.out.next hb11)
    have HC11 := hid (HC10.out.below hb11)
    clear hb11 HK10 HW10 HC10 c0 c1 c2 c3
    go_wp2_with fail
    refine (HP.out _ (HG3.out.next HK11.out)).mono ?_
    rintro e w12 ⟨hb12, ⟨h, _⟩ | ⟨_, vq, bq, cq, TQ, rfl, hX, hXb, hXc, hXm, hXl, hXs⟩⟩
    · exact absurd rfl h
    have HK12 := hid (gr_trans HK11.out hb12)
    have HW12 := hid (HW11.out.next hb12)
    have HC12 := hid (HC11.out.below hb12)
    obtain ⟨TX, X12, _, _⟩ := hX.toC hXb hXs
    obtain ⟨vqa, vqc, rfl⟩ := hX.form
    have HX12 := hid X12; have HXb := hid hXb
    clear hb12 HK11 HW11 HC11 X12 hX hXb hXs
    go_wp2_with fail
    refine (eqRowsM_any _ _ _ _ 2 R.length _ TX _ _ (by omega) HX12.out (HV3.out.next HK12.out)).mono ?_
    rintro e w13 ⟨rfl, hb13⟩
    have HK13 := hid (gr_trans HK12.out hb13)
    have HW13 := hid (HW12.out.next hb13)
    have HC13 := hid (HC12.out.below hb13)
    have HXb13 := hid (HXb.out.next hb13)
    clear hb13 HK12 HW12 HC12 HX12 HXb
    go_wp2_with fail
    refine (eqI_any _ _ L.length _ _ (HXb13.out.rd hXc hXm) ((HB3.out.next HK13.out).rd hVc hVm)).mono ?_
    rintro e w14 ⟨rfl, hb14⟩
    have HK14 := hid (gr_trans HK13.out hb14)
    have HW14 := hid (HW13.out.next hb14)
    have HC14 := hid (HC13.out.below hb14)
    clear hb14 HK13 HW13 HC13 HXb13
    go_wp2_with fail
    refine (heldRows2_any _ _ _ R.length TW _ (by omega) HW14.out).mono ?_
    rintro e w15 ⟨rfl, hb15⟩
    have HK15 := hid (gr_trans HK14.out hb15)
    have HC15 := hid (HC14.out.below hb15)
    clear hb15 HK14 HW14 HC14
    go_wp2_with fail
    refine (heldK_any bp cp L.length (1 + 2 * R.length) _ HC15.out (by omega) (by omega) (by omega) hWc).mono ?_
    rintro e w16 ⟨rfl, hb16⟩
    have HK16 := hid (gr_trans HK15.out hb16)
    clear hb16 HK15 HC15
    go_wp2_with fail
    go_ret
    exact ⟨rfl, HU3.out.trans (HK16.out.mono hz3)⟩
  · go_wp2_with fail
    refine (HS.out _).mono ?_
    rintro e w2 ⟨hb2, hor⟩
    obtain ⟨_, rfl⟩ := hor.resolve_right (fun h => hk h.1)
    clear hor
    have A2 := A1.next hb2
    have U2 := gr_trans U1 hb2
    have G2 := G1.next hb2
    clear A1 U1 G1
    obtain ⟨_, c0, c1, c2, c3, _⟩ := id A2
    go_wp2_with fail
    refine (toForm_any p0 q0 r0 s0 _).mono ?_
    rintro e w3 ⟨rfl, hb3⟩
    have A3 := A2.next hb3
    have U3 := gr_trans U2 hb3
    have G3 := G2.next hb3
    clear A2 U2 G2 c0 c1 c2 c3
    go_wp2_with fail
    refine (HP.out _ G3).mono ?_
    rintro e w4 ⟨hb4, hor⟩
    obtain ⟨_, rfl⟩ := hor.resolve_right (fun h => hk h.1)
    clear hor
    have A4 := A3.next hb4
    have U4 := gr_trans U3 hb4
    have G4 := G3.next hb4
    clear A3 U3 G3
    obtain ⟨_, c0, c1, c2, c3, _⟩ := id A4
    go_wp2_with (first | (go_at_call 30; refine (eqInt64SS_nil _).mono ?_; rintro e w' ⟨rfl, rfl⟩) | (go_at_call 31; refine (eqInt64S_nil _).mono ?_; rintro e w' ⟨rfl, rfl⟩) | (go_at_call 32; refine (markNilR_any _ _).mono ?_; rintro e w' ⟨rfl, rfl⟩) | (go_at_call 33; refine (markNil_any _ _).mono ?_; rintro e w' ⟨rfl, rfl⟩) | (go_at_call 34; refine (heldNilR_any _ _).mono ?_; rintro e w' ⟨rfl, rfl⟩) | (go_at_call 35; refine (heldNil_any _ _).mono ?_; rintro e w' ⟨rfl, rfl⟩))
    refine (toForm_any p0 q0 r0 s0 _).mono ?_
    rintro e w5 ⟨rfl, hb5⟩
    have U5 := gr_trans U4 hb5
    have G5 := G4.next hb5
    clear A4 U4 G4 c0 c1 c2 c3
    go_wp2_with fail
    refine (HP.out _ G5).mono ?_
    rintro e w6 ⟨hb6, hor⟩
    obtain ⟨_, rfl⟩ := hor.resolve_right (fun h => hk h.1)
    clear hor
    have U6 := gr_trans U5 hb6
    go_wp2_with (first | (go_at_call 30; refine (eqInt64SS_nil _).mono ?_; rintro e w' ⟨rfl, rfl⟩) | (go_at_call 31; refine (eqInt64S_nil _).mono ?_; rintro e w' ⟨rfl, rfl⟩) | (go_at_call 34; refine (heldNilR_any _ _).mono ?_; rintro e w' ⟨rfl, rfl⟩) | (go_at_call 35; refine (heldNil_any _ _).mono ?_; rintro e w' ⟨rfl, rfl⟩))
    go_ret
    exact ⟨rfl, U6⟩

set_option maxRecDepth 100000 in
set_option maxHeartbeats 1000000 in
theorem FnExactFactorForm_lifted (os : Os) (started : os.Started) (H : Type) (enc : TypeId × Value → H) :
    ReturnsInHanded {} Tryd.checked os 5 .any (fun w args => (Rows.fnExactFactorFormSpec.pre enc Tryd.prog Tryd.f5 Rows.fnExactFactorFormRow.domain false w args ∧ laidMetH Tryd.prog Rows.fnExactFactorFormRow.laid w) ∧ sizedMet enc Tryd.prog Tryd.f5 (OpenSpec.ofChange Rows.fnExactFactorFormSpec) false w args)
      (Rows.fnExactFactorFormSpec.post enc Tryd.prog Tryd.f5 false true false false) := by
  refine returnsInHanded_of_change_and (C := Tryd.checked) (X := fun w _ => laidMetH Tryd.prog Rows.fnExactFactorFormRow.laid w) (fun _ _ _ hh h => h.of_heap hh) own started (by kernel_rfl) Tryd.func5
    (ChangeSpec.witness_shaped (enc := enc) (C := Tryd.checked) (os := os) (X := fun w _ => laidMetH Tryd.prog Rows.fnExactFactorFormRow.laid w) false (World.doorLaid Tryd.prog 400 os) #[.agg #[.int .i64 0, .int .i64 0, .int .i64 0, .int .i64 0]] 8 rfl (World.shaped_of_RefB (by kernel_rfl) (by kernel_rfl)) (by kernel_rfl) (by kernel_rfl) (by kernel_rfl) (nf_door os _)) ?_
  intro W base args ds gs before hval0 hW _ _ hL _
  have hval : ∀ (j : Nat) t v, Tryd.f5.params[j]? = some t → args[j]? = some v → Value.okWide Tryd.prog W .any base t v := hval0
  have hW' := hW
  obtain ⟨p, q, hA0, hV, rfl, hfz, hnd⟩ := hW
  have hA : DataW.TrodAll enc Tryd.prog W 0 (fun _ => true) true Tryd.f5.params.toList args.toList ds p := hA0
  rw [Tryd.params5] at hA hval
  obtain ⟨v0, vs0, d0, ds0, p0, q0, hargs, rfl, rfl, h0, r0⟩ := trodAll_cons hA
  obtain ⟨rfl, rfl, rfl⟩ := trodAll_nil r0
  obtain rfl : args = #[v0] := by cases args; simp_all
  obtain ⟨x0, hv0, hs0⟩ := nf_laid hL
  obtain ⟨rfl, rfl⟩ := DataW.TrodVars.unique hV (vars_read1 enc nfG nfT Tryd.underlying73 hv0 trivial _)
  have k0 := h0
  have lt0 : ∀ x ∈ p0, x.block < W.heap.size := by obtain ⟨m, hm⟩ := k0; exact DataW.trod_lt m _ _ _ hm
  obtain ⟨a0, b0, c0, e0, rfl, w0⟩ := open_arr4 Tryd.underlying22 Tryd.underlying2 (by kernel_rfl) (by kernel_rfl) (hval 0 22 v0 rfl rfl) h0
  clear hA0 hval0
  refine (FnExactFactorForm_walk a0 b0 c0 e0 w0 x0 W hs0).mono fun e W' ⟨he, bel⟩ => ?_
  subst he
  exact ⟨_, rfl, _, _, _, [], _, _, hW', trodAll_mk1 (shut_bool Tryd.underlying4 _), (trodAll_cons_mk (Below.trod laidOut (by kernel_rfl) (of_decide_eq_true (by kernel_rfl)) k0 bel lt0) trodAll_mk0), vars_read1 enc nfG nfT Tryd.underlying73 (var_below hv0 bel) trivial _, bel.frame _, fun h => by cases h⟩

/-- The row of the statement. -/
theorem FnExactFactorForm_holds : Rows.FnExactFactorFormSaid :=
  OpenClaim.holds_of_wide 5 Tryd.f5 rfl rfl rfl rfl rfl rfl rfl ⟨rfl, rfl, rfl, rfl, rfl⟩ rfl rfl rfl rfl rfl (by kernel_rfl) Tryd.func5 (by kernel_rfl)
    (of_decide_eq_true (by kernel_rfl)) (by unfold Func.isWrapper; first | (rw [if_pos (by decide +kernel)]; kernel_rfl) | (rw [if_neg (by decide +kernel)]; exact ⟨rfl, rfl⟩))
    (fun os started H enc _ => FnExactFactorForm_lifted os started H enc)

/-- THE STATEMENT: the row, its listed variable tied to the program's text. -/
theorem FnExactFactorForm_card : Rows.FnExactFactorFormCardSaid :=
  Claim7.holds_tied_plain_at .later [] [.sentinel] true (true, "a371131f1094f516a8f61552ee2e401d1371a7966106b44b4ae051eec625668d") true
    FnExactFactorForm_holds (fun _ h => by cases h) (by kernel_rfl) (fun _ h => by cases h) fnExactFactorForm_row_tie rfl ⟨rfl, rfl⟩ (by kernel_rfl) rfl
    (fun f fn hf hfn => by
      obtain rfl : f = 5 := Option.some.inj ((show Tryd.prog.funcNamed "loop.example/g01342/laws.FnExactFactorForm" = some 5 by kernel_rfl).symm.trans hf) |>.symm
      obtain rfl : fn = Tryd.f5 := (Option.some.inj (Tryd.func5.symm.trans hfn)).symm
      exact ⟨by kernel_rfl, fun j t ht => by
        rw [Tryd.params5] at ht
        have hm : t ∈ [22] := by simpa using Array.mem_of_getElem? ht
        have hall : ([22].all fun u => !Tryd.prog.wantsStandIn u) = true := by kernel_rfl
        exact (show Tryd.prog.wantsStandIn t = false by simpa using List.all_eq_true.1 hall t hm)⟩)
    (by kernel_rfl)
#print axioms FnExactFactorForm_card

end Go.Proofs.YtgdbnaabbaimjaaDoor
