/- FnExactKindsUpTo: KindsUpTo answers as its model at every argument; its answer owns its memory. One condition, tied to the program's text: the package's error for forms without factors is laid. -/
import Derived.Test.YtmhlolimaeejfaaDoorClo
import Derived.Test.YtmhlolimaeejfaaDoorOpenD
import Derived.Test.YtmhlolimaeejfaaDoorList2
import Derived.Test.YtmhlolimaeejfaaDoorRx
namespace Go.Proofs.YtmhlolimaeejfaaDoor
open Go.ChangeShapes Go.WideShapes Go.ChangeAt Go.RowKit

set_option maxRecDepth 100000 in
set_option maxHeartbeats 2000000 in
theorem FnExactKindsUpTo_walk (p0 q0 r0 s0 : Int) (_ : Wf4 p0 q0 r0 s0) (n1 : Int) (_ : (Lit.int .i64 n1).wf = true) (pv : Value) (w : World) (hg : Sen w pv) :
    Calls Tryd.prog 6 #[.agg #[.int .i64 p0, .int .i64 q0, .int .i64 r0, .int .i64 s0], .int .i64 n1] w fun e w' => e = .returned (.bool true) ∧ Below w.heap.size w w' := by
  have hs := fun W => sKindsUpTo_any p0 q0 r0 s0 n1 W
  have hp := fun W hg => iKindsUpTo_any p0 q0 r0 s0 n1 pv W hg
  have hl : (if (kuc p0 q0 r0 s0 n1) = 0 then (kul p0 q0 r0 s0 n1).length else 0) ≤ 1000 := kul_le p0 q0 r0 s0 n1
  unfold LstOut at hs hp
  generalize (if (kuc p0 q0 r0 s0 n1) = 0 then (kul p0 q0 r0 s0 n1).length else 0) = n at hs hp hl
  generalize (kuc p0 q0 r0 s0 n1) = k at hs hp
  generalize (fun i => (kul p0 q0 r0 s0 n1).getD i 0) = g at hs hp
  have HS := hid hs
  have HP := hid hp
  clear hs hp
  have G0 := hg.alloc (.cells #[.int .i64 p0, .int .i64 q0, .int .i64 r0, .int .i64 s0] 22)
  have A0 := Arr.new w p0 q0 r0 s0 22
  have U0 := gr_alloc (Below.refl w.heap.size w) (.cells #[.int .i64 p0, .int .i64 q0, .int .i64 r0, .int .i64 s0] 22)
  go_enter Tryd.func6, Tryd.ntmps6
  go_wp2_with fail
  refine (toForm_any p0 q0 r0 s0 _).mono ?_
  rintro e w1 ⟨rfl, hb1⟩
  have A1 := A0.next hb1
  have U1 := gr_trans U0 hb1
  have G1 := G0.next hb1
  clear A0 U0 G0
  go_wp2_with fail
  refine (HS.out _).mono ?_
  rintro e w2 ⟨v, rfl, hV, hb2⟩
  have A2 := A1.next hb2
  have U2 := gr_trans U1 hb2
  have G2 := G1.next hb2
  have V2 := hV.rdB
  clear A1 U1 G1 hV
  obtain ⟨_, c0, c1, c2, c3, _⟩ := id A2
  go_wp2_with fail
  refine (toForm_any p0 q0 r0 s0 _).mono ?_
  rintro e w3 ⟨rfl, hb3⟩
  have A3 := A2.next hb3
  have U3 := gr_trans U2 hb3
  have G3 := G2.next hb3
  have V3 := V2.below hb3 (Nat.le_refl _)
  clear A2 U2 G2 V2 c0 c1 c2 c3
  go_wp2_with fail
  refine (HP.out _ G3).mono ?_
  rintro e w4 ⟨u, rfl, hW, hb4⟩
  have hz3 := hb3.size
  have hz4 := hb4.size
  have A4 := A3.next hb4
  have U4 := gr_trans U3 hb4
  have G4 := G3.next hb4
  have V4 := V3.below hb4 hz3
  have hA4 := A3.lt
  have hG4 := G3.2
  have hU4 := U3.size
  clear A3 U3 G3 V3
  go_wp2_with fail
  refine (eqI_any u v n g _ hW.rd (V4.rd (Nat.le_trans hz3 hz4))).mono ?_
  rintro e w5 ⟨rfl, hb5⟩
  have hz5 := hb5.size
  have A5 := A4.next hb5
  have U5 := gr_trans U4 hb5
  have G5 := G4.next hb5
  have V5 := V4.below hb5 (Nat.le_trans hz3 hz4)
  have W5 := hW.next hb5
  clear A4 U4 G4 V4 hW
  go_wp2_with fail
  refine (markI_any w3.heap.size u n g _ W5 hl).mono ?_
  rintro e w6 ⟨rfl, W6, hb6⟩
  have hz6 := hb6.size
  have A6 := A5.below hb6 hA4
  have U6 : Below w.heap.size w w6 := U5.trans (hb6.mono hU4)
  have G6 : Sen w6 pv := ⟨(hb6.cell hG4).trans G5.1, Nat.lt_of_lt_of_le G5.2 hz6⟩
  have V6 := V5.below hb6 hz3
  clear A5 U5 G5 V5 W5
  go_wp2_with fail
  refine (heldI_any w3.heap.size u n _ W6 hl).mono ?_
  rintro e w7 ⟨rfl, hb7⟩
  have hz7 := hb7.size
  have A7 := A6.next hb7
  have U7 := gr_trans U6 hb7
  have G7 := G6.next hb7
  have V7 := V6.below hb7 (by omega)
  have W7 := W6.next hb7
  clear A6 U6 G6 V6 W6
  obtain ⟨_, c0, c1, c2, c3, _⟩ := id A7
  go_wp2_with fail
  refine (toForm_any p0 q0 r0 s0 _).mono ?_
  rintro e w8 ⟨rfl, hb8⟩
  have hz8 := hb8.size
  have U8 := gr_trans U7 hb8
  have G8 := G7.next hb8
  have V8 := V7.below hb8 (by omega)
  have W8 := W7.next hb8
  clear A7 U7 G7 V7 W7 c0 c1 c2 c3
  go_wp2_with fail
  refine (HP.out _ G8).mono ?_
  rintro e w9 ⟨u9, rfl, hX, hb9⟩
  have hz9 := hb9.size
  have U9 := gr_trans U8 hb9
  have V9 := V8.below hb9 (by omega)
  have W9 := W8.next hb9
  clear U8 G8 V8 W8
  go_wp2_with fail
  refine (eqI_any u9 v n g _ hX.rd (V9.rd (by omega))).mono ?_
  rintro e w10 ⟨rfl, hb10⟩
  have U10 := gr_trans U9 hb10
  have W10 := W9.next hb10
  clear U9 V9 W9 hX
  go_wp2_with fail
  refine (heldI_any w3.heap.size u n _ W10 hl).mono ?_
  rintro e w11 ⟨rfl, hb11⟩
  go_wp2
  go_ret
  exact ⟨rfl, gr_trans U10 hb11⟩

set_option maxRecDepth 100000 in
set_option maxHeartbeats 1000000 in
theorem FnExactKindsUpTo_lifted (os : Os) (started : os.Started) (H : Type) (enc : TypeId × Value → H) :
    ReturnsInHanded {} Tryd.checked os 6 .any (fun w args => (Rows.fnExactKindsUpToSpec.pre enc Tryd.prog Tryd.f6 Rows.fnExactKindsUpToRow.domain false w args ∧ laidMetH Tryd.prog Rows.fnExactKindsUpToRow.laid w) ∧ sizedMet enc Tryd.prog Tryd.f6 (OpenSpec.ofChange Rows.fnExactKindsUpToSpec) false w args)
      (Rows.fnExactKindsUpToSpec.post enc Tryd.prog Tryd.f6 false true false false) := by
  refine returnsInHanded_of_change_and (C := Tryd.checked) (X := fun w _ => laidMetH Tryd.prog Rows.fnExactKindsUpToRow.laid w) (fun _ _ _ hh h => h.of_heap hh) own started (by kernel_rfl) Tryd.func6
    (ChangeSpec.witness_shaped (enc := enc) (C := Tryd.checked) (os := os) (X := fun w _ => laidMetH Tryd.prog Rows.fnExactKindsUpToRow.laid w) false (World.doorLaid Tryd.prog 400 os) #[.agg #[.int .i64 0, .int .i64 0, .int .i64 0, .int .i64 0], .int .i64 0] 8 rfl (World.shaped_of_RefB (by kernel_rfl) (by kernel_rfl)) (by kernel_rfl) (by kernel_rfl) (by kernel_rfl) (nf_door os _)) ?_
  intro W base args ds gs before hval0 hW _ _ hL _
  have hval : ∀ (j : Nat) t v, Tryd.f6.params[j]? = some t → args[j]? = some v → Value.okWide Tryd.prog W .any base t v := hval0
  have hW' := hW
  obtain ⟨p, q, hA0, hV, rfl, hfz, hnd⟩ := hW
  have hA : DataW.TrodAll enc Tryd.prog W 0 (fun _ => true) true Tryd.f6.params.toList args.toList ds p := hA0
  rw [Tryd.params6] at hA hval
  obtain ⟨v0, vs0, d0, ds0, p0, q0, hargs, rfl, rfl, h0, r0⟩ := trodAll_cons hA
  obtain ⟨v1, vs1, d1, ds1, p1, q1, rfl, rfl, rfl, h1, r1⟩ := trodAll_cons r0
  obtain ⟨rfl, rfl, rfl⟩ := trodAll_nil r1
  obtain rfl : args = #[v0, v1] := by cases args; simp_all
  obtain ⟨x0, hv0, hs0⟩ := nf_laid hL
  obtain ⟨rfl, rfl⟩ := DataW.TrodVars.unique hV (vars_read1 enc nfG nfT Tryd.underlying43 hv0 trivial _)
  have k0 := h0
  have lt0 : ∀ x ∈ p0, x.block < W.heap.size := by obtain ⟨m, hm⟩ := k0; exact DataW.trod_lt m _ _ _ hm
  obtain ⟨a0, b0, c0, e0, rfl, w0⟩ := open_arr4 Tryd.underlying22 Tryd.underlying2 (by kernel_rfl) (by kernel_rfl) (hval 0 22 v0 rfl rfl) h0
  have k1 := h1
  have lt1 : ∀ x ∈ p1, x.block < W.heap.size := by obtain ⟨m, hm⟩ := k1; exact DataW.trod_lt m _ _ _ hm
  obtain ⟨a1, rfl, _, _, w1⟩ := open_int Tryd.underlying2 (hval 1 2 v1 rfl rfl) h1
  clear hA0 hval0
  refine (FnExactKindsUpTo_walk a0 b0 c0 e0 w0 a1 w1 x0 W hs0).mono fun e W' ⟨he, bel⟩ => ?_
  subst he
  exact ⟨_, rfl, _, _, _, [], _, _, hW', trodAll_mk1 (shut_bool Tryd.underlying4 _), (trodAll_cons_mk (Below.trod laidOut (by kernel_rfl) (of_decide_eq_true (by kernel_rfl)) k0 bel lt0) (trodAll_cons_mk (Below.trod laidOut (by kernel_rfl) (of_decide_eq_true (by kernel_rfl)) k1 bel lt1) trodAll_mk0)), vars_read1 enc nfG nfT Tryd.underlying43 (var_below hv0 bel) trivial _, bel.frame _, fun h => by cases h⟩

set_option maxRecDepth 100000 in
set_option maxHeartbeats 1000000 in
theorem FnExactKindsUpTo_closed : joinedFacts Tryd.prog 6 Tryd.f6 Rows.fnExactKindsUpToSpec Rows.fnExactKindsUpToRow = true := by
  unfold joinedFacts
  exact clo_and (clo_and (clo_and (clo_and (clo_and (clo_and (clo_and (clo_and (clo_and (clo_and (clo_and (clo_and (clo_and (clo_and (clo_and (clo_and (clo_and (clo_and (clo_and (clo_and (clo_and (clo_and (clo_and (clo_and (clo_and (clo_and (clo_and (clo_and (clo_and (clo_and (clo_and (by kernel_rfl) laidOut) (by kernel_rfl)) (by kernel_rfl)) (by kernel_rfl)) (by kernel_rfl)) (by kernel_rfl)) (by kernel_rfl)) (by kernel_rfl)) (by kernel_rfl)) (by kernel_rfl)) (by kernel_rfl)) (by kernel_rfl)) (by kernel_rfl)) (by kernel_rfl)) (by kernel_rfl)) (by kernel_rfl)) (by kernel_rfl)) (by kernel_rfl)) (by kernel_rfl)) (by kernel_rfl)) (by kernel_rfl)) (by kernel_rfl)) (by kernel_rfl)) (by kernel_rfl)) clo_enter) clo_lifts) clo_make) (by kernel_rfl)) (by kernel_rfl)) (by kernel_rfl)) (by kernel_rfl)

/-- The row of the statement. -/
theorem FnExactKindsUpTo_holds : Rows.FnExactKindsUpToSaid :=
  OpenClaim.holds_of_wide 6 Tryd.f6 rfl rfl rfl rfl rfl rfl rfl ⟨rfl, rfl, rfl, rfl, rfl⟩ rfl rfl rfl rfl rfl (by kernel_rfl) Tryd.func6 FnExactKindsUpTo_closed
    (of_decide_eq_true (by kernel_rfl)) (by unfold Func.isWrapper; first | (rw [if_pos (by decide +kernel)]; kernel_rfl) | (rw [if_neg (by decide +kernel)]; exact ⟨rfl, rfl⟩))
    (fun os started H enc _ => FnExactKindsUpTo_lifted os started H enc)

/-- THE STATEMENT: the row, its listed variable tied to the program's text. -/
theorem FnExactKindsUpTo_card : Rows.FnExactKindsUpToCardSaid :=
  Claim7.holds_tied_plain_at .later [] [.sentinel] true (true, "a451aa7745c24fe0bb65e591831b810621cb1e28a5aaa9c5d0facaa22253dada") true
    FnExactKindsUpTo_holds (fun _ h => by cases h) (by kernel_rfl) (fun _ h => by cases h) fnExactKindsUpTo_row_tie rfl ⟨rfl, rfl⟩ (by kernel_rfl) rfl
    (fun f fn hf hfn => by
      obtain rfl : f = 6 := Option.some.inj ((show Tryd.prog.funcNamed "loop.example/g01342/laws.FnExactKindsUpTo" = some 6 by kernel_rfl).symm.trans hf) |>.symm
      obtain rfl : fn = Tryd.f6 := (Option.some.inj (Tryd.func6.symm.trans hfn)).symm
      exact ⟨by kernel_rfl, fun j t ht => by
        rw [Tryd.params6] at ht
        have hm : t ∈ [22, 2] := by simpa using Array.mem_of_getElem? ht
        have hall : ([22, 2].all fun u => !Tryd.prog.wantsStandIn u) = true := by kernel_rfl
        exact (show Tryd.prog.wantsStandIn t = false by simpa using List.all_eq_true.1 hall t hm)⟩)
    (by kernel_rfl)
#print axioms FnExactKindsUpTo_card

end Go.Proofs.YtmhlolimaeejfaaDoor
