/- FnExactKindByCharacter: KindByCharacter answers as its model at every argument. One condition, tied to the program's text: the package's error for forms without factors is laid. -/
import Derived.Test.YtmhlolimaeejfaaDoorClo
import Derived.Test.YtmhlolimaeejfaaDoorZ9
import Derived.Test.YtmhlolimaeejfaaDoorZ4
import Derived.Test.YtmhlolimaeejfaaDoorYv
namespace Go.Proofs.YtmhlolimaeejfaaDoor
open Go.ChangeShapes Go.WideShapes Go.ChangeAt Go.RowKit

theorem kb_same {k n q D D' : Int} (h : KbP k n D) (h' : KbP k n D') : if0 (kbc k D) (chq D q.toNat) = if0 (kbc k D') (chq D' q.toNat) ∧ kbc k D = kbc k D' := by
  by_cases hk : k = 0
  · subst hk
    have := h.one h'
    subst this
    exact ⟨rfl, rfl⟩
  · rw [kbc_k hk, kbc_k hk]
    exact ⟨by simp [if0, hk], rfl⟩

set_option maxRecDepth 100000 in
set_option maxHeartbeats 2000000 in
theorem FnExactKindByCharacter_walk (p0 q0 r0 s0 : Int) (_ : Wf4 p0 q0 r0 s0) (n1 : Int) (_ : (Lit.int .i64 n1).wf = true) (pv : Value) (w : World) (hg : Sen w pv) :
    Calls Tryd.prog 7 #[.agg #[.int .i64 p0, .int .i64 q0, .int .i64 r0, .int .i64 s0], .int .i64 n1] w fun e w' => e = .returned (.bool true) ∧ Below w.heap.size w w' := by
  have hs := fun W => sKb_any p0 q0 r0 s0 n1 W
  have hp := fun W hg => iKb_any p0 q0 r0 s0 n1 pv W hg
  have HS := hid hs
  have HP := hid hp
  clear hs hp
  have G0 := hg.alloc (.cells #[.int .i64 p0, .int .i64 q0, .int .i64 r0, .int .i64 s0] 22)
  have A0 := Arr.new w p0 q0 r0 s0 22
  have U0 := gr_alloc (Below.refl w.heap.size w) (.cells #[.int .i64 p0, .int .i64 q0, .int .i64 r0, .int .i64 s0] 22)
  go_enter Tryd.func7, Tryd.ntmps7
  go_wp2_with fail
  refine (toForm_any p0 q0 r0 s0 _).mono ?_
  rintro e w1 ⟨rfl, hb1⟩
  have A1 := A0.next hb1
  have U1 := gr_trans U0 hb1
  have G1 := G0.next hb1
  clear A0 U0 G0
  go_wp2_with fail
  refine (HS.out _).mono ?_
  rintro e w2 ⟨D, rfl, hD, hb2⟩
  have HD := hid hD
  have A2 := A1.next hb2
  have U2 := gr_trans U1 hb2
  have G2 := G1.next hb2
  clear A1 U1 G1 hD
  obtain ⟨_, c0, c1, c2, c3, _⟩ := id A2
  go_wp2_with fail
  refine (toForm_any p0 q0 r0 s0 _).mono ?_
  rintro e w3 ⟨rfl, hb3⟩
  have U3 := gr_trans U2 hb3
  have G3 := G2.next hb3
  clear A2 U2 G2 c0 c1 c2 c3
  go_wp2_with fail
  refine (HP.out _ G3).mono ?_
  rintro e w4 ⟨D', rfl, hD', hb4⟩
  obtain ⟨e1, e2⟩ := kb_same (q := n1) hD' HD.out
  rw [e1, e2]
  have U4 := gr_trans U3 hb4
  clear e1 e2 hD' HD
  go_wp2
  go_ret
  exact ⟨rfl, U4⟩

set_option maxRecDepth 100000 in
set_option maxHeartbeats 1000000 in
theorem FnExactKindByCharacter_lifted (os : Os) (started : os.Started) (H : Type) (enc : TypeId × Value → H) :
    ReturnsInHanded {} Tryd.checked os 7 .any (fun w args => (Rows.fnExactKindByCharacterSpec.pre enc Tryd.prog Tryd.f7 Rows.fnExactKindByCharacterRow.domain false w args ∧ laidMetH Tryd.prog Rows.fnExactKindByCharacterRow.laid w) ∧ sizedMet enc Tryd.prog Tryd.f7 (OpenSpec.ofChange Rows.fnExactKindByCharacterSpec) false w args)
      (Rows.fnExactKindByCharacterSpec.post enc Tryd.prog Tryd.f7 false true false false) := by
  refine returnsInHanded_of_change_and (C := Tryd.checked) (X := fun w _ => laidMetH Tryd.prog Rows.fnExactKindByCharacterRow.laid w) (fun _ _ _ hh h => h.of_heap hh) own started (by kernel_rfl) Tryd.func7
    (ChangeSpec.witness_shaped (enc := enc) (C := Tryd.checked) (os := os) (X := fun w _ => laidMetH Tryd.prog Rows.fnExactKindByCharacterRow.laid w) false (World.doorLaid Tryd.prog 400 os) #[.agg #[.int .i64 0, .int .i64 0, .int .i64 0, .int .i64 0], .int .i64 0] 8 rfl (World.shaped_of_RefB (by kernel_rfl) (by kernel_rfl)) (by kernel_rfl) (by kernel_rfl) (by kernel_rfl) (nf_door os _)) ?_
  intro W base args ds gs before hval0 hW _ _ hL _
  have hval : ∀ (j : Nat) t v, Tryd.f7.params[j]? = some t → args[j]? = some v → Value.okWide Tryd.prog W .any base t v := hval0
  have hW' := hW
  obtain ⟨p, q, hA0, hV, rfl, hfz, hnd⟩ := hW
  have hA : DataW.TrodAll enc Tryd.prog W 0 (fun _ => true) true Tryd.f7.params.toList args.toList ds p := hA0
  rw [Tryd.params7] at hA hval
  obtain ⟨v0, vs0, d0, ds0, p0, q0, hargs, rfl, rfl, h0, r0⟩ := trodAll_cons hA
  obtain ⟨v1, vs1, d1, ds1, p1, q1, rfl, rfl, rfl, h1, r1⟩ := trodAll_cons r0
  obtain ⟨rfl, rfl, rfl⟩ := trodAll_nil r1
  obtain rfl : args = #[v0, v1] := by cases args; simp_all
  obtain ⟨x0, hv0, hs0⟩ := nf_laid hL
  obtain ⟨rfl, rfl⟩ := DataW.TrodVars.unique hV (vars_read1 enc nfG nfT Tryd.underlying43 hv0 trivial _)
  have k0 := h0
  have lt0 : ∀ x ∈ p0, x.block < W.heap.size := by obtain ⟨m, hm⟩ := k0; exact DataW.trod_lt m _ _ _ hm
  obtain ⟨a0, b0, c0, e0, rfl, w0⟩ := open_arr4 Tryd.underlying22 Tryd.underlying2 (by kernel_rfl) (by kernel_rfl) (hval 0 22 v0 rfl rfl) h0
  have k1 := h1
  have lt1 : ∀ x ∈ p1, x.block < W.heap.size := by obtain ⟨m, hm⟩ := k1; exact DataW.trod_lt m _ _ _ hm
  obtain ⟨a1, rfl, _, _, w1⟩ := open_int Tryd.underlying2 (hval 1 2 v1 rfl rfl) h1
  clear hA0 hval0
  refine (FnExactKindByCharacter_walk a0 b0 c0 e0 w0 a1 w1 x0 W hs0).mono fun e W' ⟨he, bel⟩ => ?_
  subst he
  exact ⟨_, rfl, _, _, _, [], _, _, hW', trodAll_mk1 (shut_bool Tryd.underlying4 _), (trodAll_cons_mk (Below.trod laidOut (by kernel_rfl) (of_decide_eq_true (by kernel_rfl)) k0 bel lt0) (trodAll_cons_mk (Below.trod laidOut (by kernel_rfl) (of_decide_eq_true (by kernel_rfl)) k1 bel lt1) trodAll_mk0)), vars_read1 enc nfG nfT Tryd.underlying43 (var_below hv0 bel) trivial _, bel.frame _, fun h => by cases h⟩

set_option maxRecDepth 100000 in
set_option maxHeartbeats 1000000 in
theorem FnExactKindByCharacter_closed : joinedFacts Tryd.prog 7 Tryd.f7 Rows.fnExactKindByCharacterSpec Rows.fnExactKindByCharacterRow = true := by
  unfold joinedFacts
  exact clo_and (clo_and (clo_and (clo_and (clo_and (clo_and (clo_and (clo_and (clo_and (clo_and (clo_and (clo_and (clo_and (clo_and (clo_and (clo_and (clo_and (clo_and (clo_and (clo_and (clo_and (clo_and (clo_and (clo_and (clo_and (clo_and (clo_and (clo_and (clo_and (clo_and (clo_and (by kernel_rfl) laidOut) (by kernel_rfl)) (by kernel_rfl)) (by kernel_rfl)) (by kernel_rfl)) (by kernel_rfl)) (by kernel_rfl)) (by kernel_rfl)) (by kernel_rfl)) (by kernel_rfl)) (by kernel_rfl)) (by kernel_rfl)) (by kernel_rfl)) (by kernel_rfl)) (by kernel_rfl)) (by kernel_rfl)) (by kernel_rfl)) (by kernel_rfl)) (by kernel_rfl)) (by kernel_rfl)) (by kernel_rfl)) (by kernel_rfl)) (by kernel_rfl)) (by kernel_rfl)) clo_enter) clo_lifts) clo_make) (by kernel_rfl)) (by kernel_rfl)) (by kernel_rfl)) (by kernel_rfl)

/-- The row of the statement. -/
theorem FnExactKindByCharacter_holds : Rows.FnExactKindByCharacterSaid :=
  OpenClaim.holds_of_wide 7 Tryd.f7 rfl rfl rfl rfl rfl rfl rfl ⟨rfl, rfl, rfl, rfl, rfl⟩ rfl rfl rfl rfl rfl (by kernel_rfl) Tryd.func7 FnExactKindByCharacter_closed
    (of_decide_eq_true (by kernel_rfl)) (by unfold Func.isWrapper; first | (rw [if_pos (by decide +kernel)]; kernel_rfl) | (rw [if_neg (by decide +kernel)]; exact ⟨rfl, rfl⟩))
    (fun os started H enc _ => FnExactKindByCharacter_lifted os started H enc)

/-- THE STATEMENT: the row, its listed variable tied to the program's text. -/
theorem FnExactKindByCharacter_card : Rows.FnExactKindByCharacterCardSaid :=
  Claim7.holds_tied_plain_at .later [] [.sentinel] true (true, "a451aa7745c24fe0bb65e591831b810621cb1e28a5aaa9c5d0facaa22253dada") true
    FnExactKindByCharacter_holds (fun _ h => by cases h) (by kernel_rfl) (fun _ h => by cases h) fnExactKindByCharacter_row_tie rfl ⟨rfl, rfl⟩ (by kernel_rfl) rfl
    (fun f fn hf hfn => by
      obtain rfl : f = 7 := Option.some.inj ((show Tryd.prog.funcNamed "loop.example/g01342/laws.FnExactKindByCharacter" = some 7 by kernel_rfl).symm.trans hf) |>.symm
      obtain rfl : fn = Tryd.f7 := (Option.some.inj (Tryd.func7.symm.trans hfn)).symm
      exact ⟨by kernel_rfl, fun j t ht => by
        rw [Tryd.params7] at ht
        have hm : t ∈ [22, 2] := by simpa using Array.mem_of_getElem? ht
        have hall : ([22, 2].all fun u => !Tryd.prog.wantsStandIn u) = true := by kernel_rfl
        exact (show Tryd.prog.wantsStandIn t = false by simpa using List.all_eq_true.1 hall t hm)⟩)
    (by kernel_rfl)
#print axioms FnExactKindByCharacter_card

end Go.Proofs.YtmhlolimaeejfaaDoor
