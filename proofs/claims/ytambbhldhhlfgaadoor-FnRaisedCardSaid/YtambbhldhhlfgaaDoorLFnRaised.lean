/- FnRaised: raised forms have discriminants divided by p p, lowered forms can be raised again, and divided forms have their numbers divided, at every code. One condition, tied to the program's text: the package's error for forms without factors is laid. -/
import Derived.Test.YtambbhldhhlfgaaDoorZ1
import Derived.Test.YtambbhldhhlfgaaDoorRs7
namespace Go.Proofs.YtambbhldhhlfgaaDoor
open Go.ChangeShapes Go.WideShapes Go.ChangeAt Go.RowKit

set_option maxHeartbeats 400000 in
theorem big_any (a : Option Addr) (len cap : Nat) (w : World) :
    Calls Tryd.prog 7 #[.slice a len cap] w fun e w' => e = .returned (.bool (decide (4096 < (len : Int)))) ∧ w = w' := by
  go_enter Tryd.func7, Tryd.ntmps7
  go_wp2
  go_ret
  exact ⟨rfl, rfl⟩

set_option maxRecDepth 1000000 in
set_option maxHeartbeats 8000000 in
theorem FnRaised_big (w : World) (a0 : Option Addr) (len0 cap0 : Nat) (hb : 4096 < (len0 : Int)) :
    Calls Tryd.prog 3 #[.slice a0 len0 cap0] w fun e w' => e = .returned (.bool true) ∧ Below w.heap.size w w' := by
  go_enter Tryd.func3, Tryd.ntmps3
  go_wp2_with (go_at_call 7; refine (big_any _ _ _ _).mono ?_; rintro e w1 ⟨rfl, rfl⟩)
  go_ret
  exact ⟨rfl, Below.refl _ _⟩

set_option maxRecDepth 1000000 in
set_option maxHeartbeats 8000000 in
theorem FnRaised_low (w : World) (a0 : Option Addr) (len0 cap0 : Nat) (z0 : List Int) (HR : Hid (IsRow .u8 w a0 len0 cap0 z0)) (hlen : len0 ≤ 9223372036854775807) (HB : Hid (decide (4096 < (len0 : Int)) = false)) (pv : Value) (HG : Hid (Sen w pv)) :
    Calls Tryd.prog 3 #[.slice a0 len0 cap0] w fun e w' => e = .returned (.bool true) ∧ Below w.heap.size w w' := by
  have heq := eqForm_run
  have hb' := HB.out
  go_enter Tryd.func3, Tryd.ntmps3
  go_wp2_with (go_at_call 7; refine (big_any _ _ _ _).mono ?_; rintro e w1 ⟨rfl, rfl⟩)
  refine (drawRaF_any a0 len0 cap0 z0 _ HR.out hlen).mono ?_
  rintro e w1 ⟨a, b, c, d, p, r, rfl, V1⟩
  obtain ⟨K, hK⟩ : ∃ k, k = rfc a b c d p r := ⟨_, rfl⟩
  obtain ⟨P0, hP0⟩ : ∃ k, k = if0 K (raA a b c d p r) := ⟨_, rfl⟩
  obtain ⟨P1, hP1⟩ : ∃ k, k = if0 K (raB a b c d p r) := ⟨_, rfl⟩
  obtain ⟨P2, hP2⟩ : ∃ k, k = if0 K (raC a b c d p r) := ⟨_, rfl⟩
  obtain ⟨P3, hP3⟩ : ∃ k, k = if0 K (raD a b c d p r) := ⟨_, rfl⟩
  have QQ : Hid (RaQ a b c d p r K P0 P1 P2 P3) := hid ⟨hK, hP0, hP1, hP2, hP3⟩
  clear hK hP0 hP1 hP2 hP3
  have F2 := Arr.new w1 a b c d 25
  have ha1 := gr_alloc (Below.refl w1.heap.size w1) (.cells #[.int .i64 a, .int .i64 b, .int .i64 c, .int .i64 d] 25)
  have U2 := gr_trans V1 ha1
  clear V1 ha1 
  go_upto_region 4 with fail
  obtain ⟨jh, hjh⟩ : ∃ j, j = w1.heap.size := ⟨_, rfl⟩
  rw [← hjh] at F2
  rw [← hjh]
  generalize w1.alloc (.cells #[.int .i64 a, .int .i64 b, .int .i64 c, .int .i64 d] 25) = W2 at F2  U2 ⊢
  clear hjh
  obtain ⟨_, f0, f1, f2, f3, _⟩ := id F2
  go_wp2_with fail
  refine (QQ.out.i _).mono ?_
  rintro e w3 ⟨rfl, hb3⟩
  have ha3 := gr_alloc (Below.refl w3.heap.size w3) (.cells #[.int .i64 P0, .int .i64 P1, .int .i64 P2, .int .i64 P3] 25)
  have R4 := Arr.new w3 P0 P1 P2 P3 25
  have F4 := (F2.next hb3).next ha3
  have U4 := gr_trans (gr_trans U2 hb3) ha3
  clear F2  U2 hb3 ha3 f0 f1 f2 f3
  go_upto_region 5 with fail
  obtain ⟨j4, hj4⟩ : ∃ j, j = w3.heap.size := ⟨_, rfl⟩
  rw [← hj4] at R4
  rw [← hj4]
  generalize w3.alloc (.cells #[.int .i64 P0, .int .i64 P1, .int .i64 P2, .int .i64 P3] 25) = W4 at R4 F4  U4 ⊢
  clear hj4
  obtain ⟨_, f0, f1, f2, f3, _⟩ := id F4
  go_wp2_with fail
  refine (QQ.out.s _).mono ?_
  rintro e w5 ⟨rfl, hb5⟩
  have ha5 := gr_alloc (Below.refl w5.heap.size w5) (.cells #[.int .i64 P0, .int .i64 P1, .int .i64 P2, .int .i64 P3] 25)
  have X6 := Arr.new w5 P0 P1 P2 P3 25
  have R6 := (R4.next hb5).next ha5
  have F6 := (F4.next hb5).next ha5
  have U6 := gr_trans (gr_trans U4 hb5) ha5
  clear F4  U4 hb5 ha5 f0 f1 f2 f3 R4
  go_upto_region 6 with fail
  obtain ⟨j6, hj6⟩ : ∃ j, j = w5.heap.size := ⟨_, rfl⟩
  rw [← hj6] at X6
  rw [← hj6]
  generalize w5.alloc (.cells #[.int .i64 P0, .int .i64 P1, .int .i64 P2, .int .i64 P3] 25) = W6 at X6 R6 F6  U6 ⊢
  clear hj6
  have D6 : RaB W6 jh j4 a b c d P0 P1 P2 P3 := ⟨F6, R6⟩
  have er := eqF_rf P0 P1 P2 P3
  obtain ⟨_, x0, x1, x2, x3, _⟩ := id X6
  obtain ⟨_, y0, y1, y2, y3, _⟩ := id R6
  go_upto_if 77 with (fail)
  go_cut [] (fun wx => Below w.heap.size w wx ∧ RaB wx jh j4 a b c d P0 P1 P2 P3)
  case first =>
    go_wp2_with fail
    go_meet
    exact ⟨U6, D6⟩
  case rest =>
    obtain ⟨U, S3⟩ := hcut
    go_step
    exact rseg77_any w a0 len0 cap0 z0 HR hlen pv HG _ U jh j4 a b c d p r K P0 P1 P2 P3 (hid S3) QQ _ _ _ _ _ _ _ _ _ _ _ _ _ _ _ _ _ _ _ _ _ _ _ _ _ _ _ _ _ _ _ _ _ _ _ _ _ _ _ _ _ _ _ _ _ _ _ _ _ _ _ _ _ _ _ _ _ _ _ _ _ _ _ _ _ _ _ _ _ _ _ _ _ _ _ _ _ _ _ _ _ _ _ _ _ _ _ _ _ _ _ _ _ _ _ _ _ _ _ _ _ _ _ _ _ _ _ _ _ _ _ _ _ _ _ _ _ _ _ _ _ _ _ _ _ _ _ _ _ _ _ _ _ _ _ _ _ _ _ _ _ _ _ _ _ _ _ _ _ _ _ _ _ _ _ _ _ _ _ _ _ _ _ _ _ _ _ _ _ _ _ _ _ _ _ _ _ _ _ _ _ _ _ _ _ _ _ _ _ _ _ _ _ _ _ _ _ _ _ _ _ _ _ _ _ _ _ _ _ _ _ _ _ _ _ _ _ _ _ _ _ _ _ _ _ _ _ _ _ _ _ _ _ _ _ _ _ _ _ _ _ _ _ _ _ _ _ _ _ _ _ _ _ _ _ _ _ _ _ _ _ _ _ _ _ _ _ _ _ _ _ _ _ _ _ _ _ _ _ _ _ _ _ _ _ _ _ _ _ _ _ _ _ _ _ _ _ _ _ _ _ _ _ _ _

theorem FnRaised_walk (w : World) (a0 : Option Addr) (len0 cap0 : Nat) (z0 : List Int) (hR : IsRow .u8 w a0 len0 cap0 z0) (pv : Value) (hg : Sen w pv) :
    Calls Tryd.prog 3 #[.slice a0 len0 cap0] w fun e w' => e = .returned (.bool true) ∧ Below w.heap.size w w' := by
  by_cases hb : 4096 < (len0 : Int)
  · exact FnRaised_big w a0 len0 cap0 hb
  · exact FnRaised_low w a0 len0 cap0 z0 (hid hR) (by omega) (hid (decide_eq_false hb)) pv (hid hg)

set_option maxRecDepth 100000 in
set_option maxHeartbeats 1000000 in
theorem FnRaised_lifted (os : Os) (started : os.Started) (H : Type) (enc : TypeId × Value → H) :
    ReturnsInHanded {} Tryd.checked os 3 .any (fun w args => (Rows.fnRaisedSpec.pre enc Tryd.prog Tryd.f3 Rows.fnRaisedRow.domain false w args ∧ laidMetH Tryd.prog Rows.fnRaisedRow.laid w) ∧ sizedMet enc Tryd.prog Tryd.f3 (OpenSpec.ofChange Rows.fnRaisedSpec) false w args)
      (Rows.fnRaisedSpec.post enc Tryd.prog Tryd.f3 false true false false) := by
  refine returnsInHanded_of_change_and (C := Tryd.checked) (X := fun w _ => laidMetH Tryd.prog Rows.fnRaisedRow.laid w) (fun _ _ _ hh h => h.of_heap hh) own started (by kernel_rfl) Tryd.func3
    (ChangeSpec.witness_shaped (enc := enc) (C := Tryd.checked) (os := os) (X := fun w _ => laidMetH Tryd.prog Rows.fnRaisedRow.laid w) false (World.doorLaid Tryd.prog 400 os) #[.slice none 0 0] 8 rfl (World.shaped_of_RefB (by kernel_rfl) (by kernel_rfl)) (by kernel_rfl) (by kernel_rfl) (by kernel_rfl) (nf_door os _)) ?_
  intro W base args ds gs before hval0 hW _ _ hL _
  have hval : ∀ (j : Nat) t v, Tryd.f3.params[j]? = some t → args[j]? = some v → Value.okWide Tryd.prog W .any base t v := hval0
  have hW' := hW
  obtain ⟨p, q, hA0, hV, rfl, hfz, hnd⟩ := hW
  have hA : DataW.TrodAll enc Tryd.prog W 0 (fun _ => true) true Tryd.f3.params.toList args.toList ds p := hA0
  rw [Tryd.params3] at hA hval
  obtain ⟨v0, vs0, d0, ds0, p0, q0, hargs, rfl, rfl, h0, r0⟩ := trodAll_cons hA
  obtain ⟨rfl, rfl, rfl⟩ := trodAll_nil r0
  obtain rfl : args = #[v0] := by cases args; simp_all
  obtain ⟨x0, hv0, hs0⟩ := nf_laid hL
  obtain ⟨rfl, rfl⟩ := DataW.TrodVars.unique hV (vars_read1 enc nfG nfT Tryd.underlying97 hv0 trivial _)
  have k0 := h0
  have lt0 : ∀ x ∈ p0, x.block < W.heap.size := by obtain ⟨m, hm⟩ := k0; exact DataW.trod_lt m _ _ _ hm
  obtain ⟨a0, len0, cap0, rfl⟩ := okWide_slice Tryd.underlying22 (hval 0 22 v0 rfl rfl)
  obtain ⟨z0, w0⟩ := open_row (k := .u8) Tryd.underlying22 Tryd.underlying5 (by kernel_rfl) h0
  clear hA0 hval0
  refine (FnRaised_walk W a0 len0 cap0 z0 w0 x0 hs0).mono fun e W' ⟨he, bel⟩ => ?_
  subst he
  exact ⟨_, rfl, _, _, _, [], _, _, hW', trodAll_mk1 (shut_bool Tryd.underlying4 _), (trodAll_cons_mk (Below.trod laidOut (by kernel_rfl) (of_decide_eq_true (by kernel_rfl)) k0 bel lt0) trodAll_mk0), vars_read1 enc nfG nfT Tryd.underlying97 (var_below hv0 bel) trivial _, bel.frame _, fun h => by cases h⟩

set_option maxRecDepth 100000 in
set_option maxHeartbeats 1000000 in
theorem FnRaised_closed : joinedFacts Tryd.prog 3 Tryd.f3 Rows.fnRaisedSpec Rows.fnRaisedRow = true := by
  unfold joinedFacts
  exact clo_and (clo_and (clo_and (clo_and (clo_and (clo_and (clo_and (clo_and (clo_and (clo_and (clo_and (clo_and (clo_and (clo_and (clo_and (clo_and (clo_and (clo_and (clo_and (clo_and (clo_and (clo_and (clo_and (clo_and (clo_and (clo_and (clo_and (clo_and (clo_and (clo_and (clo_and (by kernel_rfl) laidOut) (by kernel_rfl)) (by kernel_rfl)) (by kernel_rfl)) (by kernel_rfl)) (by kernel_rfl)) (by kernel_rfl)) (by kernel_rfl)) (by kernel_rfl)) (by kernel_rfl)) (by kernel_rfl)) (by kernel_rfl)) (by kernel_rfl)) (by kernel_rfl)) (by kernel_rfl)) (by kernel_rfl)) (by kernel_rfl)) (by kernel_rfl)) (by kernel_rfl)) (by kernel_rfl)) (by kernel_rfl)) (by kernel_rfl)) (by kernel_rfl)) (by kernel_rfl)) clo_enter) clo_lifts) clo_make) (by kernel_rfl)) (by kernel_rfl)) (by kernel_rfl)) (by kernel_rfl)

/-- The row of the statement. -/
theorem FnRaised_holds : Rows.FnRaisedSaid :=
  OpenClaim.holds_of_wide 3 Tryd.f3 rfl rfl rfl rfl rfl rfl rfl ⟨rfl, rfl, rfl, rfl, rfl⟩ rfl rfl rfl rfl rfl (by kernel_rfl) Tryd.func3 FnRaised_closed
    (of_decide_eq_true (by kernel_rfl)) (by unfold Func.isWrapper; first | (rw [if_pos (by decide +kernel)]; kernel_rfl) | (rw [if_neg (by decide +kernel)]; exact ⟨rfl, rfl⟩))
    (fun os started H enc _ => FnRaised_lifted os started H enc)

/-- THE STATEMENT: the row, its listed variable tied to the program's text. -/
theorem FnRaised_card : Rows.FnRaisedCardSaid :=
  Claim7.holds_tied_plain_at .later [] [.sentinel] true (true, "3be75d20f7be5ef288c4d4b7cdee6729cd7017bd3953119b95a2fa0e8dbcdcc6") true
    FnRaised_holds (fun _ h => by cases h) (by kernel_rfl) (fun _ h => by cases h) fnRaised_row_tie rfl ⟨rfl, rfl⟩ (by kernel_rfl) rfl
    (fun f fn hf hfn => by
      obtain rfl : f = 3 := Option.some.inj ((show Tryd.prog.funcNamed "loop.example/g01342/laws.FnRaised" = some 3 by kernel_rfl).symm.trans hf) |>.symm
      obtain rfl : fn = Tryd.f3 := (Option.some.inj (Tryd.func3.symm.trans hfn)).symm
      exact ⟨by kernel_rfl, fun j t ht => by
        rw [Tryd.params3] at ht
        have hm : t ∈ [22] := by simpa using Array.mem_of_getElem? ht
        have hall : ([22].all fun u => !Tryd.prog.wantsStandIn u) = true := by kernel_rfl
        exact (show Tryd.prog.wantsStandIn t = false by simpa using List.all_eq_true.1 hall t hm)⟩)
    (by kernel_rfl)
#print axioms FnRaised_card

end Go.Proofs.YtambbhldhhlfgaaDoor
