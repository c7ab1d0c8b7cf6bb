/- FnKinds: kinds go with roots and with the discriminant, kinds of changed forms are equal, and counts of kinds add up to p^4, at every code. One condition, tied to the program's text: the package's error for forms without factors is laid. -/
import Derived.Test.YtambbhldhhlfgaaDoorFkZ1
import Derived.Test.YtambbhldhhlfgaaDoorFkKq7
namespace Go.Proofs.YtambbhldhhlfgaaDoor
open Go.ChangeShapes Go.WideShapes Go.ChangeAt Go.RowKit

set_option maxHeartbeats 400000 in
theorem big_any (a : Option Addr) (len cap : Nat) (w : World) :
    Calls Tryd.prog 7 #[.slice a len cap] w fun e w' => e = .returned (.bool (decide (4096 < (len : Int)))) ∧ w = w' := by
  go_enter Tryd.func7, Tryd.ntmps7
  go_wp2
  go_ret
  exact ⟨rfl, rfl⟩

set_option maxRecDepth 1000000 in
set_option maxHeartbeats 8000000 in
theorem FnKinds_walk (w : World) (a0 : Option Addr) (len0 cap0 : Nat) (z0 : List Int) (hR : IsRow .u8 w a0 len0 cap0 z0) (pv : Value) (hg : Sen w pv) :
    Calls Tryd.prog 6 #[.slice a0 len0 cap0] w fun e w' => e = .returned (.bool true) ∧ Below w.heap.size w w' := by
  have HR := hid hR
  clear hR
  by_cases hb : 4096 < (len0 : Int)
  · go_enter Tryd.func6, Tryd.ntmps6
    go_wp2_with (go_at_call 7; refine (big_any _ _ _ _).mono ?_; rintro e w1 ⟨rfl, rfl⟩)
    go_ret
    exact ⟨rfl, Below.refl _ _⟩
  have hlen : len0 ≤ 9223372036854775807 := by omega
  have hb' : decide (4096 < (len0 : Int)) = false := decide_eq_false hb
  have HB := hid hb'
  clear hb
  go_enter Tryd.func6, Tryd.ntmps6
  go_wp2_with (go_at_call 7; refine (big_any _ _ _ _).mono ?_; rintro e w1 ⟨rfl, rfl⟩)
  refine (drawKM_any a0 len0 cap0 z0 _ HR.out hlen).mono ?_
  rintro e w1 ⟨a, b, c, d, p, rfl, U1⟩
  have M2 := Arr.new w1 a b c d 25
  have U2 := gr_alloc U1 (.cells #[.int .i64 a, .int .i64 b, .int .i64 c, .int .i64 d] 25)
  have G2 := (hg.next U1).alloc (.cells #[.int .i64 a, .int .i64 b, .int .i64 c, .int .i64 d] 25)
  have h1 := fun W hg => iKindModulo_any a b c d p pv W hg
  have h2 := fun W => sKindModulo_any a b c d p W
  have h3 := fun W => iIsRamified_any a b c d p W
  have h4 := fun W hg => iCountRoots_any a b c d p pv W hg
  have h5 := fun W hg => iRootsModulo_any a b c d p pv W hg
  have h6 := fun W => iChangeForm_any a b c d 1 1 0 1 W
  have h7 := fun W hg => iKindModulo_any (if0 (chc a b c d 1 1 0 1) (cA a b c d 1 0)) (if0 (chc a b c d 1 1 0 1) (cB a b c d 1 1 0 1)) (if0 (chc a b c d 1 1 0 1) (cC a b c d 1 1 0 1)) (if0 (chc a b c d 1 1 0 1) (cA a b c d 1 1)) p pv W hg
  have q1 : fpc a b c d p = 0 → LawOk (kmv a b c d p) (crv a b c d p) (ttl (if rmc a b c d p = 0 then (rtp a b c d p).map rw3 else [])) p (rmc a b c d p) (rmf a b c d p) := law_ok
  have q2 : fpc a b c d p = 0 → chc a b c d 1 1 0 1 = 0 → kmv (if0 (chc a b c d 1 1 0 1) (cA a b c d 1 0)) (if0 (chc a b c d 1 1 0 1) (cB a b c d 1 1 0 1)) (if0 (chc a b c d 1 1 0 1) (cC a b c d 1 1 0 1)) (if0 (chc a b c d 1 1 0 1) (cA a b c d 1 1)) p = kmv a b c d p ∧
      fpc (if0 (chc a b c d 1 1 0 1) (cA a b c d 1 0)) (if0 (chc a b c d 1 1 0 1) (cB a b c d 1 1 0 1)) (if0 (chc a b c d 1 1 0 1) (cC a b c d 1 1 0 1)) (if0 (chc a b c d 1 1 0 1) (cA a b c d 1 1)) p = 0 := fun h hc => by
    have := kmv_mv h hc
    simpa [if0, hc] using this
  have q3 : fpc a b c d p = 0 → prm p = true := fun h => (fpc_0.1 h).2
  unfold RwOutC at h5
  generalize kmv (if0 (chc a b c d 1 1 0 1) (cA a b c d 1 0)) (if0 (chc a b c d 1 1 0 1) (cB a b c d 1 1 0 1)) (if0 (chc a b c d 1 1 0 1) (cC a b c d 1 1 0 1)) (if0 (chc a b c d 1 1 0 1) (cA a b c d 1 1)) p = kd' at h7 q2
  generalize fpc (if0 (chc a b c d 1 1 0 1) (cA a b c d 1 0)) (if0 (chc a b c d 1 1 0 1) (cB a b c d 1 1 0 1)) (if0 (chc a b c d 1 1 0 1) (cC a b c d 1 1 0 1)) (if0 (chc a b c d 1 1 0 1) (cA a b c d 1 1)) p = k' at h7 q2
  generalize if0 (chc a b c d 1 1 0 1) (cA a b c d 1 0) = n0 at h6 h7
  generalize if0 (chc a b c d 1 1 0 1) (cB a b c d 1 1 0 1) = n1 at h6 h7
  generalize if0 (chc a b c d 1 1 0 1) (cC a b c d 1 1 0 1) = n2 at h6 h7
  generalize if0 (chc a b c d 1 1 0 1) (cA a b c d 1 1) = n3 at h6 h7
  generalize chc a b c d 1 1 0 1 = cc at h6 q2
  generalize (if rmc a b c d p = 0 then (rtp a b c d p).map rw3 else []) = R at h5 q1
  generalize kmv a b c d p = kd at h1 h2 q1 q2
  generalize fpc a b c d p = k at h1 h2 h3 h4 q1 q2 q3
  generalize crv a b c d p = ct at h4 q1
  generalize rmc a b c d p = rm at h5 q1
  generalize rmf a b c d p = ra at h3 q1
  have H1 := hid h1; have H2 := hid h2; have H3 := hid h3; have H4 := hid h4; have H5 := hid h5; have H6 := hid h6; have H7 := hid h7; have Q1 := hid q1; have Q2 := hid q2; have Q3 := hid q3
  clear h1 h2 h3 h4 h5 h6 h7 q1 q2 q3 hg U1
  obtain ⟨_, m0, m1, m2, m3, _⟩ := id M2
  go_wp2_with fail
  refine (H1.out _ G2).mono ?_
  rintro e w3 ⟨rfl, hb3⟩
  clear m0 m1 m2 m3
  have M3 := M2.next hb3
  have U3 := gr_trans U2 hb3
  have G3 := G2.next hb3
  clear M2 U2 G2 hb3 H1
  obtain ⟨_, m0, m1, m2, m3, _⟩ := id M3
  go_wp2_with fail
  refine (H2.out _).mono ?_
  rintro e w4 ⟨rfl, hb4⟩
  clear m0 m1 m2 m3
  have M4 := M3.next hb4
  have U4 := gr_trans U3 hb4
  have G4 := G3.next hb4
  clear M3 U3 G3 hb4 H2
  go_upto_if 75 with (fail)
  go_cut [] (fun wx => Below w.heap.size w wx ∧ Sen wx pv)
  case first =>
    by_cases hk : k = 0
    · have HL := hid (Q1.out hk)
      have HC := hid (Q2.out hk)
      have HP := hid (Q3.out hk)
      have hkt : (k == 0) = true := by simpa using hk
      subst hk
      clear Q1 Q2 Q3
      go_step
      refine then75_any a0 len0 cap0 pv w4 _ a b c d p kd ct rm ra n0 n1 n2 n3 cc kd' k' R M4 G4 HL HC HP H3 H4 H5 H6 H7 _ _ _ _ _ _ _ _ _ _ _ _ _ _ _ _ _ _ _ _ _ _ _ _ _ _ _ _ _ _ _ _ _ _ _ _ _ _ _ _ _ _ _ _ _ _ _ _ _ _ _ _ _ _ _ _ _ _ _ _ _ _ _ _ _ _ _ _ _ _ _ _ _ _ _ _ _ _ _ _ _ _ _ _ _ _ _ _ _ _ _ _ _ _ _ _ _ _ _ _ _ _ _ _ _ _ _ _ _ _ _ _ _ _ _ _ _ _ _ _ _ _ _ _ _ _ _ _ _ _ _ _ _ _ _ _ _ _ _ _ _ _ _ _ _ _ _ _ _ _ _ _ _ _ _ _ _ _ _ _ _ _ _ _ _ _ _ _ _ _ _ _ _ _ _ _ _ _ _ _ _ _ _ _ _ _ _ _ _ _ _ _ _ _ _ _ _ _ _ _ _ _ _ _ _ _ _ _ _ _ _ _ _ _ _ _ _ _ _ _ _ _ _ _ _ _ _ _ _ _ _ _ _ _ _ _ _ _ _ _ _ _ _ _ _ _ _ _ _ _ _ _ _ _ _ _ _ _ _ _ _ _ _ _ _ _ _ _ _ _ _ _ _ _ _ _ _ _ _ _ _ _ _ _ _ _ _ _ _ _ _ _ _ _ _ _ _ _ _ _ _ _ _ _ _ _ _ _ _ _ _ _ _ _ _ _ _ _ _ _ _ _ _ _ _ _ _ _ (fun _ _ _ _ _ _ _ _ _ _ _ _ _ _ _ _ _ _ _ _ _ _ _ _ _ _ _ _ _ _ _ _ _ _ _ _ _ _ _ _ _ _ _ _ _ _ _ _ _ _ _ _ _ _ _ _ _ _ _ _ _ _ _ _ _ _ _ _ _ _ _ _ _ _ _ _ _ _ _ _ _ _ _ _ _ _ _ _ _ _ _ _ _ _ _ _ _ _ _ _ _ _ _ _ _ _ _ _ _ _ _ _ _ _ _ _ _ _ _ _ _ _ _ _ _ _ _ _ _ _ _ _ _ _ _ _ _ _ _ _ _ _ _ _ _ _ _ _ _ _ _ _ _ _ _ _ _ _ _ _ _ _ _ _ _ _ _ _ _ _ _ _ _ _ _ _ _ _ _ _ _ _ _ _ _ _ _ _ _ _ _ _ _ _ _ _ _ _ _ _ _ _ _ _ _ _ _ _ _ _ _ _ _ _ _ _ _ _ _ _ _ _ _ _ _ _ _ _ _ _ _ _ _ _ _ _ _ _ _ _ _ _ _ _ _ _ _ _ _ _ _ _ _ _ _ _ _ _ _ _ _ _ _ _ _ _ _ _ _ _ _ _ _ _ _ _ _ _ _ _ _ _ _ _ _ _ _ _ _ _ _ _ _ _ _ _ _ _ _ _ _ wx hwx hgx => ?_)
      go_step
      go_step
      go_meet
      exact ⟨gr_trans U4 hwx, hgx⟩
    · have hkf : (k == 0) = false := by simpa using hk
      clear hk
      go_wp2_with fail
      go_meet
      exact ⟨U4, G4⟩
  case rest =>
    obtain ⟨h1, h2⟩ := hcut
    go_step
    exact kseg75_any w a0 len0 cap0 z0 HR hlen pv _ h1 h2 _ _ _ _ _ _ _ _ _ _ _ _ _ _ _ _ _ _ _ _ _ _ _ _ _ _ _ _ _ _ _ _ _ _ _ _ _ _ _ _ _ _ _ _ _ _ _ _ _ _ _ _ _ _ _ _ _ _ _ _ _ _ _ _ _ _ _ _ _ _ _ _ _ _ _ _ _ _ _ _ _ _ _ _ _ _ _ _ _ _ _ _ _ _ _ _ _ _ _ _ _ _ _ _ _ _ _ _ _ _ _ _ _ _ _ _ _ _ _ _ _ _ _ _ _ _ _ _ _ _ _ _ _ _ _ _ _ _ _ _ _ _ _ _ _ _ _ _ _ _ _ _ _ _ _ _ _ _ _ _ _ _ _ _ _ _ _ _ _ _ _ _ _ _ _ _ _ _ _ _ _ _ _ _ _ _ _ _ _ _ _ _ _ _ _ _ _ _ _ _ _ _ _ _ _ _ _ _ _ _ _ _ _ _ _ _ _ _ _ _ _ _ _ _ _ _ _ _ _ _ _ _ _ _ _ _ _ _ _ _ _ _ _ _ _ _ _ _ _ _ _ _ _ _ _ _ _ _ _ _ _ _ _ _ _ _ _ _ _ _ _ _ _ _ _ _ _ _ _ _ _ _ _ _ _ _ _ _ _ _ _ _ _ _ _ _ _ _ _ _ _ _ _ _ _ _ _ _ _ _ _ _ _ _ _ _ _ _ _ _ _ _ _ _ _ _ _ _ _ _

set_option maxRecDepth 100000 in
set_option maxHeartbeats 1000000 in
theorem FnKinds_lifted (os : Os) (started : os.Started) (H : Type) (enc : TypeId × Value → H) :
    ReturnsInHanded {} Tryd.checked os 6 .any (fun w args => (Rows.fnKindsSpec.pre enc Tryd.prog Tryd.f6 Rows.fnKindsRow.domain false w args ∧ laidMetH Tryd.prog Rows.fnKindsRow.laid w) ∧ sizedMet enc Tryd.prog Tryd.f6 (OpenSpec.ofChange Rows.fnKindsSpec) false w args)
      (Rows.fnKindsSpec.post enc Tryd.prog Tryd.f6 false true false false) := by
  refine returnsInHanded_of_change_and (C := Tryd.checked) (X := fun w _ => laidMetH Tryd.prog Rows.fnKindsRow.laid w) (fun _ _ _ hh h => h.of_heap hh) own started (by kernel_rfl) Tryd.func6
    (ChangeSpec.witness_shaped (enc := enc) (C := Tryd.checked) (os := os) (X := fun w _ => laidMetH Tryd.prog Rows.fnKindsRow.laid w) false (World.doorLaid Tryd.prog 400 os) #[.slice none 0 0] 8 rfl (World.shaped_of_RefB (by kernel_rfl) (by kernel_rfl)) (by kernel_rfl) (by kernel_rfl) (by kernel_rfl) (nf_door os _)) ?_
  intro W base args ds gs before hval0 hW _ _ hL _
  have hval : ∀ (j : Nat) t v, Tryd.f6.params[j]? = some t → args[j]? = some v → Value.okWide Tryd.prog W .any base t v := hval0
  have hW' := hW
  obtain ⟨p, q, hA0, hV, rfl, hfz, hnd⟩ := hW
  have hA : DataW.TrodAll enc Tryd.prog W 0 (fun _ => true) true Tryd.f6.params.toList args.toList ds p := hA0
  rw [Tryd.params6] at hA hval
  obtain ⟨v0, vs0, d0, ds0, p0, q0, hargs, rfl, rfl, h0, r0⟩ := trodAll_cons hA
  obtain ⟨rfl, rfl, rfl⟩ := trodAll_nil r0
  obtain rfl : args = #[v0] := by cases args; simp_all
  obtain ⟨x0, hv0, hs0⟩ := nf_laid hL
  obtain ⟨rfl, rfl⟩ := DataW.TrodVars.unique hV (vars_read1 enc nfG nfT Tryd.underlying97 hv0 trivial _)
  have k0 := h0
  have lt0 : ∀ x ∈ p0, x.block < W.heap.size := by obtain ⟨m, hm⟩ := k0; exact DataW.trod_lt m _ _ _ hm
  obtain ⟨a0, len0, cap0, rfl⟩ := okWide_slice Tryd.underlying22 (hval 0 22 v0 rfl rfl)
  obtain ⟨z0, w0⟩ := open_row (k := .u8) Tryd.underlying22 Tryd.underlying5 (by kernel_rfl) h0
  clear hA0 hval0
  refine (FnKinds_walk W a0 len0 cap0 z0 w0 x0 hs0).mono fun e W' ⟨he, bel⟩ => ?_
  subst he
  exact ⟨_, rfl, _, _, _, [], _, _, hW', trodAll_mk1 (shut_bool Tryd.underlying4 _), (trodAll_cons_mk (Below.trod laidOut (by kernel_rfl) (of_decide_eq_true (by kernel_rfl)) k0 bel lt0) trodAll_mk0), vars_read1 enc nfG nfT Tryd.underlying97 (var_below hv0 bel) trivial _, bel.frame _, fun h => by cases h⟩

set_option maxRecDepth 100000 in
set_option maxHeartbeats 1000000 in
theorem FnKinds_closed : joinedFacts Tryd.prog 6 Tryd.f6 Rows.fnKindsSpec Rows.fnKindsRow = true := by
  unfold joinedFacts
  exact clo_and (clo_and (clo_and (clo_and (clo_and (clo_and (clo_and (clo_and (clo_and (clo_and (clo_and (clo_and (clo_and (clo_and (clo_and (clo_and (clo_and (clo_and (clo_and (clo_and (clo_and (clo_and (clo_and (clo_and (clo_and (clo_and (clo_and (clo_and (clo_and (clo_and (clo_and (by kernel_rfl) laidOut) (by kernel_rfl)) (by kernel_rfl)) (by kernel_rfl)) (by kernel_rfl)) (by kernel_rfl)) (by kernel_rfl)) (by kernel_rfl)) (by kernel_rfl)) (by kernel_rfl)) (by kernel_rfl)) (by kernel_rfl)) (by kernel_rfl)) (by kernel_rfl)) (by kernel_rfl)) (by kernel_rfl)) (by kernel_rfl)) (by kernel_rfl)) (by kernel_rfl)) (by kernel_rfl)) (by kernel_rfl)) (by kernel_rfl)) (by kernel_rfl)) (by kernel_rfl)) clo_enter) clo_lifts) clo_make) (by kernel_rfl)) (by kernel_rfl)) (by kernel_rfl)) (by kernel_rfl)

/-- The row of the statement. -/
theorem FnKinds_holds : Rows.FnKindsSaid :=
  OpenClaim.holds_of_wide 6 Tryd.f6 rfl rfl rfl rfl rfl rfl rfl ⟨rfl, rfl, rfl, rfl, rfl⟩ rfl rfl rfl rfl rfl (by kernel_rfl) Tryd.func6 FnKinds_closed
    (of_decide_eq_true (by kernel_rfl)) (by unfold Func.isWrapper; first | (rw [if_pos (by decide +kernel)]; kernel_rfl) | (rw [if_neg (by decide +kernel)]; exact ⟨rfl, rfl⟩))
    (fun os started H enc _ => FnKinds_lifted os started H enc)

/-- THE STATEMENT: the row, its listed variable tied to the program's text. -/
theorem FnKinds_card : Rows.FnKindsCardSaid :=
  Claim7.holds_tied_plain_at .later [] [.sentinel] true (true, "3be75d20f7be5ef288c4d4b7cdee6729cd7017bd3953119b95a2fa0e8dbcdcc6") true
    FnKinds_holds (fun _ h => by cases h) (by kernel_rfl) (fun _ h => by cases h) fnKinds_row_tie rfl ⟨rfl, rfl⟩ (by kernel_rfl) rfl
    (fun f fn hf hfn => by
      obtain rfl : f = 6 := Option.some.inj ((show Tryd.prog.funcNamed "loop.example/g01342/laws.FnKinds" = some 6 by kernel_rfl).symm.trans hf) |>.symm
      obtain rfl : fn = Tryd.f6 := (Option.some.inj (Tryd.func6.symm.trans hfn)).symm
      exact ⟨by kernel_rfl, fun j t ht => by
        rw [Tryd.params6] at ht
        have hm : t ∈ [22] := by simpa using Array.mem_of_getElem? ht
        have hall : ([22].all fun u => !Tryd.prog.wantsStandIn u) = true := by kernel_rfl
        exact (show Tryd.prog.wantsStandIn t = false by simpa using List.all_eq_true.1 hall t hm)⟩)
    (by kernel_rfl)
#print axioms FnKinds_card

end Go.Proofs.YtambbhldhhlfgaaDoor
