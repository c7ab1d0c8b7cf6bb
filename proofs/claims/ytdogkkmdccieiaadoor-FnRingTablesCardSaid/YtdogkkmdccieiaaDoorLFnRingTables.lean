/- FnRingTables: indices are values of the form, discriminants of elements are those of their polynomials, units have inverses, and forms come back from their tables, at every code. No condition. -/
import Derived.Test.YtdogkkmdccieiaaDoorZ1
import Derived.Test.YtdogkkmdccieiaaDoorRt9
namespace Go.Proofs.YtdogkkmdccieiaaDoor
open Go.ChangeShapes Go.WideShapes Go.ChangeAt Go.RowKit

set_option maxHeartbeats 400000 in
theorem big_any (a : Option Addr) (len cap : Nat) (w : World) :
    Calls Tryd.prog 5 #[.slice a len cap] w fun e w' => e = .returned (.bool (decide (4096 < (len : Int)))) ∧ w = w' := by
  go_enter Tryd.func5, Tryd.ntmps5
  go_wp2
  go_ret
  exact ⟨rfl, rfl⟩

set_option maxRecDepth 1000000 in
set_option maxHeartbeats 8000000 in
theorem FnRingTables_big (w : World) (a0 : Option Addr) (len0 cap0 : Nat) (hb : 4096 < (len0 : Int)) :
    Calls Tryd.prog 3 #[.slice a0 len0 cap0] w fun e w' => e = .returned (.bool true) ∧ Below w.heap.size w w' := by
  go_enter Tryd.func3, Tryd.ntmps3
  go_wp2_with (go_at_call 5; refine (big_any _ _ _ _).mono ?_; rintro e w1 ⟨rfl, rfl⟩)
  go_ret
  exact ⟨rfl, Below.refl _ _⟩

set_option maxRecDepth 1000000 in
set_option maxHeartbeats 8000000 in
theorem FnRingTables_low (w : World) (a0 : Option Addr) (len0 cap0 : Nat) (z0 : List Int) (HR : Hid (IsRow .u8 w a0 len0 cap0 z0)) (hlen : len0 ≤ 9223372036854775807) (HB : Hid (decide (4096 < (len0 : Int)) = false)) (pv : Value) (hg : Hid (SenU w pv)) :
    Calls Tryd.prog 3 #[.slice a0 len0 cap0] w fun e w' => e = .returned (.bool true) ∧ Below w.heap.size w w' := by
  have hb' := HB.out
  have hcut := Below.refl w.heap.size w
  have HR2 := hid HR.out
  go_enter Tryd.func3, Tryd.ntmps3
  go_wp2_with (go_at_call 5; refine (big_any _ _ _ _).mono ?_; rintro e w1 ⟨rfl, rfl⟩)
  refine (drawIx_any a0 len0 cap0 z0 _ HR2.out hlen).mono ?_
  rintro e' w1 ⟨a, b, c, d, u, v, x, rfl, hb1⟩
  have ha1 := gr_alloc (gr_alloc hb1 (.cells #[.int .i64 a, .int .i64 b, .int .i64 c, .int .i64 d] 25)) (.cells #[.int .i64 u, .int .i64 v, .int .i64 x] 27)
  have F1 := (Arr.new w1 a b c d 25).alloc (.cells #[.int .i64 u, .int .i64 v, .int .i64 x] 27)
  have X1 := Arr3.new (w1.alloc (.cells #[.int .i64 a, .int .i64 b, .int .i64 c, .int .i64 d] 25)) u v x 27
  simp only [World.size_alloc] at X1
  skip
  have U1 := gr_trans hcut ha1
  clear hcut hb1 ha1 HR2
  go_upto_region 4 with fail
  obtain ⟨j1, hj1⟩ : ∃ j, j = w1.heap.size := ⟨_, rfl⟩
  rw [← hj1] at F1 X1
  rw [← hj1]
  generalize (w1.alloc (.cells #[.int .i64 a, .int .i64 b, .int .i64 c, .int .i64 d] 25)).alloc (.cells #[.int .i64 u, .int .i64 v, .int .i64 x] 27) = W1 at F1 X1  U1 ⊢
  clear hj1
  have P1 : RtZ W1 j1 (j1 + 1) a b c d u v x := ⟨F1, X1⟩
  clear F1 X1
  have hx := fun W => iIndexE_any a b c d u v x W
  have hy := fun W => sIndexE_any a b c d u v x W
  have ht := RtV.mk' a b c d u v x
  generalize if0 (ixc (fec a b c d u v x) (vl a b c d v x)) (mx (vl a b c d v x)) = n1 at hx hy ht
  generalize ixc (fec a b c d u v x) (vl a b c d v x) = K1 at hx hy ht
  have HX := hid hx; have HY := hid hy; have HT := hid ht
  clear hx hy ht hb'
  obtain ⟨⟨_, f0, f1, f2, f3, _⟩, ⟨_, x0, x1, x2, _⟩⟩ := id P1
  go_wp2_with fail
  refine (HX.out _).mono ?_
  rintro e' w2 ⟨rfl, hb2⟩
  have P2 := P1.next hb2
  have U2 := gr_trans U1 hb2
  clear P1 U1 hb2 HX f0 f1 f2 f3 x0 x1 x2
  obtain ⟨⟨_, f0, f1, f2, f3, _⟩, ⟨_, x0, x1, x2, _⟩⟩ := id P2
  go_wp2_with fail
  refine (HY.out _).mono ?_
  rintro e' w3 ⟨rfl, hb3⟩
  have P3 := hid (P2.next hb3)
  have U3 := gr_trans U2 hb3
  clear P2 U2 hb3 HY f0 f1 f2 f3 x0 x1 x2
  go_upto_if 73 with (fail)
  go_cut [] (fun wx => Below w.heap.size w wx ∧ Below w3.heap.size w3 wx)
  case first =>
    go_wp2_with fail
    go_meet
    exact ⟨by (repeat' (first | with_reducible exact Below.refl _ _ | with_reducible assumption | with_reducible refine gr_alloc ?_ _ | with_reducible refine gr_drew ?_ | with_reducible refine gr_drewN ?_ _ | with_reducible refine gr_trans ?_ (by assumption) | with_reducible refine gr_set ?_ ?_ _ | (simp; done) | omega | (simp; omega))), by (repeat' (first | with_reducible exact Below.refl _ _ | with_reducible assumption | with_reducible refine gr_alloc ?_ _ | with_reducible refine gr_drew ?_ | with_reducible refine gr_drewN ?_ _ | with_reducible refine gr_trans ?_ (by assumption) | with_reducible refine gr_set ?_ ?_ _ | (simp; done) | omega | (simp; omega)))⟩
  case rest =>
    obtain ⟨U, V⟩ := hcut
    go_step
    exact tseg73_any w a0 len0 cap0 z0 HR hlen pv hg _ U j1 (j1 + 1) a b c d u v x n1 K1 (hid (P3.out.next V)) HT _ _ _ _ _ _ _ _ _ _ _ _ _ _ _ _ _ _ _ _ _ _ _ _ _ _ _ _ _ _ _ _ _ _ _ _ _ _ _ _ _ _ _ _ _ _ _ _ _ _ _ _ _ _ _ _ _ _ _ _ _ _ _ _ _ _ _ _ _ _ _ _ _ _ _ _ _ _ _ _ _ _ _ _ _ _ _ _ _ _ _ _ _ _ _ _ _ _ _ _ _ _ _ _ _ _ _ _ _ _ _ _ _ _ _ _ _ _ _ _ _ _ _ _ _ _ _ _ _ _ _ _ _ _ _ _ _ _ _ _ _ _ _ _ _ _ _ _ _ _ _ _ _ _ _ _ _ _ _ _ _ _ _ _ _ _ _ _ _ _ _ _ _ _ _ _ _ _ _ _ _ _ _ _ _ _ _ _ _ _ _ _ _ _ _ _ _ _ _ _ _ _ _ _ _ _ _ _ _ _ _ _ _ _ _ _ _ _ _ _ _ _ _ _ _ _ _ _ _ _ _ _ _ _ _ _ _ _ _ _ _ _ _ _ _ _ _ _ _ _ _ _ _ _ _ _ _ _ _ _ _ _ _ _ _ _ _ _ _ _ _ _ _ _ _ _ _ _ _ _ _ _ _ _ _ _ _ _ _ _ _ _ _ _ _ _ _ _ _ _ 

theorem FnRingTables_walk (w : World) (a0 : Option Addr) (len0 cap0 : Nat) (z0 : List Int) (hR : IsRow .u8 w a0 len0 cap0 z0) (pv : Value) (hg : SenU w pv) :
    Calls Tryd.prog 3 #[.slice a0 len0 cap0] w fun e w' => e = .returned (.bool true) ∧ Below w.heap.size w w' := by
  by_cases hb : 4096 < (len0 : Int)
  · exact FnRingTables_big w a0 len0 cap0 hb
  · exact FnRingTables_low w a0 len0 cap0 z0 (hid hR) (by omega) (hid (decide_eq_false hb)) pv (hid hg)

set_option maxRecDepth 100000 in
set_option maxHeartbeats 1000000 in
theorem FnRingTables_lifted (os : Os) (started : os.Started) (H : Type) (enc : TypeId × Value → H) :
    ReturnsInHanded {} Tryd.checked os 3 .any (fun w args => (Rows.fnRingTablesSpec.pre enc Tryd.prog Tryd.f3 Rows.fnRingTablesRow.domain false w args ∧ laidMetH Tryd.prog Rows.fnRingTablesRow.laid w) ∧ sizedMet enc Tryd.prog Tryd.f3 (OpenSpec.ofChange Rows.fnRingTablesSpec) false w args)
      (Rows.fnRingTablesSpec.post enc Tryd.prog Tryd.f3 false true false false) := by
  refine returnsInHanded_of_change_and (C := Tryd.checked) (X := fun w _ => laidMetH Tryd.prog Rows.fnRingTablesRow.laid w) (fun _ _ _ hh h => h.of_heap hh) own started (by kernel_rfl) Tryd.func3
    (ChangeSpec.witness_shaped (enc := enc) (C := Tryd.checked) (os := os) (X := fun w _ => laidMetH Tryd.prog Rows.fnRingTablesRow.laid w) false (World.doorLaid Tryd.prog 400 os) #[.slice none 0 0] 8 rfl (World.shaped_of_RefB (by kernel_rfl) (by kernel_rfl)) (by kernel_rfl) (by kernel_rfl) (by kernel_rfl) (nu_door os _)) ?_
  intro W base args ds gs before hval0 hW _ _ hL _
  have hval : ∀ (j : Nat) t v, Tryd.f3.params[j]? = some t → args[j]? = some v → Value.okWide Tryd.prog W .any base t v := hval0
  have hW' := hW
  obtain ⟨p, q, hA0, hV, rfl, hfz, hnd⟩ := hW
  have hA : DataW.TrodAll enc Tryd.prog W 0 (fun _ => true) true Tryd.f3.params.toList args.toList ds p := hA0
  rw [Tryd.params3] at hA hval
  obtain ⟨v0, vs0, d0, ds0, p0, q0, hargs, rfl, rfl, h0, r0⟩ := trodAll_cons hA
  obtain ⟨rfl, rfl, rfl⟩ := trodAll_nil r0
  obtain rfl : args = #[v0] := by cases args; simp_all
  obtain ⟨x0, hv0, hs0⟩ := nu_laid hL
  obtain ⟨rfl, rfl⟩ := DataW.TrodVars.unique hV (vars_read1 enc nuG nuT Tryd.underlying69 hv0 trivial _)
  have k0 := h0
  have lt0 : ∀ x ∈ p0, x.block < W.heap.size := by obtain ⟨m, hm⟩ := k0; exact DataW.trod_lt m _ _ _ hm
  obtain ⟨a0, len0, cap0, rfl⟩ := okWide_slice Tryd.underlying22 (hval 0 22 v0 rfl rfl)
  obtain ⟨z0, w0⟩ := open_row (k := .u8) Tryd.underlying22 Tryd.underlying5 (by kernel_rfl) h0
  clear hA0 hval0
  refine (FnRingTables_walk W a0 len0 cap0 z0 w0 x0 hs0).mono fun e W' ⟨he, bel⟩ => ?_
  subst he
  exact ⟨_, rfl, _, _, _, [], _, _, hW', trodAll_mk1 (shut_bool Tryd.underlying4 _), (trodAll_cons_mk (Below.trod laidOut (by kernel_rfl) (of_decide_eq_true (by kernel_rfl)) k0 bel lt0) trodAll_mk0), vars_read1 enc nuG nuT Tryd.underlying69 (var_below hv0 bel) trivial _, bel.frame _, fun h => by cases h⟩

set_option maxRecDepth 100000 in
set_option maxHeartbeats 1000000 in
theorem FnRingTables_closed : joinedFacts Tryd.prog 3 Tryd.f3 Rows.fnRingTablesSpec Rows.fnRingTablesRow = true := by
  unfold joinedFacts
  exact clo_and (clo_and (clo_and (clo_and (clo_and (clo_and (clo_and (clo_and (clo_and (clo_and (clo_and (clo_and (clo_and (clo_and (clo_and (clo_and (clo_and (clo_and (clo_and (clo_and (clo_and (clo_and (clo_and (clo_and (clo_and (clo_and (clo_and (clo_and (clo_and (clo_and (clo_and (by kernel_rfl) laidOut) (by kernel_rfl)) (by kernel_rfl)) (by kernel_rfl)) (by kernel_rfl)) (by kernel_rfl)) (by kernel_rfl)) (by kernel_rfl)) (by kernel_rfl)) (by kernel_rfl)) (by kernel_rfl)) (by kernel_rfl)) (by kernel_rfl)) (by kernel_rfl)) (by kernel_rfl)) (by kernel_rfl)) (by kernel_rfl)) (by kernel_rfl)) (by kernel_rfl)) (by kernel_rfl)) (by kernel_rfl)) (by kernel_rfl)) (by kernel_rfl)) (by kernel_rfl)) clo_enter) clo_lifts) clo_make) (by kernel_rfl)) (by kernel_rfl)) (by kernel_rfl)) (by kernel_rfl)

/-- The row of the statement. -/
theorem FnRingTables_holds : Rows.FnRingTablesSaid :=
  OpenClaim.holds_of_wide 3 Tryd.f3 rfl rfl rfl rfl rfl rfl rfl ⟨rfl, rfl, rfl, rfl, rfl⟩ rfl rfl rfl rfl rfl (by kernel_rfl) Tryd.func3 FnRingTables_closed
    (of_decide_eq_true (by kernel_rfl)) (by unfold Func.isWrapper; first | (rw [if_pos (by decide +kernel)]; kernel_rfl) | (rw [if_neg (by decide +kernel)]; exact ⟨rfl, rfl⟩))
    (fun os started H enc _ => FnRingTables_lifted os started H enc)

/-- THE STATEMENT: the row, its listed variable tied to the program's text. -/
theorem FnRingTables_card : Rows.FnRingTablesCardSaid :=
  Claim7.holds_tied_plain_at .later [] [.sentinel] true (true, "6c26d8e01380eb7f49b15f41cbcd25fecafc0afc05e772a876ec755d07859c05") true
    FnRingTables_holds (fun _ h => by cases h) (by kernel_rfl) (fun _ h => by cases h) fnRingTables_row_tie rfl ⟨rfl, rfl⟩ (by kernel_rfl) rfl
    (fun f fn hf hfn => by
      obtain rfl : f = 3 := Option.some.inj ((show Tryd.prog.funcNamed "loop.example/g01342/laws.FnRingTables" = some 3 by kernel_rfl).symm.trans hf) |>.symm
      obtain rfl : fn = Tryd.f3 := (Option.some.inj (Tryd.func3.symm.trans hfn)).symm
      exact ⟨by kernel_rfl, fun j t ht => by
        rw [Tryd.params3] at ht
        have hm : t ∈ [22] := by simpa using Array.mem_of_getElem? ht
        have hall : ([22].all fun u => !Tryd.prog.wantsStandIn u) = true := by kernel_rfl
        exact (show Tryd.prog.wantsStandIn t = false by simpa using List.all_eq_true.1 hall t hm)⟩)
    (by kernel_rfl)
#print axioms FnRingTables_card

end Go.Proofs.YtdogkkmdccieiaaDoor
