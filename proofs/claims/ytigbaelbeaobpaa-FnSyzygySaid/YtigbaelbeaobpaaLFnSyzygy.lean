/- FnSyzygy: the syzygy holds, Hessians of changed forms are changed Hessians, pairings and resultants change the sign with the order, at every code. No condition. -/
import Derived.Test.YtigbaelbeaobpaaSq4
namespace Go.Proofs.Ytigbaelbeaobpaa
open Go.ChangeShapes Go.WideShapes Go.ChangeAt Go.RowKit

set_option maxHeartbeats 400000 in
theorem big_any (a : Option Addr) (len cap : Nat) (w : World) :
    Calls Try.prog 4 #[.slice a len cap] w fun e w' => e = .returned (.bool (decide (4096 < (len : Int)))) ∧ w = w' := by
  go_enter Try.func4, Try.ntmps4
  go_wp2
  go_ret
  exact ⟨rfl, rfl⟩

set_option maxRecDepth 1000000 in
set_option maxHeartbeats 8000000 in
theorem FnSyzygy_walk (w : World) (a0 : Option Addr) (len0 cap0 : Nat) (z0 : List Int) (hR : IsRow .u8 w a0 len0 cap0 z0) :
    Calls Try.prog 3 #[.slice a0 len0 cap0] w fun e w' => e = .returned (.bool true) ∧ Below w.heap.size w w' := by
  have HR := hid hR
  clear hR
  by_cases hb : 4096 < (len0 : Int)
  · go_enter Try.func3, Try.ntmps3
    go_wp2_with (go_at_call 4; refine (big_any _ _ _ _).mono ?_; rintro e w1 ⟨rfl, rfl⟩)
    go_ret
    exact ⟨rfl, Below.refl _ _⟩
  have hlen : len0 ≤ 9223372036854775807 := by omega
  have hb' : decide (4096 < (len0 : Int)) = false := decide_eq_false hb
  have HB := hid hb'
  clear hb
  go_enter Try.func3, Try.ntmps3
  go_wp2_with (go_at_call 4; refine (big_any _ _ _ _).mono ?_; rintro e w1 ⟨rfl, rfl⟩)
  refine (drawSy_any a0 len0 cap0 z0 _ HR.out hlen).mono ?_
  rintro e w1 ⟨a, b, c, d, x, y, rfl, U1⟩
  have M2 := Arr.new w1 a b c d 25
  have U2 := gr_alloc U1 (.cells #[.int .i64 a, .int .i64 b, .int .i64 c, .int .i64 d] 25)
  have c1 := fun W => iSyzygyAt_any a b c d x y W
  have c2 := fun W => sSyzygyAt_any a b c d x y W
  have c3 := fun W => iCovAt_any a b c d x y W
  have q1 : szc a b c d x y = 0 → (if szc a b c d x y = 0 then 3 else 0) = 3 ∧ plcn 100 a b c d x y = 0 ∧ wrap64 (z2 (cv a b c d x y) + z3 (dsc0 a b c d) (vl a b c d x y)) = z1 (hv a b c d x y) ∧ wrap64 (if0 (plcn 100 a b c d x y) (vl (cc1 a b c d) (cc2 a b c d) (cc3 a b c d) (cc4 a b c d) x y) * if0 (plcn 100 a b c d x y) (vl (cc1 a b c d) (cc2 a b c d) (cc3 a b c d) (cc4 a b c d) x y)) = z2 (cv a b c d x y) := fun h => by
    obtain ⟨hF, hp⟩ := szc_0 h
    refine ⟨if_pos h, hp, syz_w x y hF, ?_⟩
    rw [hp]; simp only [if0, if_true]; rfl
  unfold LstOut at c1 c2
  generalize if0 (plcn 100 a b c d x y) (vl (cc1 a b c d) (cc2 a b c d) (cc3 a b c d) (cc4 a b c d) x y) = g at c3 q1
  generalize plcn 100 a b c d x y = k3 at c3 q1
  generalize (if szc a b c d x y = 0 then 3 else 0) = n at c1 c2 q1
  generalize szc a b c d x y = k at c1 c2 q1
  generalize z1 (hv a b c d x y) = l0 at c1 c2 q1
  generalize z2 (cv a b c d x y) = l1 at c1 c2 q1
  generalize z3 (dsc0 a b c d) (vl a b c d x y) = l2 at c1 c2 q1
  have C1 := hid c1; have C2 := hid c2; have C3 := hid c3; have Q1 := hid q1
  clear c1 c2 c3 q1 U1
  obtain ⟨_, m0, m1, m2, m3, _⟩ := id M2
  go_wp2_with fail
  refine (C1.out _).mono ?_
  rintro e w3 ⟨va, rfl, hA, hb3⟩
  clear m0 m1 m2 m3
  have M3 := M2.next hb3
  have U3 := gr_trans U2 hb3
  clear M2 U2 hb3 C1
  obtain ⟨_, m0, m1, m2, m3, _⟩ := id M3
  go_wp2_with fail
  refine (C2.out _).mono ?_
  rintro e w4 ⟨vb, rfl, hB, hb4⟩
  clear m0 m1 m2 m3
  have M4 := M3.next hb4
  have U4 := gr_trans U3 hb4
  have A4 := hid (hA.next hb4)
  have B4 := hid hB.rd
  clear M3 U3 hb4 C2 hA hB
  go_wp2_with fail
  refine (likeI_any _ _ _ _ _ A4.out.rd B4.out).mono ?_
  rintro e w5 ⟨rfl, hb5⟩
  have M5 := M4.next hb5
  have U5 := gr_trans U4 hb5
  have A5 := hid (A4.out.next hb5)
  clear M4 U4 A4 B4 hb5
  go_upto_if 86 with (fail)
  go_cut [] (fun wx => Below w.heap.size w wx)
  case first =>
    by_cases hk : k = 0
    · have hkt : (k == 0) = true := by simpa using hk
      obtain ⟨rfl, rfl, hq1, hq2⟩ := Q1.out hk
      have HQ1 := hid hq1; have HQ2 := hid hq2
      subst hk
      clear Q1 hq1 hq2
      obtain ⟨h0, h0'⟩ | ⟨bA, cA', rfl, _, hlA, hcA1, hcA2, hcell⟩ := A5.out
      · omega
      have HC := hid hcell
      clear hcell A5
      obtain ⟨_, m0, m1, m2, m3, _⟩ := id M5
      go_wp2_with fail
      refine (C3.out _).mono ?_
      rintro e w6 ⟨rfl, hb6⟩
      have U6 := gr_trans U5 hb6
      have a0' : w6.cell? ⟨bA, 0, none⟩ = some (.int .i64 l0) := (hb6.cell (p := ⟨bA, 0, none⟩) hlA).trans (HC.out 0 (by omega)).1
      have a1' : w6.cell? ⟨bA, 1, none⟩ = some (.int .i64 l1) := (hb6.cell (p := ⟨bA, 1, none⟩) hlA).trans (HC.out 1 (by omega)).1
      have a2' : w6.cell? ⟨bA, 2, none⟩ = some (.int .i64 l2) := (hb6.cell (p := ⟨bA, 2, none⟩) hlA).trans (HC.out 2 (by omega)).1
      clear m0 m1 m2 m3 M5 U5 hb6 C3 HC
      have e1 : IntKind.i64.wrap (l1 + l2) = l0 := by rw [IntWalk.i64_left]; exact HQ1.out
      have e2 : IntKind.i64.wrap (g * g) = l1 := by rw [IntWalk.i64_left]; exact HQ2.out
      have e3 := HQ1.out
      have e4 := HQ2.out
      go_upto_region 10 with fail
      go_quiet (fail)
      go_wp2_with fail
      go_meet
      exact gr_drewN U6 _
    · have hkf : (k == 0) = false := by simpa using hk
      clear hk
      go_wp2_with fail
      go_meet
      exact U5
  case rest =>
    have h1 := hcut
    go_step
    exact sseg86_any w a0 len0 cap0 z0 HR hlen _ h1 _ _ _ _ _ _ _ _ _ _ _ _ _ _ _ _ _ _ _ _ _ _ _ _ _ _ _ _ _ _ _ _ _ _ _ _ _ _ _ _ _ _ _ _ _ _ _ _ _ _ _ _ _ _ _ _ _ _ _ _ _ _ _ _ _ _ _ _ _ _ _ _ _ _ _ _ _ _ _ _ _ _ _ _ _ _ _ _ _ _ _ _ _ _ _ _ _ _ _ _ _ _ _ _ _ _ _ _ _ _ _ _ _ _ _ _ _ _ _ _ _ _ _ _ _ _ _ _ _ _ _ _ _ _ _ _ _ _ _ _ _ _ _ _ _ _ _ _ _ _ _ _ _ _ _ _ _ _ _ _ _ _ _ _ _ _ _ _ _ _ _ _ _ _ _ _ _ _ _ _ _ _ _ _ _ _ _ _ _ _ _ _ _ _ _ _ _ _ _ _ _ _ _ _ _ _ _ _ _ _ _ _ _ _ _ _ _ _ _ _ _ _ _ _ _ _ _ _ _ _ _ _ _ _ _ _ _ _ _ _ _ _ _ _ _ _ _ _ _ _ _ _ _ _ _ _ _ _ _ _ _ _ _ _ _ _ _ _ _ _ _ _ _ _ _ _ _ _ _ _ _ _ _ _ _ _ _ _ _ _ _ _ _ _ _ _ _ _ _ _ _ _ _ _ _ _ _ _ _ _ _ _ _ _ _ _ _ _ _ _

set_option maxRecDepth 100000 in
set_option maxHeartbeats 1000000 in
theorem FnSyzygy_lifted (os : Os) (started : os.Started) (H : Type) (enc : TypeId × Value → H) :
    ReturnsInHanded {} Try.checked os 3 .any (Rows.fnSyzygySpec.pre6 enc Try.prog Try.f3 Rows.fnSyzygyRow.domain false) (Rows.fnSyzygySpec.post enc Try.prog Try.f3 false true false false) := by
  refine returnsInHanded_of_change (C := Try.checked) own started (by kernel_rfl) Try.func3
    (ChangeSpec.witness6 (enc := enc) (C := Try.checked) false ⟨#[], #[.slice none 0 0], []⟩ 8 (by kernel_rfl) (by kernel_rfl) (by kernel_rfl) (by kernel_rfl)) ?_
  intro W base args ds gs before hval0 hW hcnd _
  have hval : ∀ (j : Nat) t v, Try.f3.params[j]? = some t → args[j]? = some v → Value.okWide Try.prog W .any base t v := hval0
  have hW' := hW
  obtain ⟨p, q, hA0, hV, rfl, hfz, hnd⟩ := hW
  have hA : DataW.TrodAll enc Try.prog W 0 (fun _ => true) true Try.f3.params.toList args.toList ds p := hA0
  rw [Try.params3] at hA hval
  obtain ⟨v0, vs0, d0, ds0, p0, q0, hargs, rfl, rfl, h0, r0⟩ := trodAll_cons hA
  obtain ⟨rfl, rfl, rfl⟩ := trodAll_nil r0
  obtain rfl : args = #[v0] := by cases args; simp_all
  obtain ⟨rfl, rfl⟩ := trodVars_none hV
  have k0 := h0
  have lt0 : ∀ x ∈ p0, x.block < W.heap.size := by obtain ⟨m, hm⟩ := k0; exact DataW.trod_lt m _ _ _ hm
  obtain ⟨a0, len0, cap0, rfl⟩ := okWide_slice Try.underlying22 (hval 0 22 v0 rfl rfl)
  obtain ⟨z0, w0⟩ := open_row (k := .u8) Try.underlying22 Try.underlying5 (by kernel_rfl) h0
  clear hA0 hval0
  refine (FnSyzygy_walk W a0 len0 cap0 z0 w0).mono fun e W' ⟨he, bel⟩ => ?_
  subst he
  exact ⟨_, rfl, _, _, _, [], _, [], hW', trodAll_mk1 (shut_bool Try.underlying4 _), (trodAll_cons_mk (Below.trod laidOut (by kernel_rfl) (of_decide_eq_true (by kernel_rfl)) k0 bel lt0) trodAll_mk0), rfl, bel.frame _, fun h => by cases h⟩

/-- THE STATEMENT. -/
theorem FnSyzygy_holds : Rows.FnSyzygySaid :=
  OpenClaim.holds_of_wide 3 Try.f3 rfl rfl rfl rfl rfl rfl rfl ⟨rfl, rfl, rfl, rfl, rfl⟩ rfl rfl rfl rfl rfl (by kernel_rfl) Try.func3 (by kernel_rfl)
    (of_decide_eq_true (by kernel_rfl)) (by unfold Func.isWrapper; first | (rw [if_pos (by decide +kernel)]; kernel_rfl) | (rw [if_neg (by decide +kernel)]; exact ⟨rfl, rfl⟩))
    (fun os started H enc _ => FnSyzygy_lifted os started H enc)
#print axioms FnSyzygy_holds

end Go.Proofs.Ytigbaelbeaobpaa
