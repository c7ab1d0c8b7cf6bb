/- FnThirdRoots: third roots have the order 1 or 3, root forms of triple forms are third roots, at every code. No condition. -/
import Derived.Test.YtehbkmohfipmgaaBtClo
import Derived.Test.YtehbkmohfipmgaaBtQt4
import Derived.Deep.DeepCutAuto
namespace Go.Proofs.Ytehbkmohfipmgaa
open Go.ChangeShapes Go.WideShapes Go.ChangeAt Go.RowKit

set_option maxHeartbeats 400000 in
theorem big_any (a : Option Addr) (len cap : Nat) (w : World) :
    Calls Try.prog 5 #[.slice a len cap] w fun e w' => e = .returned (.bool (decide (4096 < (len : Int)))) ∧ w = w' := by
  go_enter Try.func5, Try.ntmps5
  go_wp2
  go_ret
  exact ⟨rfl, rfl⟩

set_option maxRecDepth 1000000 in
set_option maxHeartbeats 8000000 in
theorem FnThirdRoots_walk (w : World) (a0 : Option Addr) (len0 cap0 : Nat) (z0 : List Int) (hR : IsRow .u8 w a0 len0 cap0 z0) :
    Calls Try.prog 4 #[.slice a0 len0 cap0] w fun e w' => e = .returned (.bool true) ∧ Below w.heap.size w w' := by
  have heq := eqQ_run
  have HR := hid hR
  clear hR
  by_cases hb : 4096 < (len0 : Int)
  · go_enter Try.func4, Try.ntmps4
    go_wp2_with (go_at_call 5; refine (big_any _ _ _ _).mono ?_; rintro e w1 ⟨rfl, rfl⟩)
    go_ret
    exact ⟨rfl, Below.refl _ _⟩
  have hlen : len0 ≤ 9223372036854775807 := by omega
  have hb' : decide (4096 < (len0 : Int)) = false := decide_eq_false hb
  have HB := hid hb'
  clear hb
  go_enter Try.func4, Try.ntmps4
  go_wp2_with (go_at_call 5; refine (big_any _ _ _ _).mono ?_; rintro e w1 ⟨rfl, rfl⟩)
  refine (drawTh_any a0 len0 cap0 z0 _ HR.out hlen).mono ?_
  rintro e w1 ⟨dd, rfl, U1⟩
  have q3 := trQ3 dd
  have c1 := fun W => iThird_any dd W
  have c2 := fun W => sThird_any dd W
  unfold QlsOut at c1 c2
  generalize (if (if dcl dd then (0 : Int) else 2) = 0 then (thr dd).length else 0) = L at c1 c2 q3
  generalize (fun i => ((thr dd).flatMap qi3).getD i 0) = G at c1 c2 q3
  generalize (if dcl dd then (0 : Int) else 2) = k1 at c1 c2 q3
  have C1 := hid c1; have C2 := hid c2; have Q3 := hid q3
  clear c1 c2 q3
  go_wp2_with fail
  refine (C1.out _).mono ?_
  rintro e w2 ⟨v4, rfl, hv, hb2⟩
  have V2 := hid hv.rd
  have U2 := gr_trans U1 hb2
  clear hv hb2 U1 C1
  go_wp2_with fail
  refine (C2.out _).mono ?_
  rintro e w3 ⟨v6, rfl, hv, hb3⟩
  have V3 := hid (V2.out.next9 hb3); have V3' := hid hv.rd
  have U3 := gr_trans U2 hb3
  clear hv hb3 U2 V2 C2
  go_wp2_with fail
  refine (qds9_any _ _ _ _ _ V3.out V3'.out).mono ?_
  rintro e w4 ⟨rfl, hb4⟩
  have V4 := hid (V3.out.next9 hb4)
  have U4 := gr_trans U3 hb4
  have R4 := hid (row8_nx HR.out U4)
  clear hb4 U3 V3 V3'
  go_wp2_with fail
  refine (drawRf_any a0 len0 cap0 z0 _ R4.out hlen).mono ?_
  rintro e w5 ⟨a, b, c, d, rfl, hb5⟩
  have F6 := Arr.new w5 a b c d 42
  have hb6 := gr_alloc hb5 (.cells #[.int .i64 a, .int .i64 b, .int .i64 c, .int .i64 d] 42)
  have V6 := hid (V4.out.next9 hb6)
  have U6 := gr_trans U4 hb6
  have q2 := trQ2 a b c d
  have c1 := fun W => iRootForm_any a b c d W
  have c2 := fun W => sRootForm_any a b c d W
  have c3 := fun W => iIsTriple_any a b c d W
  have c4 := fun W => sIsTriple_any a b c d W
  generalize rfv a b c d (rt1 a (b.tdiv 3) (c.tdiv 3)) = r0 at c1 c2 q2
  generalize rfv a b c d (rt2 a (b.tdiv 3) (c.tdiv 3) d) = r1 at c1 c2 q2
  generalize rfv a b c d (rt3 (b.tdiv 3) (c.tdiv 3) d) = r2 at c1 c2 q2
  generalize rfc a b c d = k2 at c1 c2 q2
  generalize cf10 a b c d = k3 at c3 c4 q2
  generalize tri a b c d = tr at c3 c4 q2
  have C1 := hid c1; have C2 := hid c2; have C3 := hid c3; have C4 := hid c4; have Q2 := hid q2
  clear c1 c2 c3 c4 q2 hb5 hb6 V4 U4 R4
  go_upto_region 9 with fail
  obtain ⟨jf, hjf⟩ : ∃ j, j = w5.heap.size := ⟨_, rfl⟩
  rw [← hjf] at F6
  rw [← hjf]
  generalize w5.alloc (.cells #[.int .i64 a, .int .i64 b, .int .i64 c, .int .i64 d] 42) = W6 at F6 V6 U6 ⊢
  clear hjf
  obtain ⟨_, x0, x1, x2, x3, _⟩ := id F6
  go_wp2_with fail
  refine (C1.out _).mono ?_
  rintro e w7 ⟨rfl, hb7⟩
  have R8 := Arr3.new w7 r0 r1 r2 25
  have hb8 := gr_alloc hb7 (.cells #[.int .i64 r0, .int .i64 r1, .int .i64 r2] 25)
  have F8 := F6.next hb8; have V8 := hid (V6.out.next9 hb8); have U8 := gr_trans U6 hb8
  clear x0 x1 x2 x3 F6 V6 U6 hb7 hb8 C1
  go_upto_region 10 with fail
  obtain ⟨jr, hjr⟩ : ∃ j, j = w7.heap.size := ⟨_, rfl⟩
  rw [← hjr] at R8
  rw [← hjr]
  generalize w7.alloc (.cells #[.int .i64 r0, .int .i64 r1, .int .i64 r2] 25) = W8 at R8 F8 V8 U8 ⊢
  clear hjr
  obtain ⟨_, x0, x1, x2, x3, _⟩ := id F8
  go_wp2_with fail
  refine (C2.out _).mono ?_
  rintro e w9 ⟨rfl, hb9⟩
  have Y10 := Arr3.new w9 r0 r1 r2 25
  have hb10 := gr_alloc hb9 (.cells #[.int .i64 r0, .int .i64 r1, .int .i64 r2] 25)
  have F10 := F8.next hb10; have R10 := R8.next hb10; have V10 := hid (V8.out.next9 hb10); have U10 := gr_trans U8 hb10
  clear x0 x1 x2 x3 F8 R8 V8 U8 hb9 hb10 C2
  go_upto_region 11 with fail
  generalize w9.heap.size = j9 at *
  generalize w9.alloc (.cells #[.int .i64 r0, .int .i64 r1, .int .i64 r2] 25) = W10 at Y10 R10 F10 V10 U10 ⊢
  have hee := eqQ_3 r0 r1 r2
  obtain ⟨_, x0, x1, x2, x3, _⟩ := id F10
  obtain ⟨_, y0, y1, y2, _⟩ := id R10
  obtain ⟨_, t0, t1, t2, _⟩ := id Y10
  go_wp2_with fail
  refine (C3.out _).mono ?_
  rintro e w11 ⟨rfl, hb11⟩
  have F11 := F10.next hb11; have R11 := hid (R10.next hb11); have V11 := hid (V10.out.next9 hb11); have U11 := gr_trans U10 hb11
  clear x0 x1 x2 x3 y0 y1 y2 t0 t1 t2 F10 R10 Y10 V10 U10 hb11 C3
  obtain ⟨_, x0, x1, x2, x3, _⟩ := id F11
  go_wp2_with fail
  refine (C4.out _).mono ?_
  rintro e w12 ⟨rfl, hb12⟩
  have F12 := hid (F11.next hb12); have R12 := hid (R11.out.next hb12); have V12 := hid (V11.out.next9 hb12); have U12 := gr_trans U11 hb12
  have hnn : (!tr == tr) = false := by cases tr <;> rfl
  have R4 := hid (row8_nx HR.out U12)
  clear x0 x1 x2 x3 F11 R11 V11 U11 hb12 C4
  go_wp2_with fail
  refine (drawTw_any a0 len0 cap0 z0 _ R4.out hlen).mono ?_
  rintro e w13 ⟨q0, q1, q2, n, rfl, hb13⟩
  have Q14 := Arr3.new w13 q0 q1 q2 25
  have hb14 := gr_alloc hb13 (.cells #[.int .i64 q0, .int .i64 q1, .int .i64 q2] 25)
  have F14 := hid (F12.out.next hb14); have R14 := hid (R12.out.next hb14); have V14 := hid (V12.out.next9 hb14); have U14 := gr_trans U12 hb14
  have q4 := trQ4 q0 q1 q2 n
  have c1 := fun W => iTriplesWith_any q0 q1 q2 n W
  have c2 := fun W => sTriplesWith_any q0 q1 q2 n W
  unfold FlsOut at c1 c2
  generalize (if twc q0 q1 q2 n = 0 then (tls q0 q1 q2 n).length else 0) = M at c1 c2 q4
  generalize (fun i => ((tls q0 q1 q2 n).flatMap gi4).getD i 0) = H at c1 c2 q4
  generalize twc q0 q1 q2 n = k4 at c1 c2 q4
  have C1 := hid c1; have C2 := hid c2; have Q4 := hid q4
  clear c1 c2 q4 F12 R12 V12 U12 hb13 hb14 R4 hnn hee
  go_upto_region 18 with fail
  obtain ⟨jq, hjq⟩ : ∃ j, j = w13.heap.size := ⟨_, rfl⟩
  rw [← hjq] at Q14
  rw [← hjq]
  generalize w13.alloc (.cells #[.int .i64 q0, .int .i64 q1, .int .i64 q2] 25) = W14 at Q14 F14 R14 V14 U14 ⊢
  clear hjq
  obtain ⟨_, x0, x1, x2, _⟩ := id Q14
  go_wp2_with fail
  refine (C1.out _).mono ?_
  rintro e w15 ⟨v19, rfl, hv, hb15⟩
  have Q15 := Q14.next hb15
  have F15 := hid (F14.out.next hb15); have R15 := hid (R14.out.next hb15); have V15 := hid (V14.out.next9 hb15); have U15 := gr_trans U14 hb15
  have X15 := hid hv.rd
  clear x0 x1 x2 Q14 F14 R14 V14 U14 hv hb15 C1
  obtain ⟨_, x0, x1, x2, _⟩ := id Q15
  go_wp2_with fail
  refine (C2.out _).mono ?_
  rintro e w16 ⟨v21, rfl, hv, hb16⟩
  have Q16 := hid (Q15.next hb16)
  have F16 := hid (F15.out.next hb16); have R16 := hid (R15.out.next hb16); have V16 := hid (V15.out.next9 hb16); have U16 := gr_trans U15 hb16
  have X16 := hid (X15.out.next9 hb16); have X16' := hid hv.rd
  clear x0 x1 x2 Q15 F15 R15 V15 U15 X15 hv hb16 C2
  go_wp2_with fail
  refine (frs9_any _ _ _ _ _ X16.out X16'.out).mono ?_
  rintro e w17 ⟨rfl, hb17⟩
  have U17 := gr_trans U16 hb17
  have E17 := hid (TrB.mk (F16.out.next hb17) (R16.out.next hb17) (Q16.out.next hb17) (V16.out.next9 hb17) (X16.out.next9 hb17))
  clear Q16 F16 R16 V16 U16 X16 X16' hb17
  go_upto_if 122 with (fail)
  go_cut [] (fun wx => w17 = wx)
  case first =>
    go_wp2_with fail
    go_meet
    rfl
  case rest =>
    subst hcut
    go_step
    exact tseg122_any w a0 len0 cap0 _ U17 jf jr jq a b c d r0 r1 r2 q0 q1 q2 v4 L G v19 M H k1 k2 k3 k4 n tr E17 Q3 Q2 Q4 _ _ _ _ _ _ _ _ _ _ _ _ _ _ _ _ _ _ _ _ _ _ _ _ _ _ _ _ _ _ _ _ _ _ _ _ _ _ _ _ _ _ _ _ _ _ _ _ _ _ _ _ _ _ _ _ _ _ _ _ _ _ _ _ _ _ _ _ _ _ _ _ _ _ _ _ _ _ _ _ _ _ _ _ _ _ _ _ _ _ _ _ _ _ _ _ _ _ _ _ _ _ _ _ _ _ _ _ _ _ _ _ _ _ _ _ _ _ _ _ _ _ _ _ _ _ _ _ _ _ _ _ _ _ _ _ _ _ _ _ _ _ _ _ _ _ _ _ _ _ _ _ _ _ _ _ _ _ _ _ _ _ _ _ _ _ _ _ _ _ _ _ _ _ _ _ _ _ _ _ _ _ _ _ _ _ _ _ _ _ _ _ _ _ _ _ _ _ _ _ _ _ _ _ _ _ _ _ _ _ _ _ _ _ _ _ _ _ _ _ _ _ _ _ _ _ _

set_option maxRecDepth 100000 in
set_option maxHeartbeats 1000000 in
theorem FnThirdRoots_lifted (os : Os) (started : os.Started) (H : Type) (enc : TypeId × Value → H) :
    ReturnsInHanded {} Try.checked os 4 .any (Rows.fnThirdRootsSpec.pre6 enc Try.prog Try.f4 Rows.fnThirdRootsRow.domain false) (Rows.fnThirdRootsSpec.post enc Try.prog Try.f4 false true false false) := by
  refine returnsInHanded_of_change (C := Try.checked) own started (by kernel_rfl) Try.func4
    (ChangeSpec.witness6 (enc := enc) (C := Try.checked) false ⟨#[], #[.slice none 0 0], []⟩ 8 (by kernel_rfl) (by kernel_rfl) (by kernel_rfl) (by kernel_rfl)) ?_
  intro W base args ds gs before hval0 hW hcnd _
  have hval : ∀ (j : Nat) t v, Try.f4.params[j]? = some t → args[j]? = some v → Value.okWide Try.prog W .any base t v := hval0
  have hW' := hW
  obtain ⟨p, q, hA0, hV, rfl, hfz, hnd⟩ := hW
  have hA : DataW.TrodAll enc Try.prog W 0 (fun _ => true) true Try.f4.params.toList args.toList ds p := hA0
  rw [Try.params4] at hA hval
  obtain ⟨v0, vs0, d0, ds0, p0, q0, hargs, rfl, rfl, h0, r0⟩ := trodAll_cons hA
  obtain ⟨rfl, rfl, rfl⟩ := trodAll_nil r0
  obtain rfl : args = #[v0] := by cases args; simp_all
  obtain ⟨rfl, rfl⟩ := trodVars_none hV
  have k0 := h0
  have lt0 : ∀ x ∈ p0, x.block < W.heap.size := by obtain ⟨m, hm⟩ := k0; exact DataW.trod_lt m _ _ _ hm
  obtain ⟨a0, len0, cap0, rfl⟩ := okWide_slice Try.underlying22 (hval 0 22 v0 rfl rfl)
  obtain ⟨z0, w0⟩ := open_row (k := .u8) Try.underlying22 Try.underlying5 (by kernel_rfl) h0
  clear hA0 hval0
  refine (FnThirdRoots_walk W a0 len0 cap0 z0 w0).mono fun e W' ⟨he, bel⟩ => ?_
  subst he
  exact ⟨_, rfl, _, _, _, [], _, [], hW', trodAll_mk1 (shut_bool Try.underlying4 _), (trodAll_cons_mk (Below.trod laidOut (by kernel_rfl) (of_decide_eq_true (by kernel_rfl)) k0 bel lt0) trodAll_mk0), rfl, bel.frame _, fun h => by cases h⟩

set_option maxRecDepth 100000 in
set_option maxHeartbeats 1000000 in
theorem FnThirdRoots_closed : joinedFacts Try.prog 4 Try.f4 Rows.fnThirdRootsSpec Rows.fnThirdRootsRow = true := by
  unfold joinedFacts
  exact clo_and (clo_and (clo_and (clo_and (clo_and (clo_and (clo_and (clo_and (clo_and (clo_and (clo_and (clo_and (clo_and (clo_and (clo_and (clo_and (clo_and (clo_and (clo_and (clo_and (clo_and (clo_and (clo_and (clo_and (clo_and (clo_and (clo_and (clo_and (clo_and (clo_and (clo_and (by kernel_rfl) laidOut) (by kernel_rfl)) (by kernel_rfl)) (by kernel_rfl)) (by kernel_rfl)) (by kernel_rfl)) (by kernel_rfl)) (by kernel_rfl)) (by kernel_rfl)) (by kernel_rfl)) (by kernel_rfl)) (by kernel_rfl)) (by kernel_rfl)) (by kernel_rfl)) (by kernel_rfl)) (by kernel_rfl)) (by kernel_rfl)) (by kernel_rfl)) (by kernel_rfl)) (by kernel_rfl)) (by kernel_rfl)) (by kernel_rfl)) (by kernel_rfl)) (by kernel_rfl)) clo_enter) clo_lifts) clo_make) (by kernel_rfl)) (by kernel_rfl)) (by kernel_rfl)) (by kernel_rfl)

/-- THE STATEMENT. -/
theorem FnThirdRoots_holds : Rows.FnThirdRootsSaid :=
  OpenClaim.holds_of_wide 4 Try.f4 rfl rfl rfl rfl rfl rfl rfl ⟨rfl, rfl, rfl, rfl, rfl⟩ rfl rfl rfl rfl rfl (by kernel_rfl) Try.func4 FnThirdRoots_closed
    (of_decide_eq_true (by kernel_rfl)) (by unfold Func.isWrapper; first | (rw [if_pos (by decide +kernel)]; kernel_rfl) | (rw [if_neg (by decide +kernel)]; exact ⟨rfl, rfl⟩))
    (fun os started H enc _ => FnThirdRoots_lifted os started H enc)
#print axioms FnThirdRoots_holds

end Go.Proofs.Ytehbkmohfipmgaa
