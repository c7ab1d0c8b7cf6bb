/- FnRingProducts: norms of products are products, traces add up, matrices have traces and norms, and elements are zeros of their polynomials, at every code. No condition. -/
import Derived.Test.YtambbhldhhlfgaaClo
import Derived.Test.YtambbhldhhlfgaaRq5
namespace Go.Proofs.Ytambbhldhhlfgaa
open Go.ChangeShapes Go.WideShapes Go.ChangeAt Go.RowKit

set_option maxHeartbeats 400000 in
theorem big_any (a : Option Addr) (len cap : Nat) (w : World) :
    Calls Try.prog 5 #[.slice a len cap] w fun e w' => e = .returned (.bool (decide (4096 < (len : Int)))) ∧ w = w' := by
  go_enter Try.func5, Try.ntmps5
  go_wp2
  go_ret
  exact ⟨rfl, rfl⟩

set_option maxRecDepth 1000000 in
set_option maxHeartbeats 8000000 in
theorem FnRingProducts_big (w : World) (a0 : Option Addr) (len0 cap0 : Nat) (hb : 4096 < (len0 : Int)) :
    Calls Try.prog 3 #[.slice a0 len0 cap0] w fun e w' => e = .returned (.bool true) ∧ Below w.heap.size w w' := by
  go_enter Try.func3, Try.ntmps3
  go_wp2_with (go_at_call 5; refine (big_any _ _ _ _).mono ?_; rintro e w1 ⟨rfl, rfl⟩)
  go_ret
  exact ⟨rfl, Below.refl _ _⟩

set_option maxRecDepth 1000000 in
set_option maxHeartbeats 8000000 in
theorem FnRingProducts_low (w : World) (a0 : Option Addr) (len0 cap0 : Nat) (z0 : List Int) (HR : Hid (IsRow .u8 w a0 len0 cap0 z0)) (hlen : len0 ≤ 9223372036854775807) (HB : Hid (decide (4096 < (len0 : Int)) = false)) :
    Calls Try.prog 3 #[.slice a0 len0 cap0] w fun e w' => e = .returned (.bool true) ∧ Below w.heap.size w w' := by
  have heq := heqE
  have hb' := HB.out
  go_enter Try.func3, Try.ntmps3
  go_wp2_with (go_at_call 5; refine (big_any _ _ _ _).mono ?_; rintro e w1 ⟨rfl, rfl⟩)
  refine (drawMu_any a0 len0 cap0 z0 _ HR.out hlen).mono ?_
  rintro e w1 ⟨a, b, c, d, u, v, x, p, q, r, rfl, V1⟩
  obtain ⟨K, hK⟩ : ∃ K, K = mec (isF a b c d && isE u v x && isE p q r) (m0 (np a c) (np a d) (np b d) u v x p q r) (m1 b 0 d u v x p q r) (m2 (ng a) 0 (ng c) u v x p q r) := ⟨_, rfl⟩
  obtain ⟨P0, hP0⟩ : ∃ s, s = if0 K (m0 (np a c) (np a d) (np b d) u v x p q r) := ⟨_, rfl⟩
  obtain ⟨P1, hP1⟩ : ∃ s, s = if0 K (m1 b 0 d u v x p q r) := ⟨_, rfl⟩
  obtain ⟨P2, hP2⟩ : ∃ s, s = if0 K (m2 (ng a) 0 (ng c) u v x p q r) := ⟨_, rfl⟩
  have HQ : Hid (RpQ a b c d u v x p q r K P0 P1 P2) := hid ⟨hK, hP0, hP1, hP2⟩
  clear hK hP0 hP1 hP2
  have ha := gr_alloc (gr_alloc (gr_alloc (Below.refl w1.heap.size w1) (.cells #[.int .i64 a, .int .i64 b, .int .i64 c, .int .i64 d] 25)) (.cells #[.int .i64 u, .int .i64 v, .int .i64 x] 27)) (.cells #[.int .i64 p, .int .i64 q, .int .i64 r] 27)
  have F2 := ((Arr.new w1 a b c d 25).alloc (.cells #[.int .i64 u, .int .i64 v, .int .i64 x] 27)).alloc (.cells #[.int .i64 p, .int .i64 q, .int .i64 r] 27)
  have X2 := (Arr3.new (w1.alloc (.cells #[.int .i64 a, .int .i64 b, .int .i64 c, .int .i64 d] 25)) u v x 27).alloc (.cells #[.int .i64 p, .int .i64 q, .int .i64 r] 27)
  have Y2 := Arr3.new ((w1.alloc (.cells #[.int .i64 a, .int .i64 b, .int .i64 c, .int .i64 d] 25)).alloc (.cells #[.int .i64 u, .int .i64 v, .int .i64 x] 27)) p q r 27
  simp only [World.size_alloc] at X2 Y2
  have U2 := gr_trans V1 ha
  clear V1 ha
  go_upto_region 4 with fail
  obtain ⟨j1, hj1⟩ : ∃ j, j = w1.heap.size := ⟨_, rfl⟩
  rw [← hj1] at F2 X2 Y2
  rw [← hj1]
  generalize ((w1.alloc (.cells #[.int .i64 a, .int .i64 b, .int .i64 c, .int .i64 d] 25)).alloc (.cells #[.int .i64 u, .int .i64 v, .int .i64 x] 27)).alloc (.cells #[.int .i64 p, .int .i64 q, .int .i64 r] 27) = W2 at F2 X2 Y2 U2 ⊢
  clear hj1
  obtain ⟨_, f0, f1, f2, f3, _⟩ := id F2
  obtain ⟨_, x0, x1, x2, _⟩ := id X2
  obtain ⟨_, y0, y1, y2, _⟩ := id Y2
  go_wp2_with fail
  refine (HQ.out.mul _).mono ?_
  rintro e w3 ⟨rfl, hb3⟩
  have ha3 := gr_alloc (Below.refl w3.heap.size w3) (.cells #[.int .i64 P0, .int .i64 P1, .int .i64 P2] 27)
  have F4 := (F2.next hb3).next ha3
  have X4 := (X2.next hb3).next ha3
  have Y4 := (Y2.next hb3).next ha3
  have A4 := Arr3.new w3 P0 P1 P2 27
  have U4 := gr_trans (gr_trans U2 hb3) ha3
  clear F2 X2 Y2 U2 hb3 ha3 f0 f1 f2 f3 x0 x1 x2 y0 y1 y2
  go_upto_region 5 with fail
  obtain ⟨j3, hj3⟩ : ∃ j, j = w3.heap.size := ⟨_, rfl⟩
  rw [← hj3] at A4
  rw [← hj3]
  generalize w3.alloc (.cells #[.int .i64 P0, .int .i64 P1, .int .i64 P2] 27) = W4 at F4 X4 Y4 A4 U4 ⊢
  clear hj3
  obtain ⟨_, f0, f1, f2, f3, _⟩ := id F4
  obtain ⟨_, x0, x1, x2, _⟩ := id X4
  obtain ⟨_, y0, y1, y2, _⟩ := id Y4
  go_wp2_with fail
  refine (HQ.out.smul _).mono ?_
  rintro e w5 ⟨rfl, hb5⟩
  have ha5 := gr_alloc (Below.refl w5.heap.size w5) (.cells #[.int .i64 P0, .int .i64 P1, .int .i64 P2] 27)
  have F6 := (F4.next hb5).next ha5
  have X6 := (X4.next hb5).next ha5
  have Y6 := (Y4.next hb5).next ha5
  have A6 := (A4.next hb5).next ha5
  have B6 := Arr3.new w5 P0 P1 P2 27
  have U6 := gr_trans (gr_trans U4 hb5) ha5
  clear F4 X4 Y4 A4 U4 hb5 ha5 f0 f1 f2 f3 x0 x1 x2 y0 y1 y2
  go_upto_region 6 with fail
  obtain ⟨j5, hj5⟩ : ∃ j, j = w5.heap.size := ⟨_, rfl⟩
  rw [← hj5] at B6
  rw [← hj5]
  generalize w5.alloc (.cells #[.int .i64 P0, .int .i64 P1, .int .i64 P2] 27) = W6 at F6 X6 Y6 A6 B6 U6 ⊢
  clear hj5
  have er := eq3_rf P0 P1 P2
  have S6 : RpF W6 j1 (j1 + 1) (j1 + 1 + 1) j3 a b c d u v x p q r P0 P1 P2 := ⟨F6, X6, Y6, A6⟩
  have SD := hid (S6.next (gr_drew (Below.refl _ _))); have XD := X6.drew; have AD := A6.drew; have BD := B6.drew; have UD := gr_drew U6
  clear F6 X6 Y6 A6 B6 U6 S6
  go_region_held3 (fun W => (W.cell? ⟨j1 + 1, 0, none⟩ = some (.int .i64 u) ∧ W.cell? ⟨j1 + 1, 1, none⟩ = some (.int .i64 v) ∧ W.cell? ⟨j1 + 1, 2, none⟩ = some (.int .i64 x)) ∧ (W.cell? ⟨j3, 0, none⟩ = some (.int .i64 P0) ∧ W.cell? ⟨j3, 1, none⟩ = some (.int .i64 P1) ∧ W.cell? ⟨j3, 2, none⟩ = some (.int .i64 P2)) ∧ (W.cell? ⟨j5, 0, none⟩ = some (.int .i64 P0) ∧ W.cell? ⟨j5, 1, none⟩ = some (.int .i64 P1) ∧ W.cell? ⟨j5, 2, none⟩ = some (.int .i64 P2))) (refine ⟨cells3 ?_, cells3 ?_, cells3 ?_⟩ <;> (repeat (first | with_reducible assumption | with_reducible exact Arr.box (by assumption) | with_reducible exact Box.new _ _ _ _ _ _ | with_reducible exact Arr.new _ _ _ _ _ _ | with_reducible refine Arr.drew ?_ | with_reducible refine Arr.drewN ?_ _ | with_reducible refine Arr.store4 ?_ | with_reducible refine Arr.alloc ?_ _ | with_reducible refine Box.drew ?_ | with_reducible refine Box.drewN ?_ _ | with_reducible refine Box.alloc ?_ _ | with_reducible refine Arr.next ?_ (by assumption) | with_reducible refine Box.next ?_ (by assumption) | refine Arr.oth ?_ (by first | (simp; done) | omega | (simp; omega)) _ | refine Box.oth ?_ (by first | (simp; done) | omega | (simp; omega)) _ | with_reducible exact Arr3.box (by assumption) | with_reducible exact Box3.new _ _ _ _ _ | with_reducible exact Arr3.new _ _ _ _ _ | with_reducible refine Arr3.drew ?_ | with_reducible refine Arr3.drewN ?_ _ | with_reducible refine Arr3.store3 ?_ | with_reducible refine Arr3.alloc ?_ _ | with_reducible refine Box3.drew ?_ | with_reducible refine Box3.drewN ?_ _ | with_reducible refine Box3.alloc ?_ _ | with_reducible refine Arr3.next ?_ (by assumption) | with_reducible refine Box3.next ?_ (by assumption) | refine Arr3.oth ?_ (by first | (simp; done) | omega | (simp; omega)) _ | refine Box3.oth ?_ (by first | (simp; done) | omega | (simp; omega)) _))) (first | (go_at_call 9; refine (iIsE_any u v x _).mono ?_; rintro e wa ⟨rfl, hba⟩) | (go_at_call 10; refine (sIsE_any u v x _).mono ?_; rintro e wb ⟨rfl, hbb⟩))
  go_upto_if 85 with (fail)
  go_cut [] (fun wx => Below w.heap.size w wx ∧ RpF wx j1 (j1 + 1) (j1 + 1 + 1) j3 a b c d u v x p q r P0 P1 P2)
  case first =>
    go_wp2_with fail
    go_meet
    exact ⟨by (repeat' (first | with_reducible exact Below.refl _ _ | with_reducible assumption | with_reducible refine gr_alloc ?_ _ | with_reducible refine gr_drew ?_ | with_reducible refine gr_drewN ?_ _ | with_reducible refine gr_trans ?_ (by assumption) | with_reducible refine gr_set ?_ ?_ _ | (simp; done) | omega | (simp; omega))), SD.out.next (by (repeat' (first | with_reducible exact Below.refl _ _ | with_reducible assumption | with_reducible refine gr_alloc ?_ _ | with_reducible refine gr_drew ?_ | with_reducible refine gr_drewN ?_ _ | with_reducible refine gr_trans ?_ (by assumption) | with_reducible refine gr_set ?_ ?_ _ | (simp; done) | omega | (simp; omega))))⟩
  case rest =>
    obtain ⟨U, S⟩ := hcut
    go_step
    exact rseg85_any w a0 len0 cap0 z0 HR hlen _ U j1 (j1 + 1) (j1 + 1 + 1) j3 a b c d u v x p q r K P0 P1 P2 (hid S) HQ _ _ _ _ _ _ _ _ _ _ _ _ _ _ _ _ _ _ _ _ _ _ _ _ _ _ _ _ _ _ _ _ _ _ _ _ _ _ _ _ _ _ _ _ _ _ _ _ _ _ _ _ _ _ _ _ _ _ _ _ _ _ _ _ _ _ _ _ _ _ _ _ _ _ _ _ _ _ _ _ _ _ _ _ _ _ _ _ _ _ _ _ _ _ _ _ _ _ _ _ _ _ _ _ _ _ _ _ _ _ _ _ _ _ _ _ _ _ _ _ _ _ _ _ _ _ _ _ _ _ _ _ _ _ _ _ _ _ _ _ _ _ _ _ _ _ _ _ _ _ _ _ _ _ _ _ _ _ _ _ _ _ _ _ _ _ _ _ _ _ _ _ _ _ _ _ _ _ _ _ _ _ _ _ _ _ _ _ _ _ _ _ _ _ _ _ _ _ _ _ _ _ _ _ _ _ _ _ _ _ _ _ _ _ _ _ _ _ _ _ _ _ _ _ _ _ _ _ _ _ _ _ _ _ _ _ _ _ _ _ _ _ _ _ _ _ _ _ _ _ _ _ _ _ _ _ _ _ _ _ _ _ _ _ _ _ _ _ _ _ _ _ _ _ _ _ _ _ _ _ _ _ _ _ _ _ _ _ _ _ _ _ _ _ _ _ _ _ _ _ _ _ _ _ _ _ _ _ _ _ _ _ _ _ _ _ _ _ _ _ _ _ _ _ _ _ _ _ _ _ _ _ _ _ _ _ _ _ _ _ _ _ _ _ _ _ _ _ _ _ _ _ _ _ _ _ _ _ _ _ _ _ _ _ _ _ _ _

theorem FnRingProducts_walk (w : World) (a0 : Option Addr) (len0 cap0 : Nat) (z0 : List Int) (hR : IsRow .u8 w a0 len0 cap0 z0) :
    Calls Try.prog 3 #[.slice a0 len0 cap0] w fun e w' => e = .returned (.bool true) ∧ Below w.heap.size w w' := by
  by_cases hb : 4096 < (len0 : Int)
  · exact FnRingProducts_big w a0 len0 cap0 hb
  · exact FnRingProducts_low w a0 len0 cap0 z0 (hid hR) (by omega) (hid (decide_eq_false hb))

set_option maxRecDepth 100000 in
set_option maxHeartbeats 1000000 in
theorem FnRingProducts_lifted (os : Os) (started : os.Started) (H : Type) (enc : TypeId × Value → H) :
    ReturnsInHanded {} Try.checked os 3 .any (Rows.fnRingProductsSpec.pre6 enc Try.prog Try.f3 Rows.fnRingProductsRow.domain false) (Rows.fnRingProductsSpec.post enc Try.prog Try.f3 false true false false) := by
  refine returnsInHanded_of_change (C := Try.checked) own started (by kernel_rfl) Try.func3
    (ChangeSpec.witness6 (enc := enc) (C := Try.checked) false ⟨#[], #[.slice none 0 0], []⟩ 8 (by kernel_rfl) (by kernel_rfl) (by kernel_rfl) (by kernel_rfl)) ?_
  intro W base args ds gs before hval0 hW hcnd _
  have hval : ∀ (j : Nat) t v, Try.f3.params[j]? = some t → args[j]? = some v → Value.okWide Try.prog W .any base t v := hval0
  have hW' := hW
  obtain ⟨p, q, hA0, hV, rfl, hfz, hnd⟩ := hW
  have hA : DataW.TrodAll enc Try.prog W 0 (fun _ => true) true Try.f3.params.toList args.toList ds p := hA0
  rw [Try.params3] at hA hval
  obtain ⟨v0, vs0, d0, ds0, p0, q0, hargs, rfl, rfl, h0, r0⟩ := trodAll_cons hA
  obtain ⟨rfl, rfl, rfl⟩ := trodAll_nil r0
  obtain rfl : args = #[v0] := by cases args; simp_all
  obtain ⟨rfl, rfl⟩ := trodVars_none hV
  have k0 := h0
  have lt0 : ∀ x ∈ p0, x.block < W.heap.size := by obtain ⟨m, hm⟩ := k0; exact DataW.trod_lt m _ _ _ hm
  obtain ⟨a0, len0, cap0, rfl⟩ := okWide_slice Try.underlying22 (hval 0 22 v0 rfl rfl)
  obtain ⟨z0, w0⟩ := open_row (k := .u8) Try.underlying22 Try.underlying5 (by kernel_rfl) h0
  clear hA0 hval0
  refine (FnRingProducts_walk W a0 len0 cap0 z0 w0).mono fun e W' ⟨he, bel⟩ => ?_
  subst he
  exact ⟨_, rfl, _, _, _, [], _, [], hW', trodAll_mk1 (shut_bool Try.underlying4 _), (trodAll_cons_mk (Below.trod laidOut (by kernel_rfl) (of_decide_eq_true (by kernel_rfl)) k0 bel lt0) trodAll_mk0), rfl, bel.frame _, fun h => by cases h⟩

set_option maxRecDepth 100000 in
set_option maxHeartbeats 1000000 in
theorem FnRingProducts_closed : joinedFacts Try.prog 3 Try.f3 Rows.fnRingProductsSpec Rows.fnRingProductsRow = true := by
  unfold joinedFacts
  exact clo_and (clo_and (clo_and (clo_and (clo_and (clo_and (clo_and (clo_and (clo_and (clo_and (clo_and (clo_and (clo_and (clo_and (clo_and (clo_and (clo_and (clo_and (clo_and (clo_and (clo_and (clo_and (clo_and (clo_and (clo_and (clo_and (clo_and (clo_and (clo_and (clo_and (clo_and (by kernel_rfl) laidOut) (by kernel_rfl)) (by kernel_rfl)) (by kernel_rfl)) (by kernel_rfl)) (by kernel_rfl)) (by kernel_rfl)) (by kernel_rfl)) (by kernel_rfl)) (by kernel_rfl)) (by kernel_rfl)) (by kernel_rfl)) (by kernel_rfl)) (by kernel_rfl)) (by kernel_rfl)) (by kernel_rfl)) (by kernel_rfl)) (by kernel_rfl)) (by kernel_rfl)) (by kernel_rfl)) (by kernel_rfl)) (by kernel_rfl)) (by kernel_rfl)) (by kernel_rfl)) clo_enter) clo_lifts) clo_make) (by kernel_rfl)) (by kernel_rfl)) (by kernel_rfl)) (by kernel_rfl)

/-- THE STATEMENT. -/
theorem FnRingProducts_holds : Rows.FnRingProductsSaid :=
  OpenClaim.holds_of_wide 3 Try.f3 rfl rfl rfl rfl rfl rfl rfl ⟨rfl, rfl, rfl, rfl, rfl⟩ rfl rfl rfl rfl rfl (by kernel_rfl) Try.func3 FnRingProducts_closed
    (of_decide_eq_true (by kernel_rfl)) (by unfold Func.isWrapper; first | (rw [if_pos (by decide +kernel)]; kernel_rfl) | (rw [if_neg (by decide +kernel)]; exact ⟨rfl, rfl⟩))
    (fun os started H enc _ => FnRingProducts_lifted os started H enc)
#print axioms FnRingProducts_holds

end Go.Proofs.Ytambbhldhhlfgaa
