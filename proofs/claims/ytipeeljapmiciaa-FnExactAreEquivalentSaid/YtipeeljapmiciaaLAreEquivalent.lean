/- FnExactAreEquivalent: AreEquivalent answers as its model at every argument. No condition. -/
import Derived.Test.YtipeeljapmiciaaBaClo
import Derived.Test.YtipeeljapmiciaaBaZ1
import Derived.Test.YtipeeljapmiciaaBaQc
import Derived.Test.YtipeeljapmiciaaBaC1k
import Derived.Test.YtipeeljapmiciaaBaZ9
import Derived.Deep.RegionHeld3
import Derived.Deep.DeepCutAuto
namespace Go.Proofs.Ytipeeljapmiciaa
open Go.ChangeShapes Go.WideShapes Go.ChangeAt Go.RowKit

theorem cellsL {W : World} {ka kb : Nat} {p0 q0 r0 s0 p1 q1 r1 s1 : Int} (K0 : Arr W ka p0 q0 r0 s0) (K1 : Arr W kb p1 q1 r1 s1) :
    W.cell? ⟨ka, 0, none⟩ = some (.int .i64 p0) ∧ W.cell? ⟨ka, 1, none⟩ = some (.int .i64 q0) ∧ W.cell? ⟨ka, 2, none⟩ = some (.int .i64 r0) ∧ W.cell? ⟨ka, 3, none⟩ = some (.int .i64 s0) ∧ W.cell? ⟨kb, 0, none⟩ = some (.int .i64 p1) ∧ W.cell? ⟨kb, 1, none⟩ = some (.int .i64 q1) ∧ W.cell? ⟨kb, 2, none⟩ = some (.int .i64 r1) ∧ W.cell? ⟨kb, 3, none⟩ = some (.int .i64 s1) :=
  ⟨K0.c0, K0.c1, K0.c2, K0.c3, K1.c0, K1.c1, K1.c2, K1.c3⟩

set_option maxRecDepth 100000 in
set_option maxHeartbeats 4000000 in
theorem FnExactAreEquivalent_walk (p0 q0 r0 s0 : Int) (_ : Wf4 p0 q0 r0 s0) (p1 q1 r1 s1 : Int) (_ : Wf4 p1 q1 r1 s1) (w : World) :
    Calls Try.prog 6 #[.agg #[.int .i64 p0, .int .i64 q0, .int .i64 r0, .int .i64 s0], .agg #[.int .i64 p1, .int .i64 q1, .int .i64 r1, .int .i64 s1]] w fun e w' => e = .returned (.bool true) ∧ Below w.heap.size w w' := by
  have hA := (Arr.new w p0 q0 r0 s0 22).alloc (.cells #[.int .i64 p1, .int .i64 q1, .int .i64 r1, .int .i64 s1] 22)
  have hB := Arr.new (w.alloc (.cells #[.int .i64 p0, .int .i64 q0, .int .i64 r0, .int .i64 s0] 22)) p1 q1 r1 s1 22
  have hU := gr_alloc (gr_alloc (Below.refl w.heap.size w) (.cells #[.int .i64 p0, .int .i64 q0, .int .i64 r0, .int .i64 s0] 22)) (.cells #[.int .i64 p1, .int .i64 q1, .int .i64 r1, .int .i64 s1] 22)
  simp only [World.size_alloc] at hB
  have hs := fun W => sAreEq_any p0 q0 r0 s0 p1 q1 r1 s1 W
  have hp := fun W => iAreEq_any p0 q0 r0 s0 p1 q1 r1 s1 W
  generalize aeq p0 q0 r0 s0 p1 q1 r1 s1 = y0 at hs hp
  generalize rcd2 p0 q0 r0 s0 p1 q1 r1 s1 = yc at hs hp
  have HS := hid hs
  have HP := hid hp
  clear hs hp
  go_enter Try.func6, Try.ntmps6
  go_upto_region 1 with fail
  generalize (w.alloc (.cells #[.int .i64 p0, .int .i64 q0, .int .i64 r0, .int .i64 s0] 22)).alloc (.cells #[.int .i64 p1, .int .i64 q1, .int .i64 r1, .int .i64 s1] 22) = W0 at hA hB hU ⊢
  obtain ⟨ka, ha⟩ : ∃ ka, ka = w.heap.size := ⟨_, rfl⟩
  rw [← ha] at hA hB ⊢
  generalize hb : ka + 1 = kb at *
  obtain ⟨hl0, a0, a1, a2, a3, _⟩ := id hA
  obtain ⟨hl1, b0, b1, b2, b3, _⟩ := id hB
  have hUz0 := hU.size
  have HA := hid ha
  clear ha
  go_cut [5, 6] (fun s5 s6 wx => s5 = .bool y0 ∧ s6 = .int .i64 yc ∧ Arr wx ka p0 q0 r0 s0 ∧ Arr wx kb p1 q1 r1 s1 ∧ Below w.heap.size w wx)
  case first =>
    go_region_held3 (fun W => W.cell? ⟨ka, 0, none⟩ = some (.int .i64 p0) ∧ W.cell? ⟨ka, 1, none⟩ = some (.int .i64 q0) ∧ W.cell? ⟨ka, 2, none⟩ = some (.int .i64 r0) ∧ W.cell? ⟨ka, 3, none⟩ = some (.int .i64 s0) ∧ W.cell? ⟨kb, 0, none⟩ = some (.int .i64 p1) ∧ W.cell? ⟨kb, 1, none⟩ = some (.int .i64 q1) ∧ W.cell? ⟨kb, 2, none⟩ = some (.int .i64 r1) ∧ W.cell? ⟨kb, 3, none⟩ = some (.int .i64 s1)) (refine cellsL ?_ ?_ <;> (repeat (first | with_reducible assumption | with_reducible exact Arr.box (by assumption) | with_reducible exact Box.new _ _ _ _ _ _ | with_reducible exact Arr.new _ _ _ _ _ _ | with_reducible refine Arr.drew ?_ | with_reducible refine Arr.drewN ?_ _ | with_reducible refine Arr.store4 ?_ | with_reducible refine Arr.alloc ?_ _ | with_reducible refine Box.drew ?_ | with_reducible refine Box.drewN ?_ _ | with_reducible refine Box.alloc ?_ _ | with_reducible refine Arr.next ?_ (by assumption) | with_reducible refine Box.next ?_ (by assumption) | refine Arr.oth ?_ (by first | (simp; done) | omega | (simp; omega)) _ | refine Box.oth ?_ (by first | (simp; done) | omega | (simp; omega)) _ | with_reducible exact Arr3.box (by assumption) | with_reducible exact Box3.new _ _ _ _ _ | with_reducible exact Arr3.new _ _ _ _ _ | with_reducible refine Arr3.drew ?_ | with_reducible refine Arr3.drewN ?_ _ | with_reducible refine Arr3.store3 ?_ | with_reducible refine Arr3.alloc ?_ _ | with_reducible refine Box3.drew ?_ | with_reducible refine Box3.drewN ?_ _ | with_reducible refine Box3.alloc ?_ _ | with_reducible refine Arr3.next ?_ (by assumption) | with_reducible refine Box3.next ?_ (by assumption) | refine Arr3.oth ?_ (by first | (simp; done) | omega | (simp; omega)) _ | refine Box3.oth ?_ (by first | (simp; done) | omega | (simp; omega)) _))) (first | (go_at_call_of 13 (Value.agg #[Value.int .i64 p0, Value.int .i64 q0, Value.int .i64 r0, Value.int .i64 s0]); refine (toForm_any p0 q0 r0 s0 _).mono ?_; rintro e wa ⟨rfl, hbwa⟩; have hzwa := hbwa.size; (try simp at hzwa)) | (go_at_call_of 13 (Value.agg #[Value.int .i64 p1, Value.int .i64 q1, Value.int .i64 r1, Value.int .i64 s1]); refine (toForm_any p1 q1 r1 s1 _).mono ?_; rintro e wb ⟨rfl, hbwb⟩; have hzwb := hbwb.size; (try simp at hzwb)) | (go_at_call 24; refine (HS.out _).mono ?_; rintro e wz ⟨rfl, hbwz⟩; have hzwz := hbwz.size; (try simp at hzwz)))
    all_goals (go_wp2_with fail; go_meet; exact ⟨rfl, rfl, by (repeat (first | with_reducible assumption | with_reducible exact Arr.box (by assumption) | with_reducible exact Box.new _ _ _ _ _ _ | with_reducible exact Arr.new _ _ _ _ _ _ | with_reducible refine Arr.drew ?_ | with_reducible refine Arr.drewN ?_ _ | with_reducible refine Arr.store4 ?_ | with_reducible refine Arr.alloc ?_ _ | with_reducible refine Box.drew ?_ | with_reducible refine Box.drewN ?_ _ | with_reducible refine Box.alloc ?_ _ | with_reducible refine Arr.next ?_ (by assumption) | with_reducible refine Box.next ?_ (by assumption) | refine Arr.oth ?_ (by first | (simp; done) | omega | (simp; omega)) _ | refine Box.oth ?_ (by first | (simp; done) | omega | (simp; omega)) _ | with_reducible exact Arr3.box (by assumption) | with_reducible exact Box3.new _ _ _ _ _ | with_reducible exact Arr3.new _ _ _ _ _ | with_reducible refine Arr3.drew ?_ | with_reducible refine Arr3.drewN ?_ _ | with_reducible refine Arr3.store3 ?_ | with_reducible refine Arr3.alloc ?_ _ | with_reducible refine Box3.drew ?_ | with_reducible refine Box3.drewN ?_ _ | with_reducible refine Box3.alloc ?_ _ | with_reducible refine Arr3.next ?_ (by assumption) | with_reducible refine Box3.next ?_ (by assumption) | refine Arr3.oth ?_ (by first | (simp; done) | omega | (simp; omega)) _ | refine Box3.oth ?_ (by first | (simp; done) | omega | (simp; omega)) _)), by (repeat (first | with_reducible assumption | with_reducible exact Arr.box (by assumption) | with_reducible exact Box.new _ _ _ _ _ _ | with_reducible exact Arr.new _ _ _ _ _ _ | with_reducible refine Arr.drew ?_ | with_reducible refine Arr.drewN ?_ _ | with_reducible refine Arr.store4 ?_ | with_reducible refine Arr.alloc ?_ _ | with_reducible refine Box.drew ?_ | with_reducible refine Box.drewN ?_ _ | with_reducible refine Box.alloc ?_ _ | with_reducible refine Arr.next ?_ (by assumption) | with_reducible refine Box.next ?_ (by assumption) | refine Arr.oth ?_ (by first | (simp; done) | omega | (simp; omega)) _ | refine Box.oth ?_ (by first | (simp; done) | omega | (simp; omega)) _ | with_reducible exact Arr3.box (by assumption) | with_reducible exact Box3.new _ _ _ _ _ | with_reducible exact Arr3.new _ _ _ _ _ | with_reducible refine Arr3.drew ?_ | with_reducible refine Arr3.drewN ?_ _ | with_reducible refine Arr3.store3 ?_ | with_reducible refine Arr3.alloc ?_ _ | with_reducible refine Box3.drew ?_ | with_reducible refine Box3.drewN ?_ _ | with_reducible refine Box3.alloc ?_ _ | with_reducible refine Arr3.next ?_ (by assumption) | with_reducible refine Box3.next ?_ (by assumption) | refine Arr3.oth ?_ (by first | (simp; done) | omega | (simp; omega)) _ | refine Box3.oth ?_ (by first | (simp; done) | omega | (simp; omega)) _)), by (repeat' (first | with_reducible exact Below.refl _ _ | with_reducible assumption | with_reducible refine gr_alloc ?_ _ | with_reducible refine gr_drew ?_ | with_reducible refine gr_drewN ?_ _ | with_reducible refine gr_trans ?_ (by assumption) | with_reducible refine gr_set ?_ ?_ _ | (simp; done) | omega | (simp; omega)))⟩)
  case rest =>
    obtain ⟨rfl, rfl, hA1, hB1, hU1⟩ := hcut
    clear hA hB hU hUz0 hl0 hl1 a0 a1 a2 a3 b0 b1 b2 b3
    have hUz := hU1.size
    obtain ⟨hl0, a0, a1, a2, a3, _⟩ := id hA1
    obtain ⟨hl1, b0, b1, b2, b3, _⟩ := id hB1
    go_upto_region 2 with fail
    go_cut [7, 8] (fun s7 s8 wx => s7 = .bool y0 ∧ s8 = .int .i64 yc ∧ Arr wx ka p0 q0 r0 s0 ∧ Arr wx kb p1 q1 r1 s1 ∧ Below w.heap.size w wx)
    case first =>
      go_region_held3 (fun W => W.cell? ⟨ka, 0, none⟩ = some (.int .i64 p0) ∧ W.cell? ⟨ka, 1, none⟩ = some (.int .i64 q0) ∧ W.cell? ⟨ka, 2, none⟩ = some (.int .i64 r0) ∧ W.cell? ⟨ka, 3, none⟩ = some (.int .i64 s0) ∧ W.cell? ⟨kb, 0, none⟩ = some (.int .i64 p1) ∧ W.cell? ⟨kb, 1, none⟩ = some (.int .i64 q1) ∧ W.cell? ⟨kb, 2, none⟩ = some (.int .i64 r1) ∧ W.cell? ⟨kb, 3, none⟩ = some (.int .i64 s1)) (refine cellsL ?_ ?_ <;> (repeat (first | with_reducible assumption | with_reducible exact Arr.box (by assumption) | with_reducible exact Box.new _ _ _ _ _ _ | with_reducible exact Arr.new _ _ _ _ _ _ | with_reducible refine Arr.drew ?_ | with_reducible refine Arr.drewN ?_ _ | with_reducible refine Arr.store4 ?_ | with_reducible refine Arr.alloc ?_ _ | with_reducible refine Box.drew ?_ | with_reducible refine Box.drewN ?_ _ | with_reducible refine Box.alloc ?_ _ | with_reducible refine Arr.next ?_ (by assumption) | with_reducible refine Box.next ?_ (by assumption) | refine Arr.oth ?_ (by first | (simp; done) | omega | (simp; omega)) _ | refine Box.oth ?_ (by first | (simp; done) | omega | (simp; omega)) _ | with_reducible exact Arr3.box (by assumption) | with_reducible exact Box3.new _ _ _ _ _ | with_reducible exact Arr3.new _ _ _ _ _ | with_reducible refine Arr3.drew ?_ | with_reducible refine Arr3.drewN ?_ _ | with_reducible refine Arr3.store3 ?_ | with_reducible refine Arr3.alloc ?_ _ | with_reducible refine Box3.drew ?_ | with_reducible refine Box3.drewN ?_ _ | with_reducible refine Box3.alloc ?_ _ | with_reducible refine Arr3.next ?_ (by assumption) | with_reducible refine Box3.next ?_ (by assumption) | refine Arr3.oth ?_ (by first | (simp; done) | omega | (simp; omega)) _ | refine Box3.oth ?_ (by first | (simp; done) | omega | (simp; omega)) _))) (first | (go_at_call_of 13 (Value.agg #[Value.int .i64 p0, Value.int .i64 q0, Value.int .i64 r0, Value.int .i64 s0]); refine (toForm_any p0 q0 r0 s0 _).mono ?_; rintro e va ⟨rfl, hbva⟩; have hzva := hbva.size; (try simp at hzva)) | (go_at_call_of 13 (Value.agg #[Value.int .i64 p1, Value.int .i64 q1, Value.int .i64 r1, Value.int .i64 s1]); refine (toForm_any p1 q1 r1 s1 _).mono ?_; rintro e vb ⟨rfl, hbvb⟩; have hzvb := hbvb.size; (try simp at hzvb)) | (go_at_call 25; refine (HP.out _).mono ?_; rintro e vz ⟨rfl, hbvz⟩; have hzvz := hbvz.size; (try simp at hzvz)))
      all_goals (go_wp2_with fail; go_meet; exact ⟨rfl, rfl, by (repeat (first | with_reducible assumption | with_reducible exact Arr.box (by assumption) | with_reducible exact Box.new _ _ _ _ _ _ | with_reducible exact Arr.new _ _ _ _ _ _ | with_reducible refine Arr.drew ?_ | with_reducible refine Arr.drewN ?_ _ | with_reducible refine Arr.store4 ?_ | with_reducible refine Arr.alloc ?_ _ | with_reducible refine Box.drew ?_ | with_reducible refine Box.drewN ?_ _ | with_reducible refine Box.alloc ?_ _ | with_reducible refine Arr.next ?_ (by assumption) | with_reducible refine Box.next ?_ (by assumption) | refine Arr.oth ?_ (by first | (simp; done) | omega | (simp; omega)) _ | refine Box.oth ?_ (by first | (simp; done) | omega | (simp; omega)) _ | with_reducible exact Arr3.box (by assumption) | with_reducible exact Box3.new _ _ _ _ _ | with_reducible exact Arr3.new _ _ _ _ _ | with_reducible refine Arr3.drew ?_ | with_reducible refine Arr3.drewN ?_ _ | with_reducible refine Arr3.store3 ?_ | with_reducible refine Arr3.alloc ?_ _ | with_reducible refine Box3.drew ?_ | with_reducible refine Box3.drewN ?_ _ | with_reducible refine Box3.alloc ?_ _ | with_reducible refine Arr3.next ?_ (by assumption) | with_reducible refine Box3.next ?_ (by assumption) | refine Arr3.oth ?_ (by first | (simp; done) | omega | (simp; omega)) _ | refine Box3.oth ?_ (by first | (simp; done) | omega | (simp; omega)) _)), by (repeat (first | with_reducible assumption | with_reducible exact Arr.box (by assumption) | with_reducible exact Box.new _ _ _ _ _ _ | with_reducible exact Arr.new _ _ _ _ _ _ | with_reducible refine Arr.drew ?_ | with_reducible refine Arr.drewN ?_ _ | with_reducible refine Arr.store4 ?_ | with_reducible refine Arr.alloc ?_ _ | with_reducible refine Box.drew ?_ | with_reducible refine Box.drewN ?_ _ | with_reducible refine Box.alloc ?_ _ | with_reducible refine Arr.next ?_ (by assumption) | with_reducible refine Box.next ?_ (by assumption) | refine Arr.oth ?_ (by first | (simp; done) | omega | (simp; omega)) _ | refine Box.oth ?_ (by first | (simp; done) | omega | (simp; omega)) _ | with_reducible exact Arr3.box (by assumption) | with_reducible exact Box3.new _ _ _ _ _ | with_reducible exact Arr3.new _ _ _ _ _ | with_reducible refine Arr3.drew ?_ | with_reducible refine Arr3.drewN ?_ _ | with_reducible refine Arr3.store3 ?_ | with_reducible refine Arr3.alloc ?_ _ | with_reducible refine Box3.drew ?_ | with_reducible refine Box3.drewN ?_ _ | with_reducible refine Box3.alloc ?_ _ | with_reducible refine Arr3.next ?_ (by assumption) | with_reducible refine Box3.next ?_ (by assumption) | refine Arr3.oth ?_ (by first | (simp; done) | omega | (simp; omega)) _ | refine Box3.oth ?_ (by first | (simp; done) | omega | (simp; omega)) _)), by (repeat' (first | with_reducible exact Below.refl _ _ | with_reducible assumption | with_reducible refine gr_alloc ?_ _ | with_reducible refine gr_drew ?_ | with_reducible refine gr_drewN ?_ _ | with_reducible refine gr_trans ?_ (by assumption) | with_reducible refine gr_set ?_ ?_ _ | (simp; done) | omega | (simp; omega)))⟩)
    case rest =>
      obtain ⟨rfl, rfl, hA2, hB2, hU2⟩ := hcut
      go_wp2
      go_ret
      exact ⟨rfl, by (repeat' (first | with_reducible exact Below.refl _ _ | with_reducible assumption | with_reducible refine gr_alloc ?_ _ | with_reducible refine gr_drew ?_ | with_reducible refine gr_drewN ?_ _ | with_reducible refine gr_trans ?_ (by assumption) | with_reducible refine gr_set ?_ ?_ _ | (simp; done) | omega | (simp; omega)))⟩

set_option maxRecDepth 100000 in
set_option maxHeartbeats 1000000 in
theorem FnExactAreEquivalent_lifted (os : Os) (started : os.Started) (H : Type) (enc : TypeId × Value → H) :
    ReturnsInHanded {} Try.checked os 6 .any (Rows.fnExactAreEquivalentSpec.pre6 enc Try.prog Try.f6 Rows.fnExactAreEquivalentRow.domain false) (Rows.fnExactAreEquivalentSpec.post enc Try.prog Try.f6 false true false false) := by
  refine returnsInHanded_of_change (C := Try.checked) own started (by kernel_rfl) Try.func6
    (ChangeSpec.witness6 (enc := enc) (C := Try.checked) false ⟨#[], #[.agg #[.int .i64 0, .int .i64 0, .int .i64 0, .int .i64 0], .agg #[.int .i64 0, .int .i64 0, .int .i64 0, .int .i64 0]], []⟩ 8 (by kernel_rfl) (by kernel_rfl) (by kernel_rfl) (by kernel_rfl)) ?_
  intro W base args ds gs before hval0 hW hcnd _
  have hval : ∀ (j : Nat) t v, Try.f6.params[j]? = some t → args[j]? = some v → Value.okWide Try.prog W .any base t v := hval0
  have hW' := hW
  obtain ⟨p, q, hA0, hV, rfl, hfz, hnd⟩ := hW
  have hA : DataW.TrodAll enc Try.prog W 0 (fun _ => true) true Try.f6.params.toList args.toList ds p := hA0
  rw [Try.params6] at hA hval
  obtain ⟨v0, vs0, d0, ds0, p0, q0, hargs, rfl, rfl, h0, r0⟩ := trodAll_cons hA
  obtain ⟨v1, vs1, d1, ds1, p1, q1, rfl, rfl, rfl, h1, r1⟩ := trodAll_cons r0
  obtain ⟨rfl, rfl, rfl⟩ := trodAll_nil r1
  obtain rfl : args = #[v0, v1] := by cases args; simp_all
  obtain ⟨rfl, rfl⟩ := trodVars_none hV
  have k0 := h0
  have lt0 : ∀ x ∈ p0, x.block < W.heap.size := by obtain ⟨m, hm⟩ := k0; exact DataW.trod_lt m _ _ _ hm
  obtain ⟨a0, b0, c0, e0, rfl, w0⟩ := open_arr4 Try.underlying22 Try.underlying2 (by kernel_rfl) (by kernel_rfl) (hval 0 22 v0 rfl rfl) h0
  have k1 := h1
  have lt1 : ∀ x ∈ p1, x.block < W.heap.size := by obtain ⟨m, hm⟩ := k1; exact DataW.trod_lt m _ _ _ hm
  obtain ⟨a1, b1, c1, e1, rfl, w1⟩ := open_arr4 Try.underlying22 Try.underlying2 (by kernel_rfl) (by kernel_rfl) (hval 1 22 v1 rfl rfl) h1
  clear hA0 hval0
  refine (FnExactAreEquivalent_walk a0 b0 c0 e0 w0 a1 b1 c1 e1 w1 W).mono fun e W' ⟨he, bel⟩ => ?_
  subst he
  exact ⟨_, rfl, _, _, _, [], _, [], hW', trodAll_mk1 (shut_bool Try.underlying4 _), (trodAll_cons_mk (Below.trod laidOut (by kernel_rfl) (of_decide_eq_true (by kernel_rfl)) k0 bel lt0) (trodAll_cons_mk (Below.trod laidOut (by kernel_rfl) (of_decide_eq_true (by kernel_rfl)) k1 bel lt1) trodAll_mk0)), rfl, bel.frame _, fun h => by cases h⟩

set_option maxRecDepth 100000 in
set_option maxHeartbeats 1000000 in
theorem FnExactAreEquivalent_closed : joinedFacts Try.prog 6 Try.f6 Rows.fnExactAreEquivalentSpec Rows.fnExactAreEquivalentRow = true := by
  unfold joinedFacts
  exact clo_and (clo_and (clo_and (clo_and (clo_and (clo_and (clo_and (clo_and (clo_and (clo_and (clo_and (clo_and (clo_and (clo_and (clo_and (clo_and (clo_and (clo_and (clo_and (clo_and (clo_and (clo_and (clo_and (clo_and (clo_and (clo_and (clo_and (clo_and (clo_and (clo_and (clo_and (by kernel_rfl) laidOut) (by kernel_rfl)) (by kernel_rfl)) (by kernel_rfl)) (by kernel_rfl)) (by kernel_rfl)) (by kernel_rfl)) (by kernel_rfl)) (by kernel_rfl)) (by kernel_rfl)) (by kernel_rfl)) (by kernel_rfl)) (by kernel_rfl)) (by kernel_rfl)) (by kernel_rfl)) (by kernel_rfl)) (by kernel_rfl)) (by kernel_rfl)) (by kernel_rfl)) (by kernel_rfl)) (by kernel_rfl)) (by kernel_rfl)) (by kernel_rfl)) (by kernel_rfl)) clo_enter) clo_lifts) clo_make) (by kernel_rfl)) (by kernel_rfl)) (by kernel_rfl)) (by kernel_rfl)

/-- THE STATEMENT. -/
theorem FnExactAreEquivalent_holds : Rows.FnExactAreEquivalentSaid :=
  OpenClaim.holds_of_wide 6 Try.f6 rfl rfl rfl rfl rfl rfl rfl ⟨rfl, rfl, rfl, rfl, rfl⟩ rfl rfl rfl rfl rfl (by kernel_rfl) Try.func6 FnExactAreEquivalent_closed
    (of_decide_eq_true (by kernel_rfl)) (by unfold Func.isWrapper; first | (rw [if_pos (by decide +kernel)]; kernel_rfl) | (rw [if_neg (by decide +kernel)]; exact ⟨rfl, rfl⟩))
    (fun os started H enc _ => FnExactAreEquivalent_lifted os started H enc)
#print axioms FnExactAreEquivalent_holds

end Go.Proofs.Ytipeeljapmiciaa
