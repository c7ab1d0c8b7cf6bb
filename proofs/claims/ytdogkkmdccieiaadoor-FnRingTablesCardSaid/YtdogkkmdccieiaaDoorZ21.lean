/- Several texts in one: XE16if, XE16it. -/
import Derived.Test.YtdogkkmdccieiaaDoorZ19

/- Chapter 4: right tables: one way of one side. -/
namespace Go.Proofs.YtdogkkmdccieiaaDoor
open Go.RowKit

set_option maxRecDepth 100000 in
set_option maxHeartbeats 20000000 in
theorem iRight_f (p0 p1 p2 p3 p4 p5 p6 p7 p8 : Int) (w : World) (hb1 : rg1 p0 p1 p2 p3 p4 p5 p6 p7 p8 = false) :
    Calls Tryd.prog 73 #[.agg #[.int .i64 p0, .int .i64 p1, .int .i64 p2, .int .i64 p3, .int .i64 p4, .int .i64 p5, .int .i64 p6, .int .i64 p7, .int .i64 p8]] w fun e w' => e = .returned (.bool (rg1 p0 p1 p2 p3 p4 p5 p6 p7 p8 && rg2 p0 p1 p2 p3 p4 p5 p6 p7 p8)) ∧ Below w.heap.size w w' := by
  have P0 := ((Arr9.new w p0 p1 p2 p3 p4 p5 p6 p7 p8 73).alloc (.cells #[.int .i64 0, .int .i64 1, .int .i64 0] 27)).alloc (.cells #[.int .i64 0, .int .i64 0, .int .i64 1] 27)
  have K0 := (Arr3.new (w.alloc (.cells #[.int .i64 p0, .int .i64 p1, .int .i64 p2, .int .i64 p3, .int .i64 p4, .int .i64 p5, .int .i64 p6, .int .i64 p7, .int .i64 p8] 73)) 0 1 0 27).alloc (.cells #[.int .i64 0, .int .i64 0, .int .i64 1] 27)
  have L0 := Arr3.new ((w.alloc (.cells #[.int .i64 p0, .int .i64 p1, .int .i64 p2, .int .i64 p3, .int .i64 p4, .int .i64 p5, .int .i64 p6, .int .i64 p7, .int .i64 p8] 73)).alloc (.cells #[.int .i64 0, .int .i64 1, .int .i64 0] 27)) 0 0 1 27
  have U0 := gr_alloc (gr_alloc (gr_alloc (Below.refl w.heap.size w) (.cells #[.int .i64 p0, .int .i64 p1, .int .i64 p2, .int .i64 p3, .int .i64 p4, .int .i64 p5, .int .i64 p6, .int .i64 p7, .int .i64 p8] 73)) (.cells #[.int .i64 0, .int .i64 1, .int .i64 0] 27)) (.cells #[.int .i64 0, .int .i64 0, .int .i64 1] 27)
  simp only [World.size_alloc] at K0 L0
  have hq1 := fun W => eqElem_run (m0 p0 p3 p6 p0 p1 p2 0 0 1) (m1 p1 p4 p7 p0 p1 p2 0 0 1) (m2 p2 p5 p8 p0 p1 p2 0 0 1) (m0 p0 p3 p6 0 1 0 p3 p4 p5) (m1 p1 p4 p7 0 1 0 p3 p4 p5) (m2 p2 p5 p8 0 1 0 p3 p4 p5) W
  have hq2 := fun W => eqElem_run (m0 p0 p3 p6 p3 p4 p5 0 0 1) (m1 p1 p4 p7 p3 p4 p5 0 0 1) (m2 p2 p5 p8 p3 p4 p5 0 0 1) (m0 p0 p3 p6 0 1 0 p6 p7 p8) (m1 p1 p4 p7 0 1 0 p6 p7 p8) (m2 p2 p5 p8 0 1 0 p6 p7 p8) W
  have e1 : eq3 (m0 p0 p3 p6 p0 p1 p2 0 0 1) (m1 p1 p4 p7 p0 p1 p2 0 0 1) (m2 p2 p5 p8 p0 p1 p2 0 0 1) (m0 p0 p3 p6 0 1 0 p3 p4 p5) (m1 p1 p4 p7 0 1 0 p3 p4 p5) (m2 p2 p5 p8 0 1 0 p3 p4 p5) = rg1 p0 p1 p2 p3 p4 p5 p6 p7 p8 := rfl
  have e2 : eq3 (m0 p0 p3 p6 p3 p4 p5 0 0 1) (m1 p1 p4 p7 p3 p4 p5 0 0 1) (m2 p2 p5 p8 p3 p4 p5 0 0 1) (m0 p0 p3 p6 0 1 0 p6 p7 p8) (m1 p1 p4 p7 0 1 0 p6 p7 p8) (m2 p2 p5 p8 0 1 0 p6 p7 p8) = rg2 p0 p1 p2 p3 p4 p5 p6 p7 p8 := rfl
  rw [e1] at hq1
  rw [e2] at hq2
  clear e1 e2
  rw [hb1] at hq1 ⊢
  clear hb1
  generalize rg2 p0 p1 p2 p3 p4 p5 p6 p7 p8 = b2 at hq2 ⊢
  have c1 := fun W => iMul_any p0 p1 p2 p3 p4 p5 p6 p7 p8 p0 p1 p2 0 0 1 W
  have c2 := fun W => iMul_any p0 p1 p2 p3 p4 p5 p6 p7 p8 0 1 0 p3 p4 p5 W
  have c3 := fun W => iMul_any p0 p1 p2 p3 p4 p5 p6 p7 p8 p3 p4 p5 0 0 1 W
  have c4 := fun W => iMul_any p0 p1 p2 p3 p4 p5 p6 p7 p8 0 1 0 p6 p7 p8 W
  generalize m0 p0 p3 p6 p0 p1 p2 0 0 1 = x1 at c1 hq1
  generalize m1 p1 p4 p7 p0 p1 p2 0 0 1 = y1 at c1 hq1
  generalize m2 p2 p5 p8 p0 p1 p2 0 0 1 = z1 at c1 hq1
  generalize m0 p0 p3 p6 0 1 0 p3 p4 p5 = x2 at c2 hq1
  generalize m1 p1 p4 p7 0 1 0 p3 p4 p5 = y2 at c2 hq1
  generalize m2 p2 p5 p8 0 1 0 p3 p4 p5 = z2 at c2 hq1
  generalize m0 p0 p3 p6 p3 p4 p5 0 0 1 = x3 at c3 hq2
  generalize m1 p1 p4 p7 p3 p4 p5 0 0 1 = y3 at c3 hq2
  generalize m2 p2 p5 p8 p3 p4 p5 0 0 1 = z3 at c3 hq2
  generalize m0 p0 p3 p6 0 1 0 p6 p7 p8 = x4 at c4 hq2
  generalize m1 p1 p4 p7 0 1 0 p6 p7 p8 = y4 at c4 hq2
  generalize m2 p2 p5 p8 0 1 0 p6 p7 p8 = z4 at c4 hq2
  have C1 := hid c1; have C2 := hid c2; have C3 := hid c3; have C4 := hid c4
  clear c1 c2 c3 c4
  go_enter Tryd.func73, Tryd.ntmps73
  go_upto_region 2 with fail
  generalize ((w.alloc (.cells #[.int .i64 p0, .int .i64 p1, .int .i64 p2, .int .i64 p3, .int .i64 p4, .int .i64 p5, .int .i64 p6, .int .i64 p7, .int .i64 p8] 73)).alloc (.cells #[.int .i64 0, .int .i64 1, .int .i64 0] 27)).alloc (.cells #[.int .i64 0, .int .i64 0, .int .i64 1] 27) = W0 at P0 K0 L0 U0 ⊢
  obtain ⟨_, q0, q1, q2, q3, q4, q5, q6, q7, q8⟩ := id P0
  obtain ⟨_, a0, a1, a2, _⟩ := id K0
  obtain ⟨_, l0, l1, l2, _⟩ := id L0
  have hz := L0.lt
  refine wp_region_held_drew (S := (fun W => W.cell? ⟨w.heap.size, 0, none⟩ = some (.int .i64 p0) ∧ W.cell? ⟨w.heap.size, 1, none⟩ = some (.int .i64 p1) ∧ W.cell? ⟨w.heap.size, 2, none⟩ = some (.int .i64 p2) ∧ W.cell? ⟨w.heap.size, 3, none⟩ = some (.int .i64 p3) ∧ W.cell? ⟨w.heap.size, 4, none⟩ = some (.int .i64 p4) ∧ W.cell? ⟨w.heap.size, 5, none⟩ = some (.int .i64 p5) ∧ W.cell? ⟨w.heap.size, 6, none⟩ = some (.int .i64 p6) ∧ W.cell? ⟨w.heap.size, 7, none⟩ = some (.int .i64 p7) ∧ W.cell? ⟨w.heap.size, 8, none⟩ = some (.int .i64 p8) ∧ W.cell? ⟨w.heap.size + 1, 0, none⟩ = some (.int .i64 0) ∧ W.cell? ⟨w.heap.size + 1, 1, none⟩ = some (.int .i64 1) ∧ W.cell? ⟨w.heap.size + 1, 2, none⟩ = some (.int .i64 0) ∧ W.cell? ⟨w.heap.size + 1 + 1, 0, none⟩ = some (.int .i64 0) ∧ W.cell? ⟨w.heap.size + 1 + 1, 1, none⟩ = some (.int .i64 0) ∧ W.cell? ⟨w.heap.size + 1 + 1, 2, none⟩ = some (.int .i64 1))) (by kernel_rfl) (by refine cells933 ?_ ?_ ?_ <;> (repeat (first | with_reducible assumption | with_reducible exact Arr9.new _ _ _ _ _ _ _ _ _ _ _ | with_reducible refine Arr9.drew ?_ | with_reducible refine Arr9.drewN ?_ _ | with_reducible refine Arr9.alloc ?_ _ | with_reducible refine Arr9.next ?_ (by assumption) | with_reducible exact Arr.box (by assumption) | with_reducible exact Box.new _ _ _ _ _ _ | with_reducible exact Arr.new _ _ _ _ _ _ | with_reducible refine Arr.drew ?_ | with_reducible refine Arr.drewN ?_ _ | with_reducible refine Arr.store4 ?_ | with_reducible refine Arr.alloc ?_ _ | with_reducible refine Box.drew ?_ | with_reducible refine Box.drewN ?_ _ | with_reducible refine Box.alloc ?_ _ | with_reducible refine Arr.next ?_ (by assumption) | with_reducible refine Box.next ?_ (by assumption) | refine Arr.oth ?_ (by first | (simp; done) | omega | (simp; omega)) _ | refine Box.oth ?_ (by first | (simp; done) | omega | (simp; omega)) _ | with_reducible exact Arr3.box (by assumption) | with_reducible exact Box3.new _ _ _ _ _ | with_reducible exact Arr3.new _ _ _ _ _ | with_reducible refine Arr3.drew ?_ | with_reducible refine Arr3.drewN ?_ _ | with_reducible refine Arr3.store3 ?_ | with_reducible refine Arr3.alloc ?_ _ | with_reducible refine Box3.drew ?_ | with_reducible refine Box3.drewN ?_ _ | with_reducible refine Box3.alloc ?_ _ | with_reducible refine Arr3.next ?_ (by assumption) | with_reducible refine Box3.next ?_ (by assumption) | refine Arr3.oth ?_ (by first | (simp; done) | omega | (simp; omega)) _ | refine Box3.oth ?_ (by first | (simp; done) | omega | (simp; omega)) _))) (fun hHeld => ?_)
  refine wpAnyH_take (i := 0) (v := ?_) rfl (by kernel_rfl) (by kernel_rfl) (by kernel_rfl) (fun _ _ _ h => h) (Or.inl ⟨by rfl, ?_⟩) (by assumption) ?_
  rotate_left 1
  · (intro w hSw; (try dsimp only at hSw); go_simp; (first | done | with_reducible rfl))
  ((try simp only [Act.put]); (try simp only [List.setIfInBounds_toArray]); (try simp only [List.set_cons_succ]); (try simp only [List.set_cons_zero]))
  refine wpAnyH_take (i := 1) (v := ?_) rfl (by kernel_rfl) (by kernel_rfl) (by kernel_rfl) (fun _ _ _ h => h) (Or.inl ⟨by rfl, ?_⟩) (by assumption) ?_
  rotate_left 1
  · (intro w hSw; (try dsimp only at hSw); go_simp; (first | done | with_reducible rfl))
  ((try simp only [Act.put]); (try simp only [List.setIfInBounds_toArray]); (try simp only [List.set_cons_succ]); (try simp only [List.set_cons_zero]))
  refine wpAnyH_take (i := 2) (v := ?_) rfl (by kernel_rfl) (by kernel_rfl) (by kernel_rfl) (fun _ _ _ h => h) (Or.inl ⟨by rfl, ?_⟩) (by assumption) ?_
  rotate_left 1
  · (intro w hSw; (try dsimp only at hSw); go_simp; (first | done | with_reducible rfl))
  ((try simp only [Act.put]); (try simp only [List.setIfInBounds_toArray]); (try simp only [List.set_cons_succ]); (try simp only [List.set_cons_zero]))
  refine wpAnyH_take (i := 3) (v := ?_) rfl (by kernel_rfl) (by kernel_rfl) (by kernel_rfl) (fun _ _ _ h => h) (Or.inl ⟨by rfl, ?_⟩) (by assumption) ?_
  rotate_left 1
  · (intro w hSw; (try dsimp only at hSw); go_simp; (first | done | with_reducible rfl))
  ((try simp only [Act.put]); (try simp only [List.setIfInBounds_toArray]); (try simp only [List.set_cons_succ]); (try simp only [List.set_cons_zero]))
  refine wpAnyH_take (i := 5) (v := ?_) rfl (by kernel_rfl) (by kernel_rfl) (by kernel_rfl) (fun _ _ _ h => h) (Or.inl ⟨by rfl, ?_⟩) (by assumption) ?_
  rotate_left 1
  · (intro w hSw; (try dsimp only at hSw); go_simp; (first | done | with_reducible rfl))
  ((try simp only [Act.put]); (try simp only [List.setIfInBounds_toArray]); (try simp only [List.set_cons_succ]); (try simp only [List.set_cons_zero]))
  refine wpAnyH_take (i := 6) (v := ?_) rfl (by kernel_rfl) (by kernel_rfl) (by kernel_rfl) (fun _ _ _ h => h) (Or.inl ⟨by rfl, ?_⟩) (by assumption) ?_
  rotate_left 1
  · (intro w hSw; (try dsimp only at hSw); go_simp; (first | done | with_reducible rfl))
  ((try simp only [Act.put]); (try simp only [List.setIfInBounds_toArray]); (try simp only [List.set_cons_succ]); (try simp only [List.set_cons_zero]))
  refine wpAnyH_take (i := 7) (v := ?_) rfl (by kernel_rfl) (by kernel_rfl) (by kernel_rfl) (fun _ _ _ h => h) (Or.inl ⟨by rfl, ?_⟩) (by assumption) ?_
  rotate_left 1
  · (intro w hSw; (try dsimp only at hSw); go_simp; (first | done | with_reducible rfl))
  ((try simp only [Act.put]); (try simp only [List.setIfInBounds_toArray]); (try simp only [List.set_cons_succ]); (try simp only [List.set_cons_zero]))
  refine wpAnyH_take (i := 8) (v := ?_) rfl (by kernel_rfl) (by kernel_rfl) (by kernel_rfl) (fun _ _ _ h => h) (Or.inl ⟨by rfl, ?_⟩) (by assumption) ?_
  rotate_left 1
  · (intro w hSw; (try dsimp only at hSw); go_simp; (first | done | with_reducible rfl))
  ((try simp only [Act.put]); (try simp only [List.setIfInBounds_toArray]); (try simp only [List.set_cons_succ]); (try simp only [List.set_cons_zero]))
  refine wpAnyH_ready (rs := [4]) (by kernel_rfl) (by simp) ?_
  refine AllReadyH.cons (o := _) rfl (fun K hK => ?_) AllReadyH.nil
  · go_simp
    refine (C1.out _).mono ?_
    rintro e z1 ⟨rfl, hy1⟩
    have hzy1 := hy1.size; (try simp at hzy1)
    go_wp2_with fail
    refine hK.out _ _ (by refine cells933 ?_ ?_ ?_ <;> (repeat (first | with_reducible assumption | with_reducible exact Arr9.new _ _ _ _ _ _ _ _ _ _ _ | with_reducible refine Arr9.drew ?_ | with_reducible refine Arr9.drewN ?_ _ | with_reducible refine Arr9.alloc ?_ _ | with_reducible refine Arr9.next ?_ (by assumption) | with_reducible exact Arr.box (by assumption) | with_reducible exact Box.new _ _ _ _ _ _ | with_reducible exact Arr.new _ _ _ _ _ _ | with_reducible refine Arr.drew ?_ | with_reducible refine Arr.drewN ?_ _ | with_reducible refine Arr.store4 ?_ | with_reducible refine Arr.alloc ?_ _ | with_reducible refine Box.drew ?_ | with_reducible refine Box.drewN ?_ _ | with_reducible refine Box.alloc ?_ _ | with_reducible refine Arr.next ?_ (by assumption) | with_reducible refine Box.next ?_ (by assumption) | refine Arr.oth ?_ (by first | (simp; done) | omega | (simp; omega)) _ | refine Box.oth ?_ (by first | (simp; done) | omega | (simp; omega)) _ | with_reducible exact Arr3.box (by assumption) | with_reducible exact Box3.new _ _ _ _ _ | with_reducible exact Arr3.new _ _ _ _ _ | with_reducible refine Arr3.drew ?_ | with_reducible refine Arr3.drewN ?_ _ | with_reducible refine Arr3.store3 ?_ | with_reducible refine Arr3.alloc ?_ _ | with_reducible refine Box3.drew ?_ | with_reducible refine Box3.drewN ?_ _ | with_reducible refine Box3.alloc ?_ _ | with_reducible refine Arr3.next ?_ (by assumption) | with_reducible refine Box3.next ?_ (by assumption) | refine Arr3.oth ?_ (by first | (simp; done) | omega | (simp; omega)) _ | refine Box3.oth ?_ (by first | (simp; done) | omega | (simp; omega)) _))) (fun hHeld => ?_)
    clear hK K
    ((try simp only [Act.put]); (try simp only [List.setIfInBounds_toArray]); (try simp only [List.set_cons_succ]); (try simp only [List.set_cons_zero]))
    refine wpAnyH_ready (rs := [9]) (by kernel_rfl) (by simp) ?_
    refine AllReadyH.cons (o := _) rfl (fun K hK => ?_) AllReadyH.nil
    go_simp
    refine (C2.out _).mono ?_
    rintro e z2 ⟨rfl, hy2⟩
    have hzy2 := hy2.size; (try simp at hzy2)
    go_wp2_with fail
    refine hK.out _ _ (by refine cells933 ?_ ?_ ?_ <;> (repeat (first | with_reducible assumption | with_reducible exact Arr9.new _ _ _ _ _ _ _ _ _ _ _ | with_reducible refine Arr9.drew ?_ | with_reducible refine Arr9.drewN ?_ _ | with_reducible refine Arr9.alloc ?_ _ | with_reducible refine Arr9.next ?_ (by assumption) | with_reducible exact Arr.box (by assumption) | with_reducible exact Box.new _ _ _ _ _ _ | with_reducible exact Arr.new _ _ _ _ _ _ | with_reducible refine Arr.drew ?_ | with_reducible refine Arr.drewN ?_ _ | with_reducible refine Arr.store4 ?_ | with_reducible refine Arr.alloc ?_ _ | with_reducible refine Box.drew ?_ | with_reducible refine Box.drewN ?_ _ | with_reducible refine Box.alloc ?_ _ | with_reducible refine Arr.next ?_ (by assumption) | with_reducible refine Box.next ?_ (by assumption) | refine Arr.oth ?_ (by first | (simp; done) | omega | (simp; omega)) _ | refine Box.oth ?_ (by first | (simp; done) | omega | (simp; omega)) _ | with_reducible exact Arr3.box (by assumption) | with_reducible exact Box3.new _ _ _ _ _ | with_reducible exact Arr3.new _ _ _ _ _ | with_reducible refine Arr3.drew ?_ | with_reducible refine Arr3.drewN ?_ _ | with_reducible refine Arr3.store3 ?_ | with_reducible refine Arr3.alloc ?_ _ | with_reducible refine Box3.drew ?_ | with_reducible refine Box3.drewN ?_ _ | with_reducible refine Box3.alloc ?_ _ | with_reducible refine Arr3.next ?_ (by assumption) | with_reducible refine Box3.next ?_ (by assumption) | refine Arr3.oth ?_ (by first | (simp; done) | omega | (simp; omega)) _ | refine Box3.oth ?_ (by first | (simp; done) | omega | (simp; omega)) _))) (fun hHeld => ?_)
    clear hK K
    ((try simp only [Act.put]); (try simp only [List.setIfInBounds_toArray]); (try simp only [List.set_cons_succ]); (try simp only [List.set_cons_zero]))
    refine wpAnyH_take (i := 10) (v := ?_) rfl (by kernel_rfl) (by kernel_rfl) (by kernel_rfl) (fun _ _ _ h => h) (Or.inl ⟨by rfl, ?_⟩) (by assumption) ?_
    rotate_left 1
    · (intro w hSw; (try dsimp only at hSw); go_simp; (first | done | with_reducible rfl))
    ((try simp only [Act.put]); (try simp only [List.setIfInBounds_toArray]); (try simp only [List.set_cons_succ]); (try simp only [List.set_cons_zero]))
    refine wpAnyH_take (i := 11) (v := ?_) rfl (by kernel_rfl) (by kernel_rfl) (by kernel_rfl) (fun _ _ _ h => h) (Or.inl ⟨by rfl, ?_⟩) (by assumption) ?_
    rotate_left 1
    · (intro w hSw; (try dsimp only at hSw); go_simp; (first | done | with_reducible rfl))
    ((try simp only [Act.put]); (try simp only [List.setIfInBounds_toArray]); (try simp only [List.set_cons_succ]); (try simp only [List.set_cons_zero]))
    refine wpAnyH_take (i := 12) (v := undef) rfl (by kernel_rfl) (by kernel_rfl) (by kernel_rfl) (fun _ _ _ h => h) (Or.inr ⟨by kernel_rfl, rfl⟩) (by assumption) ?_
    ((try simp only [Act.put]); (try simp only [List.setIfInBounds_toArray]); (try simp only [List.set_cons_succ]); (try simp only [List.set_cons_zero]))
    refine wpAnyH_take (i := 13) (v := undef) rfl (by kernel_rfl) (by kernel_rfl) (by kernel_rfl) (fun _ _ _ h => h) (Or.inr ⟨by kernel_rfl, rfl⟩) (by assumption) ?_
    ((try simp only [Act.put]); (try simp only [List.setIfInBounds_toArray]); (try simp only [List.set_cons_succ]); (try simp only [List.set_cons_zero]))
    refine wpAnyH_take (i := 14) (v := undef) rfl (by kernel_rfl) (by kernel_rfl) (by kernel_rfl) (fun _ _ _ h => h) (Or.inr ⟨by kernel_rfl, rfl⟩) (by assumption) ?_
    ((try simp only [Act.put]); (try simp only [List.setIfInBounds_toArray]); (try simp only [List.set_cons_succ]); (try simp only [List.set_cons_zero]))
    refine wpAnyH_take (i := 15) (v := undef) rfl (by kernel_rfl) (by kernel_rfl) (by kernel_rfl) (fun _ _ _ h => h) (Or.inr ⟨by kernel_rfl, rfl⟩) (by assumption) ?_
    ((try simp only [Act.put]); (try simp only [List.setIfInBounds_toArray]); (try simp only [List.set_cons_succ]); (try simp only [List.set_cons_zero]))
    refine wpAnyH_take (i := 16) (v := undef) rfl (by kernel_rfl) (by kernel_rfl) (by kernel_rfl) (fun _ _ _ h => h) (Or.inr ⟨by kernel_rfl, rfl⟩) (by assumption) ?_
    ((try simp only [Act.put]); (try simp only [List.setIfInBounds_toArray]); (try simp only [List.set_cons_succ]); (try simp only [List.set_cons_zero]))
    refine wpAnyH_take (i := 17) (v := undef) rfl (by kernel_rfl) (by kernel_rfl) (by kernel_rfl) (fun _ _ _ h => h) (Or.inr ⟨by kernel_rfl, rfl⟩) (by assumption) ?_
    ((try simp only [Act.put]); (try simp only [List.setIfInBounds_toArray]); (try simp only [List.set_cons_succ]); (try simp only [List.set_cons_zero]))
    refine wpAnyH_take (i := 18) (v := undef) rfl (by kernel_rfl) (by kernel_rfl) (by kernel_rfl) (fun _ _ _ h => h) (Or.inr ⟨by kernel_rfl, rfl⟩) (by assumption) ?_
    ((try simp only [Act.put]); (try simp only [List.setIfInBounds_toArray]); (try simp only [List.set_cons_succ]); (try simp only [List.set_cons_zero]))
    refine wpAnyH_take (i := 19) (v := undef) rfl (by kernel_rfl) (by kernel_rfl) (by kernel_rfl) (fun _ _ _ h => h) (Or.inr ⟨by kernel_rfl, rfl⟩) (by assumption) ?_
    ((try simp only [Act.put]); (try simp only [List.setIfInBounds_toArray]); (try simp only [List.set_cons_succ]); (try simp only [List.set_cons_zero]))
    refine wpAnyH_take (i := 20) (v := undef) rfl (by kernel_rfl) (by kernel_rfl) (by kernel_rfl) (fun _ _ _ h => h) (Or.inr ⟨by kernel_rfl, rfl⟩) (by assumption) ?_
    ((try simp only [Act.put]); (try simp only [List.setIfInBounds_toArray]); (try simp only [List.set_cons_succ]); (try simp only [List.set_cons_zero]))
    refine wpAnyH_take (i := 21) (v := undef) rfl (by kernel_rfl) (by kernel_rfl) (by kernel_rfl) (fun _ _ _ h => h) (Or.inr ⟨by kernel_rfl, rfl⟩) (by assumption) ?_
    ((try simp only [Act.put]); (try simp only [List.setIfInBounds_toArray]); (try simp only [List.set_cons_succ]); (try simp only [List.set_cons_zero]))
    refine wpAnyH_take (i := 22) (v := undef) rfl (by kernel_rfl) (by kernel_rfl) (by kernel_rfl) (fun _ _ _ h => h) (Or.inr ⟨by kernel_rfl, rfl⟩) (by assumption) ?_
    ((try simp only [Act.put]); (try simp only [List.setIfInBounds_toArray]); (try simp only [List.set_cons_succ]); (try simp only [List.set_cons_zero]))
    refine wpAnyH_ready (rs := [23]) (by kernel_rfl) (by simp) ?_
    refine AllReadyH.cons (o := _) rfl (fun K hK => ?_) AllReadyH.nil
    go_simp
    refine hK.out _ _ (by refine cells933 ?_ ?_ ?_ <;> (repeat (first | with_reducible assumption | with_reducible exact Arr9.new _ _ _ _ _ _ _ _ _ _ _ | with_reducible refine Arr9.drew ?_ | with_reducible refine Arr9.drewN ?_ _ | with_reducible refine Arr9.alloc ?_ _ | with_reducible refine Arr9.next ?_ (by assumption) | with_reducible exact Arr.box (by assumption) | with_reducible exact Box.new _ _ _ _ _ _ | with_reducible exact Arr.new _ _ _ _ _ _ | with_reducible refine Arr.drew ?_ | with_reducible refine Arr.drewN ?_ _ | with_reducible refine Arr.store4 ?_ | with_reducible refine Arr.alloc ?_ _ | with_reducible refine Box.drew ?_ | with_reducible refine Box.drewN ?_ _ | with_reducible refine Box.alloc ?_ _ | with_reducible refine Arr.next ?_ (by assumption) | with_reducible refine Box.next ?_ (by assumption) | refine Arr.oth ?_ (by first | (simp; done) | omega | (simp; omega)) _ | refine Box.oth ?_ (by first | (simp; done) | omega | (simp; omega)) _ | with_reducible exact Arr3.box (by assumption) | with_reducible exact Box3.new _ _ _ _ _ | with_reducible exact Arr3.new _ _ _ _ _ | with_reducible refine Arr3.drew ?_ | with_reducible refine Arr3.drewN ?_ _ | with_reducible refine Arr3.store3 ?_ | with_reducible refine Arr3.alloc ?_ _ | with_reducible refine Box3.drew ?_ | with_reducible refine Box3.drewN ?_ _ | with_reducible refine Box3.alloc ?_ _ | with_reducible refine Arr3.next ?_ (by assumption) | with_reducible refine Box3.next ?_ (by assumption) | refine Arr3.oth ?_ (by first | (simp; done) | omega | (simp; omega)) _ | refine Box3.oth ?_ (by first | (simp; done) | omega | (simp; omega)) _))) (fun hHeld => ?_)
    clear hK K
    ((try simp only [Act.put]); (try simp only [List.setIfInBounds_toArray]); (try simp only [List.set_cons_succ]); (try simp only [List.set_cons_zero]))
    refine wpAnyH_ready (rs := [24]) (by kernel_rfl) (by simp) ?_
    refine AllReadyH.cons (o := _) rfl (fun K hK => ?_) AllReadyH.nil
    go_simp
    refine hK.out _ _ (by refine cells933 ?_ ?_ ?_ <;> (repeat (first | with_reducible assumption | with_reducible exact Arr9.new _ _ _ _ _ _ _ _ _ _ _ | with_reducible refine Arr9.drew ?_ | with_reducible refine Arr9.drewN ?_ _ | with_reducible refine Arr9.alloc ?_ _ | with_reducible refine Arr9.next ?_ (by assumption) | with_reducible exact Arr.box (by assumption) | with_reducible exact Box.new _ _ _ _ _ _ | with_reducible exact Arr.new _ _ _ _ _ _ | with_reducible refine Arr.drew ?_ | with_reducible refine Arr.drewN ?_ _ | with_reducible refine Arr.store4 ?_ | with_reducible refine Arr.alloc ?_ _ | with_reducible refine Box.drew ?_ | with_reducible refine Box.drewN ?_ _ | with_reducible refine Box.alloc ?_ _ | with_reducible refine Arr.next ?_ (by assumption) | with_reducible refine Box.next ?_ (by assumption) | refine Arr.oth ?_ (by first | (simp; done) | omega | (simp; omega)) _ | refine Box.oth ?_ (by first | (simp; done) | omega | (simp; omega)) _ | with_reducible exact Arr3.box (by assumption) | with_reducible exact Box3.new _ _ _ _ _ | with_reducible exact Arr3.new _ _ _ _ _ | with_reducible refine Arr3.drew ?_ | with_reducible refine Arr3.drewN ?_ _ | with_reducible refine Arr3.store3 ?_ | with_reducible refine Arr3.alloc ?_ _ | with_reducible refine Box3.drew ?_ | with_reducible refine Box3.drewN ?_ _ | with_reducible refine Box3.alloc ?_ _ | with_reducible refine Arr3.next ?_ (by assumption) | with_reducible refine Box3.next ?_ (by assumption) | refine Arr3.oth ?_ (by first | (simp; done) | omega | (simp; omega)) _ | refine Box3.oth ?_ (by first | (simp; done) | omega | (simp; omega)) _))) (fun hHeld => ?_)
    clear hK K
    ((try simp only [Act.put]); (try simp only [List.setIfInBounds_toArray]); (try simp only [List.set_cons_succ]); (try simp only [List.set_cons_zero]))
    refine wpAnyH_done (by kernel_rfl) ?_ _
    go_wp2_with fail
    go_ret
    exact ⟨by kernel_rfl, by (repeat' (first | with_reducible exact Below.refl _ _ | with_reducible assumption | with_reducible refine gr_alloc ?_ _ | with_reducible refine gr_drew ?_ | with_reducible refine gr_drewN ?_ _ | with_reducible refine gr_trans ?_ (by assumption) | with_reducible refine gr_set ?_ ?_ _ | (simp; done) | omega | (simp; omega)))⟩

end Go.Proofs.YtdogkkmdccieiaaDoor

/- Chapter 4: right tables: one way of one side. -/
namespace Go.Proofs.YtdogkkmdccieiaaDoor
open Go.RowKit

set_option maxRecDepth 100000 in
set_option maxHeartbeats 20000000 in
theorem iRight_t (p0 p1 p2 p3 p4 p5 p6 p7 p8 : Int) (w : World) (hb1 : rg1 p0 p1 p2 p3 p4 p5 p6 p7 p8 = true) :
    Calls Tryd.prog 73 #[.agg #[.int .i64 p0, .int .i64 p1, .int .i64 p2, .int .i64 p3, .int .i64 p4, .int .i64 p5, .int .i64 p6, .int .i64 p7, .int .i64 p8]] w fun e w' => e = .returned (.bool (rg1 p0 p1 p2 p3 p4 p5 p6 p7 p8 && rg2 p0 p1 p2 p3 p4 p5 p6 p7 p8)) ∧ Below w.heap.size w w' := by
  have P0 := ((Arr9.new w p0 p1 p2 p3 p4 p5 p6 p7 p8 73).alloc (.cells #[.int .i64 0, .int .i64 1, .int .i64 0] 27)).alloc (.cells #[.int .i64 0, .int .i64 0, .int .i64 1] 27)
  have K0 := (Arr3.new (w.alloc (.cells #[.int .i64 p0, .int .i64 p1, .int .i64 p2, .int .i64 p3, .int .i64 p4, .int .i64 p5, .int .i64 p6, .int .i64 p7, .int .i64 p8] 73)) 0 1 0 27).alloc (.cells #[.int .i64 0, .int .i64 0, .int .i64 1] 27)
  have L0 := Arr3.new ((w.alloc (.cells #[.int .i64 p0, .int .i64 p1, .int .i64 p2, .int .i64 p3, .int .i64 p4, .int .i64 p5, .int .i64 p6, .int .i64 p7, .int .i64 p8] 73)).alloc (.cells #[.int .i64 0, .int .i64 1, .int .i64 0] 27)) 0 0 1 27
  have U0 := gr_alloc (gr_alloc (gr_alloc (Below.refl w.heap.size w) (.cells #[.int .i64 p0, .int .i64 p1, .int .i64 p2, .int .i64 p3, .int .i64 p4, .int .i64 p5, .int .i64 p6, .int .i64 p7, .int .i64 p8] 73)) (.cells #[.int .i64 0, .int .i64 1, .int .i64 0] 27)) (.cells #[.int .i64 0, .int .i64 0, .int .i64 1] 27)
  simp only [World.size_alloc] at K0 L0
  have hq1 := fun W => eqElem_run (m0 p0 p3 p6 p0 p1 p2 0 0 1) (m1 p1 p4 p7 p0 p1 p2 0 0 1) (m2 p2 p5 p8 p0 p1 p2 0 0 1) (m0 p0 p3 p6 0 1 0 p3 p4 p5) (m1 p1 p4 p7 0 1 0 p3 p4 p5) (m2 p2 p5 p8 0 1 0 p3 p4 p5) W
  have hq2 := fun W => eqElem_run (m0 p0 p3 p6 p3 p4 p5 0 0 1) (m1 p1 p4 p7 p3 p4 p5 0 0 1) (m2 p2 p5 p8 p3 p4 p5 0 0 1) (m0 p0 p3 p6 0 1 0 p6 p7 p8) (m1 p1 p4 p7 0 1 0 p6 p7 p8) (m2 p2 p5 p8 0 1 0 p6 p7 p8) W
  have e1 : eq3 (m0 p0 p3 p6 p0 p1 p2 0 0 1) (m1 p1 p4 p7 p0 p1 p2 0 0 1) (m2 p2 p5 p8 p0 p1 p2 0 0 1) (m0 p0 p3 p6 0 1 0 p3 p4 p5) (m1 p1 p4 p7 0 1 0 p3 p4 p5) (m2 p2 p5 p8 0 1 0 p3 p4 p5) = rg1 p0 p1 p2 p3 p4 p5 p6 p7 p8 := rfl
  have e2 : eq3 (m0 p0 p3 p6 p3 p4 p5 0 0 1) (m1 p1 p4 p7 p3 p4 p5 0 0 1) (m2 p2 p5 p8 p3 p4 p5 0 0 1) (m0 p0 p3 p6 0 1 0 p6 p7 p8) (m1 p1 p4 p7 0 1 0 p6 p7 p8) (m2 p2 p5 p8 0 1 0 p6 p7 p8) = rg2 p0 p1 p2 p3 p4 p5 p6 p7 p8 := rfl
  rw [e1] at hq1
  rw [e2] at hq2
  clear e1 e2
  rw [hb1] at hq1 ⊢
  clear hb1
  generalize rg2 p0 p1 p2 p3 p4 p5 p6 p7 p8 = b2 at hq2 ⊢
  have c1 := fun W => iMul_any p0 p1 p2 p3 p4 p5 p6 p7 p8 p0 p1 p2 0 0 1 W
  have c2 := fun W => iMul_any p0 p1 p2 p3 p4 p5 p6 p7 p8 0 1 0 p3 p4 p5 W
  have c3 := fun W => iMul_any p0 p1 p2 p3 p4 p5 p6 p7 p8 p3 p4 p5 0 0 1 W
  have c4 := fun W => iMul_any p0 p1 p2 p3 p4 p5 p6 p7 p8 0 1 0 p6 p7 p8 W
  generalize m0 p0 p3 p6 p0 p1 p2 0 0 1 = x1 at c1 hq1
  generalize m1 p1 p4 p7 p0 p1 p2 0 0 1 = y1 at c1 hq1
  generalize m2 p2 p5 p8 p0 p1 p2 0 0 1 = z1 at c1 hq1
  generalize m0 p0 p3 p6 0 1 0 p3 p4 p5 = x2 at c2 hq1
  generalize m1 p1 p4 p7 0 1 0 p3 p4 p5 = y2 at c2 hq1
  generalize m2 p2 p5 p8 0 1 0 p3 p4 p5 = z2 at c2 hq1
  generalize m0 p0 p3 p6 p3 p4 p5 0 0 1 = x3 at c3 hq2
  generalize m1 p1 p4 p7 p3 p4 p5 0 0 1 = y3 at c3 hq2
  generalize m2 p2 p5 p8 p3 p4 p5 0 0 1 = z3 at c3 hq2
  generalize m0 p0 p3 p6 0 1 0 p6 p7 p8 = x4 at c4 hq2
  generalize m1 p1 p4 p7 0 1 0 p6 p7 p8 = y4 at c4 hq2
  generalize m2 p2 p5 p8 0 1 0 p6 p7 p8 = z4 at c4 hq2
  have C1 := hid c1; have C2 := hid c2; have C3 := hid c3; have C4 := hid c4
  clear c1 c2 c3 c4
  go_enter Tryd.func73, Tryd.ntmps73
  go_upto_region 2 with fail
  generalize ((w.alloc (.cells #[.int .i64 p0, .int .i64 p1, .int .i64 p2, .int .i64 p3, .int .i64 p4, .int .i64 p5, .int .i64 p6, .int .i64 p7, .int .i64 p8] 73)).alloc (.cells #[.int .i64 0, .int .i64 1, .int .i64 0] 27)).alloc (.cells #[.int .i64 0, .int .i64 0, .int .i64 1] 27) = W0 at P0 K0 L0 U0 ⊢
  obtain ⟨_, q0, q1, q2, q3, q4, q5, q6, q7, q8⟩ := id P0
  obtain ⟨_, a0, a1, a2, _⟩ := id K0
  obtain ⟨_, l0, l1, l2, _⟩ := id L0
  have hz := L0.lt
  cases b2
  all_goals (go_region_held3 (fun W => W.cell? ⟨w.heap.size, 0, none⟩ = some (.int .i64 p0) ∧ W.cell? ⟨w.heap.size, 1, none⟩ = some (.int .i64 p1) ∧ W.cell? ⟨w.heap.size, 2, none⟩ = some (.int .i64 p2) ∧ W.cell? ⟨w.heap.size, 3, none⟩ = some (.int .i64 p3) ∧ W.cell? ⟨w.heap.size, 4, none⟩ = some (.int .i64 p4) ∧ W.cell? ⟨w.heap.size, 5, none⟩ = some (.int .i64 p5) ∧ W.cell? ⟨w.heap.size, 6, none⟩ = some (.int .i64 p6) ∧ W.cell? ⟨w.heap.size, 7, none⟩ = some (.int .i64 p7) ∧ W.cell? ⟨w.heap.size, 8, none⟩ = some (.int .i64 p8) ∧ W.cell? ⟨w.heap.size + 1, 0, none⟩ = some (.int .i64 0) ∧ W.cell? ⟨w.heap.size + 1, 1, none⟩ = some (.int .i64 1) ∧ W.cell? ⟨w.heap.size + 1, 2, none⟩ = some (.int .i64 0) ∧ W.cell? ⟨w.heap.size + 1 + 1, 0, none⟩ = some (.int .i64 0) ∧ W.cell? ⟨w.heap.size + 1 + 1, 1, none⟩ = some (.int .i64 0) ∧ W.cell? ⟨w.heap.size + 1 + 1, 2, none⟩ = some (.int .i64 1)) (refine cells933 ?_ ?_ ?_ <;> (repeat (first | with_reducible assumption | with_reducible exact Arr9.new _ _ _ _ _ _ _ _ _ _ _ | with_reducible refine Arr9.drew ?_ | with_reducible refine Arr9.drewN ?_ _ | with_reducible refine Arr9.alloc ?_ _ | with_reducible refine Arr9.next ?_ (by assumption) | with_reducible exact Arr.box (by assumption) | with_reducible exact Box.new _ _ _ _ _ _ | with_reducible exact Arr.new _ _ _ _ _ _ | with_reducible refine Arr.drew ?_ | with_reducible refine Arr.drewN ?_ _ | with_reducible refine Arr.store4 ?_ | with_reducible refine Arr.alloc ?_ _ | with_reducible refine Box.drew ?_ | with_reducible refine Box.drewN ?_ _ | with_reducible refine Box.alloc ?_ _ | with_reducible refine Arr.next ?_ (by assumption) | with_reducible refine Box.next ?_ (by assumption) | refine Arr.oth ?_ (by first | (simp; done) | omega | (simp; omega)) _ | refine Box.oth ?_ (by first | (simp; done) | omega | (simp; omega)) _ | with_reducible exact Arr3.box (by assumption) | with_reducible exact Box3.new _ _ _ _ _ | with_reducible exact Arr3.new _ _ _ _ _ | with_reducible refine Arr3.drew ?_ | with_reducible refine Arr3.drewN ?_ _ | with_reducible refine Arr3.store3 ?_ | with_reducible refine Arr3.alloc ?_ _ | with_reducible refine Box3.drew ?_ | with_reducible refine Box3.drewN ?_ _ | with_reducible refine Box3.alloc ?_ _ | with_reducible refine Arr3.next ?_ (by assumption) | with_reducible refine Box3.next ?_ (by assumption) | refine Arr3.oth ?_ (by first | (simp; done) | omega | (simp; omega)) _ | refine Box3.oth ?_ (by first | (simp; done) | omega | (simp; omega)) _))) (first | (go_at_call_of 74 (Value.agg #[Value.int .i64 p0, Value.int .i64 p1, Value.int .i64 p2]); refine (C1.out _).mono ?_; rintro e w1 ⟨rfl, hbw1⟩; have hzw1 := hbw1.size; (try simp at hzw1)) | (go_at_call_of 74 (Value.agg #[Value.int .i64 p6, Value.int .i64 p7, Value.int .i64 p8]); refine (C4.out _).mono ?_; rintro e w4 ⟨rfl, hbw4⟩; have hzw4 := hbw4.size; (try simp at hzw4)) | (go_at_call_of 74 (Value.agg #[Value.int .i64 0, Value.int .i64 1, Value.int .i64 0]); refine (C2.out _).mono ?_; rintro e w2 ⟨rfl, hbw2⟩; have hzw2 := hbw2.size; (try simp at hzw2)) | (go_at_call_of 74 (Value.agg #[Value.int .i64 p3, Value.int .i64 p4, Value.int .i64 p5]); refine (C3.out _).mono ?_; rintro e w3 ⟨rfl, hbw3⟩; have hzw3 := hbw3.size; (try simp at hzw3))))
  all_goals (go_wp2_with fail; go_ret; exact ⟨ret_bool rfl, by (repeat' (first | with_reducible exact Below.refl _ _ | with_reducible assumption | with_reducible refine gr_alloc ?_ _ | with_reducible refine gr_drew ?_ | with_reducible refine gr_drewN ?_ _ | with_reducible refine gr_trans ?_ (by assumption) | with_reducible refine gr_set ?_ ?_ _ | (simp; done) | omega | (simp; omega)))⟩)

end Go.Proofs.YtdogkkmdccieiaaDoor
