/- Chapter 3: resultants of the program. -/
import Derived.Test.YtigbaelbeaobpaaRes
import Derived.Test.YtigbaelbeaobpaaDet3
import Derived.Test.YtigbaelbeaobpaaZ3
import Derived.Test.YtigbaelbeaobpaaZ5
namespace Go.Proofs.Ytigbaelbeaobpaa
open Go.RowKit

theorem info_sl : (Try.prog.info? 28).map (fun i => (i.zero, i.size, i.bytes)) = some (some (.slice none 0 0), 1, 24) := by kernel_rfl
/-- The table of two forms. -/
def tbl (a b c d e f g h : Int) (i : Nat) : Int := [0, 0, a, b, c, d, 0, 0, e, f, g, h, 0, 0].getD i 0
def Tab (w : World) (T : Nat) (a b c d e f g h : Int) : Prop := T < w.heap.size ∧ ∀ i, i < 14 → w.cell? ⟨T, i, none⟩ = some (.int .i64 (tbl a b c d e f g h i))
theorem Tab.grown {w w' : World} {row : Option Nat} {T : Nat} {a b c d e f g h : Int} (h0 : Tab w T a b c d e f g h) (hg : w.grownBy w' row) (hr : ∀ j, row = some j → T ≠ j) : Tab w' T a b c d e f g h := by
  have hb := hg.block T h0.1 (fun e => hr T e.symm rfl)
  exact ⟨Nat.lt_of_lt_of_le h0.1 hg.size, fun i hi => (World.cell?_of_block (a := ⟨T, i, none⟩) hb).trans (h0.2 i hi)⟩
theorem Tab.alloc {w : World} {T : Nat} {a b c d e f g h : Int} (h0 : Tab w T a b c d e f g h) (o : Obj) : Tab (w.alloc o) T a b c d e f g h := by
  have hb := (Below.refl w.heap.size w).alloc (Nat.le_refl _) o
  exact ⟨Nat.lt_of_lt_of_le h0.1 hb.size, fun i hi => (hb.cell (p := ⟨T, i, none⟩) h0.1).trans (h0.2 i hi)⟩
theorem Tab.new (w : World) (a b c d e f g h : Int) (t : TypeId) : Tab (w.alloc (.cells #[.int .i64 0, .int .i64 0, .int .i64 a, .int .i64 b, .int .i64 c, .int .i64 d, .int .i64 0, .int .i64 0, .int .i64 e, .int .i64 f, .int .i64 g, .int .i64 h, .int .i64 0, .int .i64 0] t)) w.heap.size a b c d e f g h := by
  refine ⟨by simp, fun i hi => ?_⟩
  match i, hi with
  | 0, _ => simp [go_sem, tbl]
  | 1, _ => simp [go_sem, tbl]
  | 2, _ => simp [go_sem, tbl]
  | 3, _ => simp [go_sem, tbl]
  | 4, _ => simp [go_sem, tbl]
  | 5, _ => simp [go_sem, tbl]
  | 6, _ => simp [go_sem, tbl]
  | 7, _ => simp [go_sem, tbl]
  | 8, _ => simp [go_sem, tbl]
  | 9, _ => simp [go_sem, tbl]
  | 10, _ => simp [go_sem, tbl]
  | 11, _ => simp [go_sem, tbl]
  | 12, _ => simp [go_sem, tbl]
  | 13, _ => simp [go_sem, tbl]
theorem rows_of {w : World} {T B : Nat} {v : Value} {a b c d e f g h : Int} (hT : Tab w T a b c d e f g h)
    (hO : w.ownsRow B 28 1 v 6 [.slice (some ⟨T, 2, none⟩) 6 6, .slice (some ⟨T, 1, none⟩) 6 6, .slice (some ⟨T, 0, none⟩) 6 6, .slice (some ⟨T, 8, none⟩) 6 6, .slice (some ⟨T, 7, none⟩) 6 6, .slice (some ⟨T, 6, none⟩) 6 6]) : Rows6 w v (sylR a b c d e f g h) := by
  obtain ⟨a6, c6, rfl, h6m, h6n, h6⟩ := owns_form hO
  obtain ⟨g6, rfl, hg6, h6c⟩ := h6 (by omega)
  refine ⟨g6, c6, rfl, h6n, h6m, hg6, fun i hi => ?_⟩
  match i, hi with
  | 0, _ => exact ⟨T, 2, 6, h6c 0 _ rfl, hT.1, fun j hj => by
      have hc := hT.2 (2 + j) (by omega)
      rw [hc]
      match j, hj with
      | 0, _ => rfl
      | 1, _ => rfl
      | 2, _ => rfl
      | 3, _ => rfl
      | 4, _ => rfl
      | 5, _ => rfl⟩
  | 1, _ => exact ⟨T, 1, 6, h6c 1 _ rfl, hT.1, fun j hj => by
      have hc := hT.2 (1 + j) (by omega)
      rw [hc]
      match j, hj with
      | 0, _ => rfl
      | 1, _ => rfl
      | 2, _ => rfl
      | 3, _ => rfl
      | 4, _ => rfl
      | 5, _ => rfl⟩
  | 2, _ => exact ⟨T, 0, 6, h6c 2 _ rfl, hT.1, fun j hj => by
      have hc := hT.2 (0 + j) (by omega)
      rw [hc]
      match j, hj with
      | 0, _ => rfl
      | 1, _ => rfl
      | 2, _ => rfl
      | 3, _ => rfl
      | 4, _ => rfl
      | 5, _ => rfl⟩
  | 3, _ => exact ⟨T, 8, 6, h6c 3 _ rfl, hT.1, fun j hj => by
      have hc := hT.2 (8 + j) (by omega)
      rw [hc]
      match j, hj with
      | 0, _ => rfl
      | 1, _ => rfl
      | 2, _ => rfl
      | 3, _ => rfl
      | 4, _ => rfl
      | 5, _ => rfl⟩
  | 4, _ => exact ⟨T, 7, 6, h6c 4 _ rfl, hT.1, fun j hj => by
      have hc := hT.2 (7 + j) (by omega)
      rw [hc]
      match j, hj with
      | 0, _ => rfl
      | 1, _ => rfl
      | 2, _ => rfl
      | 3, _ => rfl
      | 4, _ => rfl
      | 5, _ => rfl⟩
  | 5, _ => exact ⟨T, 6, 6, h6c 5 _ rfl, hT.1, fun j hj => by
      have hc := hT.2 (6 + j) (by omega)
      rw [hc]
      match j, hj with
      | 0, _ => rfl
      | 1, _ => rfl
      | 2, _ => rfl
      | 3, _ => rfl
      | 4, _ => rfl
      | 5, _ => rfl⟩

set_option maxRecDepth 100000 in
set_option maxHeartbeats 4000000 in
theorem iRows_any (a b c d e f g h : Int) (w : World) :
    Calls Try.prog 58 #[.agg #[.int .i64 a, .int .i64 b, .int .i64 c, .int .i64 d], .agg #[.int .i64 e, .int .i64 f, .int .i64 g, .int .i64 h]] w fun e' w' => ∃ rv, e' = .returned rv ∧ Rows6 w' rv (sylR a b c d e f g h) ∧ Below w.heap.size w w' := by
  have ix0 : ∀ w : World, (Instr.index 95 (.agg #[.int .i64 2, .int .i64 1, .int .i64 0, .int .i64 8, .int .i64 7, .int .i64 6]) (.int .i64 0)).run Try.prog w = .ok (.int .i64 2) w := fun _ => by kernel_rfl
  have ix1 : ∀ w : World, (Instr.index 95 (.agg #[.int .i64 2, .int .i64 1, .int .i64 0, .int .i64 8, .int .i64 7, .int .i64 6]) (.int .i64 1)).run Try.prog w = .ok (.int .i64 1) w := fun _ => by kernel_rfl
  have ix2 : ∀ w : World, (Instr.index 95 (.agg #[.int .i64 2, .int .i64 1, .int .i64 0, .int .i64 8, .int .i64 7, .int .i64 6]) (.int .i64 2)).run Try.prog w = .ok (.int .i64 0) w := fun _ => by kernel_rfl
  have ix3 : ∀ w : World, (Instr.index 95 (.agg #[.int .i64 2, .int .i64 1, .int .i64 0, .int .i64 8, .int .i64 7, .int .i64 6]) (.int .i64 3)).run Try.prog w = .ok (.int .i64 8) w := fun _ => by kernel_rfl
  have ix4 : ∀ w : World, (Instr.index 95 (.agg #[.int .i64 2, .int .i64 1, .int .i64 0, .int .i64 8, .int .i64 7, .int .i64 6]) (.int .i64 4)).run Try.prog w = .ok (.int .i64 7) w := fun _ => by kernel_rfl
  have ix5 : ∀ w : World, (Instr.index 95 (.agg #[.int .i64 2, .int .i64 1, .int .i64 0, .int .i64 8, .int .i64 7, .int .i64 6]) (.int .i64 5)).run Try.prog w = .ok (.int .i64 6) w := fun _ => by kernel_rfl
  have T0 := Tab.new ((w.alloc (.cells #[.int .i64 a, .int .i64 b, .int .i64 c, .int .i64 d] 25)).alloc (.cells #[.int .i64 e, .int .i64 f, .int .i64 g, .int .i64 h] 25)) a b c d e f g h 2
  have U0 := gr_alloc (gr_alloc (gr_alloc (Below.refl w.heap.size w) (.cells #[.int .i64 a, .int .i64 b, .int .i64 c, .int .i64 d] 25)) (.cells #[.int .i64 e, .int .i64 f, .int .i64 g, .int .i64 h] 25)) (.cells #[.int .i64 0, .int .i64 0, .int .i64 a, .int .i64 b, .int .i64 c, .int .i64 d, .int .i64 0, .int .i64 0, .int .i64 e, .int .i64 f, .int .i64 g, .int .i64 h, .int .i64 0, .int .i64 0] 2)
  simp only [World.size_alloc] at T0
  obtain ⟨i0, hi, hz0, hz1, hz2⟩ := info_parts info_sl
  have HI := hid hi; have HZ0 := hid hz0; have HZ1 := hid hz1; have HZ2 := hid hz2
  clear hi hz0 hz1 hz2
  have HT0 := hid T0; have HU0 := hid U0
  clear T0 U0
  go_enter Try.func58, Try.ntmps58
  go_wp2_with fail
  refine wp_loop_rounds 7 ?_
  rw [rounds_succ]
  go_wp2_with (at_builtin; refine wpList_append_own _ rfl _ _ 80 rfl (w.heap.size + 3) 28 i0 (.slice none 0 0) 1 24 Try.underlying80 HI.out HZ0.out HZ1.out HZ2.out rfl (by decide) _ _ _ rfl ((World.ownsRow_nil _ (w.heap.size + 3) 28 1).alloc _) ⟨w.heap.size + 1 + 1 + 1, 0, none⟩ 1 1 [.slice (some ⟨w.heap.size + 1 + 1, 2, none⟩) 6 6] rfl rfl ?a0 ?b0 ?c0 ?d0 ?e0 ?_)
  case a0 =>
    intro j u hj
    match j, hj with
    | 0, hj => simp at hj; subst hj; simp [Addr.add, go_sem]
  case b0 => first | (intro u hu; simp at hu; subst hu; rfl) | rfl | simp [Value.oneCell']
  case c0 => unfold maxLen; omega
  case d0 => omega
  case e0 => first | omega | (simp; omega) | (simp; done) | (have := HU0.out.size; (try simp); omega)
  intro y0 z0 O0 hg0 _
  have HT1 := hid ((HT0.out.alloc _).grown hg0 (fun j hj => by simp [Value.ownBlock] at hj))
  have HU1 := hid (gr_grown2 (gr_alloc HU0.out _) hg0 (fun j hj => by simp [Value.ownBlock] at hj))
  have hz0 := HT1.out.1
  have HO1 := hid O0
  clear hg0 O0 HT0 HU0
  go_wp2_with fail
  rw [rounds_succ]
  go_wp2_with (at_builtin; refine wpList_append_own _ rfl _ _ 80 rfl (w.heap.size + 3) 28 i0 (.slice none 0 0) 1 24 Try.underlying80 HI.out HZ0.out HZ1.out HZ2.out rfl (by decide) _ _ _ rfl (HO1.out.alloc _) ⟨z0.heap.size, 0, none⟩ 1 1 [.slice (some ⟨w.heap.size + 1 + 1, 1, none⟩) 6 6] rfl rfl ?a1 ?b1 ?c1 ?d1 ?e1 ?_)
  case a1 =>
    intro j u hj
    match j, hj with
    | 0, hj => simp at hj; subst hj; simp [Addr.add, go_sem]
  case b1 => first | (intro u hu; simp at hu; subst hu; rfl) | rfl | simp [Value.oneCell']
  case c1 => unfold maxLen; omega
  case d1 => omega
  case e1 => first | omega | (simp; omega) | (simp; done) | (have := HU1.out.size; (try simp); omega)
  intro y1 z1 O1 hg1 _
  have HT2 := hid ((HT1.out.alloc _).grown hg1 (fun j hj => by have := (HO1.out.lt j hj).1; omega))
  have HU2 := hid (gr_grown2 (gr_alloc HU1.out _) hg1 (fun j hj => by have := (HO1.out.lt j hj).1; omega))
  have hz1 := HT2.out.1
  have HO2 := hid O1
  clear hg1 O1 HT1 HU1 HO1
  go_wp2_with fail
  rw [rounds_succ]
  go_wp2_with (at_builtin; refine wpList_append_own _ rfl _ _ 80 rfl (w.heap.size + 3) 28 i0 (.slice none 0 0) 1 24 Try.underlying80 HI.out HZ0.out HZ1.out HZ2.out rfl (by decide) _ _ _ rfl (HO2.out.alloc _) ⟨z1.heap.size, 0, none⟩ 1 1 [.slice (some ⟨w.heap.size + 1 + 1, 0, none⟩) 6 6] rfl rfl ?a2 ?b2 ?c2 ?d2 ?e2 ?_)
  case a2 =>
    intro j u hj
    match j, hj with
    | 0, hj => simp at hj; subst hj; simp [Addr.add, go_sem]
  case b2 => first | (intro u hu; simp at hu; subst hu; rfl) | rfl | simp [Value.oneCell']
  case c2 => unfold maxLen; omega
  case d2 => omega
  case e2 => first | omega | (simp; omega) | (simp; done) | (have := HU2.out.size; (try simp); omega)
  intro y2 z2 O2 hg2 _
  have HT3 := hid ((HT2.out.alloc _).grown hg2 (fun j hj => by have := (HO2.out.lt j hj).1; omega))
  have HU3 := hid (gr_grown2 (gr_alloc HU2.out _) hg2 (fun j hj => by have := (HO2.out.lt j hj).1; omega))
  have hz2 := HT3.out.1
  have HO3 := hid O2
  clear hg2 O2 HT2 HU2 HO2
  go_wp2_with fail
  rw [rounds_succ]
  go_wp2_with (at_builtin; refine wpList_append_own _ rfl _ _ 80 rfl (w.heap.size + 3) 28 i0 (.slice none 0 0) 1 24 Try.underlying80 HI.out HZ0.out HZ1.out HZ2.out rfl (by decide) _ _ _ rfl (HO3.out.alloc _) ⟨z2.heap.size, 0, none⟩ 1 1 [.slice (some ⟨w.heap.size + 1 + 1, 8, none⟩) 6 6] rfl rfl ?a3 ?b3 ?c3 ?d3 ?e3 ?_)
  case a3 =>
    intro j u hj
    match j, hj with
    | 0, hj => simp at hj; subst hj; simp [Addr.add, go_sem]
  case b3 => first | (intro u hu; simp at hu; subst hu; rfl) | rfl | simp [Value.oneCell']
  case c3 => unfold maxLen; omega
  case d3 => omega
  case e3 => first | omega | (simp; omega) | (simp; done) | (have := HU3.out.size; (try simp); omega)
  intro y3 z3 O3 hg3 _
  have HT4 := hid ((HT3.out.alloc _).grown hg3 (fun j hj => by have := (HO3.out.lt j hj).1; omega))
  have HU4 := hid (gr_grown2 (gr_alloc HU3.out _) hg3 (fun j hj => by have := (HO3.out.lt j hj).1; omega))
  have hz3 := HT4.out.1
  have HO4 := hid O3
  clear hg3 O3 HT3 HU3 HO3
  go_wp2_with fail
  rw [rounds_succ]
  go_wp2_with (at_builtin; refine wpList_append_own _ rfl _ _ 80 rfl (w.heap.size + 3) 28 i0 (.slice none 0 0) 1 24 Try.underlying80 HI.out HZ0.out HZ1.out HZ2.out rfl (by decide) _ _ _ rfl (HO4.out.alloc _) ⟨z3.heap.size, 0, none⟩ 1 1 [.slice (some ⟨w.heap.size + 1 + 1, 7, none⟩) 6 6] rfl rfl ?a4 ?b4 ?c4 ?d4 ?e4 ?_)
  case a4 =>
    intro j u hj
    match j, hj with
    | 0, hj => simp at hj; subst hj; simp [Addr.add, go_sem]
  case b4 => first | (intro u hu; simp at hu; subst hu; rfl) | rfl | simp [Value.oneCell']
  case c4 => unfold maxLen; omega
  case d4 => omega
  case e4 => first | omega | (simp; omega) | (simp; done) | (have := HU4.out.size; (try simp); omega)
  intro y4 z4 O4 hg4 _
  have HT5 := hid ((HT4.out.alloc _).grown hg4 (fun j hj => by have := (HO4.out.lt j hj).1; omega))
  have HU5 := hid (gr_grown2 (gr_alloc HU4.out _) hg4 (fun j hj => by have := (HO4.out.lt j hj).1; omega))
  have hz4 := HT5.out.1
  have HO5 := hid O4
  clear hg4 O4 HT4 HU4 HO4
  go_wp2_with fail
  rw [rounds_succ]
  go_wp2_with (at_builtin; refine wpList_append_own _ rfl _ _ 80 rfl (w.heap.size + 3) 28 i0 (.slice none 0 0) 1 24 Try.underlying80 HI.out HZ0.out HZ1.out HZ2.out rfl (by decide) _ _ _ rfl (HO5.out.alloc _) ⟨z4.heap.size, 0, none⟩ 1 1 [.slice (some ⟨w.heap.size + 1 + 1, 6, none⟩) 6 6] rfl rfl ?a5 ?b5 ?c5 ?d5 ?e5 ?_)
  case a5 =>
    intro j u hj
    match j, hj with
    | 0, hj => simp at hj; subst hj; simp [Addr.add, go_sem]
  case b5 => first | (intro u hu; simp at hu; subst hu; rfl) | rfl | simp [Value.oneCell']
  case c5 => unfold maxLen; omega
  case d5 => omega
  case e5 => first | omega | (simp; omega) | (simp; done) | (have := HU5.out.size; (try simp); omega)
  intro y5 z5 O5 hg5 _
  have HT6 := hid ((HT5.out.alloc _).grown hg5 (fun j hj => by have := (HO5.out.lt j hj).1; omega))
  have HU6 := hid (gr_grown2 (gr_alloc HU5.out _) hg5 (fun j hj => by have := (HO5.out.lt j hj).1; omega))
  have hz5 := HT6.out.1
  have HO6 := hid O5
  clear hg5 O5 HT5 HU5 HO5
  go_wp2_with fail
  rw [rounds_succ]; go_wp2_with fail
  go_ret
  exact ⟨_, rfl, rows_of HT6.out (by simpa using HO6.out), HU6.out⟩

end Go.Proofs.Ytigbaelbeaobpaa
