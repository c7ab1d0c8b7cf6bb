/- Chapter 4: matrices of elements, the program's. -/
import Derived.Test.YtambbhldhhlfgaaE2
import Derived.Test.YtambbhldhhlfgaaBx
import Derived.Test.YtambbhldhhlfgaaDet0
namespace Go.Proofs.Ytambbhldhhlfgaa
open Go.RowKit

theorem info_sl : (Try.prog.info? 40).map (fun i => (i.zero, i.size, i.bytes)) = some (some (.slice none 0 0), 1, 24) := by kernel_rfl
/-- Three rows of three numbers, each in a block of its own, all laid from B on. -/
def RowsO (B : Nat) (w : World) (v : Value) (M : Nat → Nat → Int) : Prop :=
  ∃ rb cap t0 t1 t2, v = .slice (some ⟨rb, 0, none⟩) 3 cap ∧ 3 ≤ cap ∧ cap ≤ maxLen ∧ B ≤ rb ∧ rb < w.heap.size ∧ B ≤ t0 ∧ B ≤ t1 ∧ B ≤ t2 ∧ t0 < t1 ∧ t1 < t2 ∧ rb ≠ t0 ∧ rb ≠ t1 ∧ rb ≠ t2 ∧
    w.cell? ⟨rb, 0, none⟩ = some (.slice (some ⟨t0, 0, none⟩) 3 3) ∧ w.cell? ⟨rb, 1, none⟩ = some (.slice (some ⟨t1, 0, none⟩) 3 3) ∧ w.cell? ⟨rb, 2, none⟩ = some (.slice (some ⟨t2, 0, none⟩) 3 3) ∧
    Arr3 w t0 (M 0 0) (M 0 1) (M 0 2) ∧ Arr3 w t1 (M 1 0) (M 1 1) (M 1 2) ∧ Arr3 w t2 (M 2 0) (M 2 1) (M 2 2)
theorem RowsO.next {B : Nat} {w w' : World} {v : Value} {M : Nat → Nat → Int} (h : RowsO B w v M) (hb : Below w.heap.size w w') : RowsO B w' v M := by
  obtain ⟨rb, cap, t0, t1, t2, h1, h2, h3, h4, h5, h6, h7, h8, h9, h10, h11, h12, h13, c0, c1, c2, a0, a1, a2⟩ := h
  exact ⟨rb, cap, t0, t1, t2, h1, h2, h3, h4, Nat.lt_of_lt_of_le h5 hb.size, h6, h7, h8, h9, h10, h11, h12, h13, (hb.cell (p := ⟨rb, 0, none⟩) h5).trans c0, (hb.cell (p := ⟨rb, 1, none⟩) h5).trans c1, (hb.cell (p := ⟨rb, 2, none⟩) h5).trans c2, a0.next hb, a1.next hb, a2.next hb⟩
/-- The numbers of the matrix of an element by a table. -/
def mtx (p0 p1 p2 p3 p4 p5 p6 p7 p8 x0 x1 x2 : Int) : Nat → Nat → Int
  | 0, 0 => m0 p0 p3 p6 x0 x1 x2 1 0 0 | 0, 1 => m1 p1 p4 p7 x0 x1 x2 1 0 0 | 0, 2 => m2 p2 p5 p8 x0 x1 x2 1 0 0
  | 1, 0 => m0 p0 p3 p6 x0 x1 x2 0 1 0 | 1, 1 => m1 p1 p4 p7 x0 x1 x2 0 1 0 | 1, 2 => m2 p2 p5 p8 x0 x1 x2 0 1 0
  | 2, 0 => m0 p0 p3 p6 x0 x1 x2 0 0 1 | 2, 1 => m1 p1 p4 p7 x0 x1 x2 0 0 1 | 2, 2 => m2 p2 p5 p8 x0 x1 x2 0 0 1
  | _, _ => 0
def RowsOut (M : Nat → Nat → Int) (w : World) (e : Ending) (w' : World) : Prop := ∃ v, e = .returned v ∧ RowsO w.heap.size w' v M ∧ Below w.heap.size w w'
theorem rowsO_of {w : World} {B B' t0 t1 t2 : Nat} {v : Value} {M : Nat → Nat → Int} {T : TypeId} (hT : T ≠ 40) (hO : w.ownsRow B 40 1 v 3 [.slice (some ⟨t0, 0, none⟩) 3 3, .slice (some ⟨t1, 0, none⟩) 3 3, .slice (some ⟨t2, 0, none⟩) 3 3])
    (b0 : Bx w t0 #[.int .i64 (M 0 0), .int .i64 (M 0 1), .int .i64 (M 0 2)] T) (b1 : Bx w t1 #[.int .i64 (M 1 0), .int .i64 (M 1 1), .int .i64 (M 1 2)] T) (b2 : Bx w t2 #[.int .i64 (M 2 0), .int .i64 (M 2 1), .int .i64 (M 2 2)] T) (hB : B' ≤ B) (h0 : B' ≤ t0) (h01 : t0 < t1) (h12 : t1 < t2) : RowsO B' w v M := by
  have n0 := b0.own hO hT
  have n1 := b1.own hO hT
  have n2 := b2.own hO hT
  have hlt := hO.lt
  obtain ⟨a, cap, rfl, hm, hn, h⟩ := owns_form hO
  obtain ⟨g, rfl, hg, hc⟩ := h (by omega)
  exact ⟨g, cap, t0, t1, t2, rfl, hn, hm, Nat.le_trans hB (hlt g rfl).1, hg, h0, by omega, by omega, h01, h12, n0 g rfl, n1 g rfl, n2 g rfl, hc 0 _ rfl, hc 1 _ rfl, hc 2 _ rfl, b0.arr3, b1.arr3, b2.arr3⟩

set_option maxRecDepth 100000 in
set_option maxHeartbeats 4000000 in
theorem iMatrix_any (p0 p1 p2 p3 p4 p5 p6 p7 p8 x0 x1 x2 : Int) (w : World) :
    Calls Try.prog 70 #[.agg #[.int .i64 p0, .int .i64 p1, .int .i64 p2, .int .i64 p3, .int .i64 p4, .int .i64 p5, .int .i64 p6, .int .i64 p7, .int .i64 p8], .agg #[.int .i64 x0, .int .i64 x1, .int .i64 x2]] w (RowsOut (mtx p0 p1 p2 p3 p4 p5 p6 p7 p8 x0 x1 x2) w) := by
  have ix0 : ∀ w : World, (Instr.index 73 (.agg #[.int .i64 1, .int .i64 0, .int .i64 0, .int .i64 0, .int .i64 1, .int .i64 0, .int .i64 0, .int .i64 0, .int .i64 1]) (.int .i64 0)).run Try.prog w = .ok (.agg #[.int .i64 1, .int .i64 0, .int .i64 0]) w := fun _ => by kernel_rfl
  have ix1 : ∀ w : World, (Instr.index 73 (.agg #[.int .i64 1, .int .i64 0, .int .i64 0, .int .i64 0, .int .i64 1, .int .i64 0, .int .i64 0, .int .i64 0, .int .i64 1]) (.int .i64 1)).run Try.prog w = .ok (.agg #[.int .i64 0, .int .i64 1, .int .i64 0]) w := fun _ => by kernel_rfl
  have ix2 : ∀ w : World, (Instr.index 73 (.agg #[.int .i64 1, .int .i64 0, .int .i64 0, .int .i64 0, .int .i64 1, .int .i64 0, .int .i64 0, .int .i64 0, .int .i64 1]) (.int .i64 2)).run Try.prog w = .ok (.agg #[.int .i64 0, .int .i64 0, .int .i64 1]) w := fun _ => by kernel_rfl
  have P0 := (Bx.new w #[.int .i64 p0, .int .i64 p1, .int .i64 p2, .int .i64 p3, .int .i64 p4, .int .i64 p5, .int .i64 p6, .int .i64 p7, .int .i64 p8] 74).alloc (.cells #[.int .i64 x0, .int .i64 x1, .int .i64 x2] 27)
  have X0 := Bx.new (w.alloc (.cells #[.int .i64 p0, .int .i64 p1, .int .i64 p2, .int .i64 p3, .int .i64 p4, .int .i64 p5, .int .i64 p6, .int .i64 p7, .int .i64 p8] 74)) #[.int .i64 x0, .int .i64 x1, .int .i64 x2] 27
  have U0 := gr_alloc (gr_alloc (Below.refl w.heap.size w) (.cells #[.int .i64 p0, .int .i64 p1, .int .i64 p2, .int .i64 p3, .int .i64 p4, .int .i64 p5, .int .i64 p6, .int .i64 p7, .int .i64 p8] 74)) (.cells #[.int .i64 x0, .int .i64 x1, .int .i64 x2] 27)
  simp only [World.size_alloc] at X0
  have hz0 := X0.lt
  have O0 := World.ownsRow_nil ((w.alloc (.cells #[.int .i64 p0, .int .i64 p1, .int .i64 p2, .int .i64 p3, .int .i64 p4, .int .i64 p5, .int .i64 p6, .int .i64 p7, .int .i64 p8] 74)).alloc (.cells #[.int .i64 x0, .int .i64 x1, .int .i64 x2] 27)) (w.heap.size + 2) 40 1
  obtain ⟨i0, hi, hi0, hi1, hi2⟩ := info_parts info_sl
  have HI := hid hi; have HZ0 := hid hi0; have HZ1 := hid hi1; have HZ2 := hid hi2
  clear hi hi0 hi1 hi2
  go_enter Try.func70, Try.ntmps70
  go_wp2_with fail
  generalize (w.alloc (.cells #[.int .i64 p0, .int .i64 p1, .int .i64 p2, .int .i64 p3, .int .i64 p4, .int .i64 p5, .int .i64 p6, .int .i64 p7, .int .i64 p8] 74)).alloc (.cells #[.int .i64 x0, .int .i64 x1, .int .i64 x2] 27) = W0 at P0 X0 U0 hz0 O0 ⊢
  have hv0 : w.heap.size + 2 ≤ W0.heap.size := by omega
  have HO0 := hid O0; have HU0 := hid U0
  clear O0 U0
  refine wp_loop_rounds 4 ?_
  obtain ⟨_, hp0, hp1, hp2, hp3, hp4, hp5, hp6, hp7, hp8⟩ := (P0.alloc (.cells #[.int .i64 1, .int .i64 0, .int .i64 0] 27)).arr9
  obtain ⟨_, hx0, hx1, hx2, _⟩ := (X0.alloc (.cells #[.int .i64 1, .int .i64 0, .int .i64 0] 27)).arr3
  rw [rounds_succ]
  go_wp2_with fail
  refine (iMul_any p0 p1 p2 p3 p4 p5 p6 p7 p8 x0 x1 x2 1 0 0 _).mono ?_
  rintro e w1 ⟨rfl, hb1⟩
  clear hp0 hp1 hp2 hp3 hp4 hp5 hp6 hp7 hp8 hx0 hx1 hx2
  have hs1 := hb1.size
  simp only [World.size_alloc] at hs1
  have hb1' := ((Below.refl W0.heap.size W0).alloc (Nat.le_refl _) (.cells #[.int .i64 1, .int .i64 0, .int .i64 0] 27)).trans (hb1.mono (by simp))
  have K1 := (HO0.out.kept (row := none) (w' := w1) ⟨hb1'.os, hb1'.tape, hb1'.output, hb1'.size, fun k hk _ => hb1'.block k hk⟩ (by cases (Value.ownBlock _) <;> simp))
  have HK1 := hid K1
  clear K1
  go_wp2_with (at_builtin; refine wpList_append_own _ rfl _ _ 44 rfl (w.heap.size + 2) 40 i0 (.slice none 0 0) 1 24 Try.underlying44 HI.out HZ0.out HZ1.out HZ2.out rfl (by decide) _ _ _ rfl ((HK1.out.alloc (.cells #[.int .i64 (m0 p0 p3 p6 x0 x1 x2 1 0 0), .int .i64 (m1 p1 p4 p7 x0 x1 x2 1 0 0), .int .i64 (m2 p2 p5 p8 x0 x1 x2 1 0 0)] 27)).alloc _) ⟨w1.heap.size + 1, 0, none⟩ 1 1 [.slice (some ⟨w1.heap.size, 0, none⟩) 3 3] rfl rfl ?a1 ?b1 ?c1 ?d1 ?e1 ?_)
  case a1 =>
    intro j u hj
    match j, hj with
    | 0, hj => simp at hj; subst hj; simp [Addr.add, go_sem]
  case b1 => first | (intro u hu; simp at hu; subst hu; rfl) | rfl | simp [Value.oneCell']
  case c1 => unfold maxLen; omega
  case d1 => omega
  case e1 => first | omega | (simp; omega)
  intro y1 W1 O1 hg1 _
  have P1 := ((P0.next hb1').alloc (.cells #[.int .i64 (m0 p0 p3 p6 x0 x1 x2 1 0 0), .int .i64 (m1 p1 p4 p7 x0 x1 x2 1 0 0), .int .i64 (m2 p2 p5 p8 x0 x1 x2 1 0 0)] 27)).app (HK1.out.alloc _) (by decide) hg1
  have X1 := ((X0.next hb1').alloc (.cells #[.int .i64 (m0 p0 p3 p6 x0 x1 x2 1 0 0), .int .i64 (m1 p1 p4 p7 x0 x1 x2 1 0 0), .int .i64 (m2 p2 p5 p8 x0 x1 x2 1 0 0)] 27)).app (HK1.out.alloc _) (by decide) hg1
  have B0_1 := (Bx.new w1 #[.int .i64 (m0 p0 p3 p6 x0 x1 x2 1 0 0), .int .i64 (m1 p1 p4 p7 x0 x1 x2 1 0 0), .int .i64 (m2 p2 p5 p8 x0 x1 x2 1 0 0)] 27).app (HK1.out.alloc _) (by decide) hg1
  have HU1 := hid (gr_own (gr_alloc (gr_alloc (HU0.out.trans (hb1'.mono HU0.out.size)) (.cells #[.int .i64 (m0 p0 p3 p6 x0 x1 x2 1 0 0), .int .i64 (m1 p1 p4 p7 x0 x1 x2 1 0 0), .int .i64 (m2 p2 p5 p8 x0 x1 x2 1 0 0)] 27)) _) hg1 (fun j hj => by have := (HK1.out.lt j hj).1; omega))
  have hv1 : w1.heap.size + 2 ≤ W1.heap.size := by have := hg1.size; simpa using this
  have HO1 := hid O1
  clear hg1 O1 HO0 HU0 HK1 hb1 hb1' P0 X0
  go_wp2_with fail
  obtain ⟨_, hp0, hp1, hp2, hp3, hp4, hp5, hp6, hp7, hp8⟩ := (P1.alloc (.cells #[.int .i64 0, .int .i64 1, .int .i64 0] 27)).arr9
  obtain ⟨_, hx0, hx1, hx2, _⟩ := (X1.alloc (.cells #[.int .i64 0, .int .i64 1, .int .i64 0] 27)).arr3
  rw [rounds_succ]
  go_wp2_with fail
  refine (iMul_any p0 p1 p2 p3 p4 p5 p6 p7 p8 x0 x1 x2 0 1 0 _).mono ?_
  rintro e w2 ⟨rfl, hb2⟩
  clear hp0 hp1 hp2 hp3 hp4 hp5 hp6 hp7 hp8 hx0 hx1 hx2
  have hs2 := hb2.size
  simp only [World.size_alloc] at hs2
  have hb2' := ((Below.refl W1.heap.size W1).alloc (Nat.le_refl _) (.cells #[.int .i64 0, .int .i64 1, .int .i64 0] 27)).trans (hb2.mono (by simp))
  have K2 := (HO1.out.kept (row := none) (w' := w2) ⟨hb2'.os, hb2'.tape, hb2'.output, hb2'.size, fun k hk _ => hb2'.block k hk⟩ (by cases (Value.ownBlock _) <;> simp))
  have HK2 := hid K2
  clear K2
  go_wp2_with (at_builtin; refine wpList_append_own _ rfl _ _ 44 rfl (w.heap.size + 2) 40 i0 (.slice none 0 0) 1 24 Try.underlying44 HI.out HZ0.out HZ1.out HZ2.out rfl (by decide) _ _ _ rfl ((HK2.out.alloc (.cells #[.int .i64 (m0 p0 p3 p6 x0 x1 x2 0 1 0), .int .i64 (m1 p1 p4 p7 x0 x1 x2 0 1 0), .int .i64 (m2 p2 p5 p8 x0 x1 x2 0 1 0)] 27)).alloc _) ⟨w2.heap.size + 1, 0, none⟩ 1 1 [.slice (some ⟨w2.heap.size, 0, none⟩) 3 3] rfl rfl ?a2 ?b2 ?c2 ?d2 ?e2 ?_)
  case a2 =>
    intro j u hj
    match j, hj with
    | 0, hj => simp at hj; subst hj; simp [Addr.add, go_sem]
  case b2 => first | (intro u hu; simp at hu; subst hu; rfl) | rfl | simp [Value.oneCell']
  case c2 => unfold maxLen; omega
  case d2 => omega
  case e2 => first | omega | (simp; omega)
  intro y2 W2 O2 hg2 _
  have P2 := ((P1.next hb2').alloc (.cells #[.int .i64 (m0 p0 p3 p6 x0 x1 x2 0 1 0), .int .i64 (m1 p1 p4 p7 x0 x1 x2 0 1 0), .int .i64 (m2 p2 p5 p8 x0 x1 x2 0 1 0)] 27)).app (HK2.out.alloc _) (by decide) hg2
  have X2 := ((X1.next hb2').alloc (.cells #[.int .i64 (m0 p0 p3 p6 x0 x1 x2 0 1 0), .int .i64 (m1 p1 p4 p7 x0 x1 x2 0 1 0), .int .i64 (m2 p2 p5 p8 x0 x1 x2 0 1 0)] 27)).app (HK2.out.alloc _) (by decide) hg2
  have B0_2 := ((B0_1.next hb2').alloc (.cells #[.int .i64 (m0 p0 p3 p6 x0 x1 x2 0 1 0), .int .i64 (m1 p1 p4 p7 x0 x1 x2 0 1 0), .int .i64 (m2 p2 p5 p8 x0 x1 x2 0 1 0)] 27)).app (HK2.out.alloc _) (by decide) hg2
  have B1_2 := (Bx.new w2 #[.int .i64 (m0 p0 p3 p6 x0 x1 x2 0 1 0), .int .i64 (m1 p1 p4 p7 x0 x1 x2 0 1 0), .int .i64 (m2 p2 p5 p8 x0 x1 x2 0 1 0)] 27).app (HK2.out.alloc _) (by decide) hg2
  have HU2 := hid (gr_own (gr_alloc (gr_alloc (HU1.out.trans (hb2'.mono HU1.out.size)) (.cells #[.int .i64 (m0 p0 p3 p6 x0 x1 x2 0 1 0), .int .i64 (m1 p1 p4 p7 x0 x1 x2 0 1 0), .int .i64 (m2 p2 p5 p8 x0 x1 x2 0 1 0)] 27)) _) hg2 (fun j hj => by have := (HK2.out.lt j hj).1; omega))
  have hv2 : w2.heap.size + 2 ≤ W2.heap.size := by have := hg2.size; simpa using this
  have HO2 := hid O2
  clear hg2 O2 HO1 HU1 HK2 hb2 hb2' P1 X1 B0_1
  go_wp2_with fail
  obtain ⟨_, hp0, hp1, hp2, hp3, hp4, hp5, hp6, hp7, hp8⟩ := (P2.alloc (.cells #[.int .i64 0, .int .i64 0, .int .i64 1] 27)).arr9
  obtain ⟨_, hx0, hx1, hx2, _⟩ := (X2.alloc (.cells #[.int .i64 0, .int .i64 0, .int .i64 1] 27)).arr3
  rw [rounds_succ]
  go_wp2_with fail
  refine (iMul_any p0 p1 p2 p3 p4 p5 p6 p7 p8 x0 x1 x2 0 0 1 _).mono ?_
  rintro e w3 ⟨rfl, hb3⟩
  clear hp0 hp1 hp2 hp3 hp4 hp5 hp6 hp7 hp8 hx0 hx1 hx2
  have hs3 := hb3.size
  simp only [World.size_alloc] at hs3
  have hb3' := ((Below.refl W2.heap.size W2).alloc (Nat.le_refl _) (.cells #[.int .i64 0, .int .i64 0, .int .i64 1] 27)).trans (hb3.mono (by simp))
  have K3 := (HO2.out.kept (row := none) (w' := w3) ⟨hb3'.os, hb3'.tape, hb3'.output, hb3'.size, fun k hk _ => hb3'.block k hk⟩ (by cases (Value.ownBlock _) <;> simp))
  have HK3 := hid K3
  clear K3
  go_wp2_with (at_builtin; refine wpList_append_own _ rfl _ _ 44 rfl (w.heap.size + 2) 40 i0 (.slice none 0 0) 1 24 Try.underlying44 HI.out HZ0.out HZ1.out HZ2.out rfl (by decide) _ _ _ rfl ((HK3.out.alloc (.cells #[.int .i64 (m0 p0 p3 p6 x0 x1 x2 0 0 1), .int .i64 (m1 p1 p4 p7 x0 x1 x2 0 0 1), .int .i64 (m2 p2 p5 p8 x0 x1 x2 0 0 1)] 27)).alloc _) ⟨w3.heap.size + 1, 0, none⟩ 1 1 [.slice (some ⟨w3.heap.size, 0, none⟩) 3 3] rfl rfl ?a3 ?b3 ?c3 ?d3 ?e3 ?_)
  case a3 =>
    intro j u hj
    match j, hj with
    | 0, hj => simp at hj; subst hj; simp [Addr.add, go_sem]
  case b3 => first | (intro u hu; simp at hu; subst hu; rfl) | rfl | simp [Value.oneCell']
  case c3 => unfold maxLen; omega
  case d3 => omega
  case e3 => first | omega | (simp; omega)
  intro y3 W3 O3 hg3 _
  have P3 := ((P2.next hb3').alloc (.cells #[.int .i64 (m0 p0 p3 p6 x0 x1 x2 0 0 1), .int .i64 (m1 p1 p4 p7 x0 x1 x2 0 0 1), .int .i64 (m2 p2 p5 p8 x0 x1 x2 0 0 1)] 27)).app (HK3.out.alloc _) (by decide) hg3
  have X3 := ((X2.next hb3').alloc (.cells #[.int .i64 (m0 p0 p3 p6 x0 x1 x2 0 0 1), .int .i64 (m1 p1 p4 p7 x0 x1 x2 0 0 1), .int .i64 (m2 p2 p5 p8 x0 x1 x2 0 0 1)] 27)).app (HK3.out.alloc _) (by decide) hg3
  have B0_3 := ((B0_2.next hb3').alloc (.cells #[.int .i64 (m0 p0 p3 p6 x0 x1 x2 0 0 1), .int .i64 (m1 p1 p4 p7 x0 x1 x2 0 0 1), .int .i64 (m2 p2 p5 p8 x0 x1 x2 0 0 1)] 27)).app (HK3.out.alloc _) (by decide) hg3
  have B1_3 := ((B1_2.next hb3').alloc (.cells #[.int .i64 (m0 p0 p3 p6 x0 x1 x2 0 0 1), .int .i64 (m1 p1 p4 p7 x0 x1 x2 0 0 1), .int .i64 (m2 p2 p5 p8 x0 x1 x2 0 0 1)] 27)).app (HK3.out.alloc _) (by decide) hg3
  have B2_3 := (Bx.new w3 #[.int .i64 (m0 p0 p3 p6 x0 x1 x2 0 0 1), .int .i64 (m1 p1 p4 p7 x0 x1 x2 0 0 1), .int .i64 (m2 p2 p5 p8 x0 x1 x2 0 0 1)] 27).app (HK3.out.alloc _) (by decide) hg3
  have HU3 := hid (gr_own (gr_alloc (gr_alloc (HU2.out.trans (hb3'.mono HU2.out.size)) (.cells #[.int .i64 (m0 p0 p3 p6 x0 x1 x2 0 0 1), .int .i64 (m1 p1 p4 p7 x0 x1 x2 0 0 1), .int .i64 (m2 p2 p5 p8 x0 x1 x2 0 0 1)] 27)) _) hg3 (fun j hj => by have := (HK3.out.lt j hj).1; omega))
  have hv3 : w3.heap.size + 2 ≤ W3.heap.size := by have := hg3.size; simpa using this
  have HO3 := hid O3
  clear hg3 O3 HO2 HU2 HK3 hb3 hb3' P2 X2 B0_2 B1_2
  go_wp2_with fail
  rw [rounds_succ]; go_wp2_with fail
  go_ret
  exact ⟨_, rfl, rowsO_of (by decide) (B := w.heap.size + 2) (t0 := w1.heap.size) (t1 := w2.heap.size) (t2 := w3.heap.size) (by simpa using HO3.out) B0_3 B1_3 B2_3 (by omega) (by have := HU3.out.size; omega) (by omega) (by omega), HU3.out⟩

end Go.Proofs.Ytambbhldhhlfgaa
