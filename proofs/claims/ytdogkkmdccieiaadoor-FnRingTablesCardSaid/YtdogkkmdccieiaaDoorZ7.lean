/- Several texts in one: XE4, XRsA, XSgf, XGoto. -/
import Derived.Test.YtdogkkmdccieiaaDoorZ4
import Derived.Test.YtdogkkmdccieiaaDoorDet0
import Derived.Test.YtdogkkmdccieiaaDoorZ2
import Derived.Test.YtdogkkmdccieiaaDoorZ3
import Derived.Test.YtdogkkmdccieiaaDoorZ1
import Derived.ScopeJumps

/- Chapter 4: matrices of elements, the program's. -/
namespace Go.Proofs.YtdogkkmdccieiaaDoor
open Go.RowKit

theorem info_sl : (Tryd.prog.info? 44).map (fun i => (i.zero, i.size, i.bytes)) = some (some (.slice none 0 0), 1, 24) := by kernel_rfl
/-- Three rows of three numbers, each in a block of its own, all laid from B on. -/
def RowsO (B : Nat) (w : World) (v : Value) (M : Nat → Nat → Int) : Prop :=
  ∃ rb cap t0 t1 t2, v = .slice (some ⟨rb, 0, none⟩) 3 cap ∧ 3 ≤ cap ∧ cap ≤ maxLen ∧ B ≤ rb ∧ rb < w.heap.size ∧ B ≤ t0 ∧ B ≤ t1 ∧ B ≤ t2 ∧ t0 < t1 ∧ t1 < t2 ∧ rb ≠ t0 ∧ rb ≠ t1 ∧ rb ≠ t2 ∧
    w.cell? ⟨rb, 0, none⟩ = some (.slice (some ⟨t0, 0, none⟩) 3 3) ∧ w.cell? ⟨rb, 1, none⟩ = some (.slice (some ⟨t1, 0, none⟩) 3 3) ∧ w.cell? ⟨rb, 2, none⟩ = some (.slice (some ⟨t2, 0, none⟩) 3 3) ∧
    Arr3 w t0 (M 0 0) (M 0 1) (M 0 2) ∧ Arr3 w t1 (M 1 0) (M 1 1) (M 1 2) ∧ Arr3 w t2 (M 2 0) (M 2 1) (M 2 2)
theorem RowsO.next {B : Nat} {w w' : World} {v : Value} {M : Nat → Nat → Int} (h : RowsO B w v M) (hb : Below w.heap.size w w') : RowsO B w' v M := by
  obtain ⟨rb, cap, t0, t1, t2, h1, h2, h3, h4, h5, h6, h7, h8, h9, h10, h11, h12, h13, c0, c1, c2, a0, a1, a2⟩ := h
  exact ⟨rb, cap, t0, t1, t2, h1, h2, h3, h4, Nat.lt_of_lt_of_le h5 hb.size, h6, h7, h8, h9, h10, h11, h12, h13, (hb.cell (p := ⟨rb, 0, none⟩) h5).trans c0, (hb.cell (p := ⟨rb, 1, none⟩) h5).trans c1, (hb.cell (p := ⟨rb, 2, none⟩) h5).trans c2, a0.next hb, a1.next hb, a2.next hb⟩
/-- The numbers of the matrix of an element by a table. -/
def mtx (p0 p1 p2 p3 p4 p5 p6 p7 p8 x0 x1 x2 : Int) : Nat → Nat → Int
  | 0, 0 => m0 p0 p3 p6 x0 x1 x2 1 0 0 | 0, 1 => m1 p1 p4 p7 x0 x1 x2 1 0 0 | 0, 2 => m2 p2 p5 p8 x0 x1 x2 1 0 0
  | 1, 0 => m0 p0 p3 p6 x0 x1 x2 0 1 0 | 1, 1 => m1 p1 p4 p7 x0 x1 x2 0 1 0 | 1, 2 => m2 p2 p5 p8 x0 x1 x2 0 1 0
  | 2, 0 => m0 p0 p3 p6 x0 x1 x2 0 0 1 | 2, 1 => m1 p1 p4 p7 x0 x1 x2 0 0 1 | 2, 2 => m2 p2 p5 p8 x0 x1 x2 0 0 1
  | _, _ => 0
def RowsOut (M : Nat → Nat → Int) (w : World) (e : Ending) (w' : World) : Prop := ∃ v, e = .returned v ∧ RowsO w.heap.size w' v M ∧ Below w.heap.size w w'
theorem rowsO_of {w : World} {B B' t0 t1 t2 : Nat} {v : Value} {M : Nat → Nat → Int} {T : TypeId} (hT : T ≠ 44) (hO : w.ownsRow B 44 1 v 3 [.slice (some ⟨t0, 0, none⟩) 3 3, .slice (some ⟨t1, 0, none⟩) 3 3, .slice (some ⟨t2, 0, none⟩) 3 3])
    (b0 : Bx w t0 #[.int .i64 (M 0 0), .int .i64 (M 0 1), .int .i64 (M 0 2)] T) (b1 : Bx w t1 #[.int .i64 (M 1 0), .int .i64 (M 1 1), .int .i64 (M 1 2)] T) (b2 : Bx w t2 #[.int .i64 (M 2 0), .int .i64 (M 2 1), .int .i64 (M 2 2)] T) (hB : B' ≤ B) (h0 : B' ≤ t0) (h01 : t0 < t1) (h12 : t1 < t2) : RowsO B' w v M := by
  have n0 := b0.own hO hT
  have n1 := b1.own hO hT
  have n2 := b2.own hO hT
  have hlt := hO.lt
  obtain ⟨a, cap, rfl, hm, hn, h⟩ := owns_form hO
  obtain ⟨g, rfl, hg, hc⟩ := h (by omega)
  exact ⟨g, cap, t0, t1, t2, rfl, hn, hm, Nat.le_trans hB (hlt g rfl).1, hg, h0, by omega, by omega, h01, h12, n0 g rfl, n1 g rfl, n2 g rfl, hc 0 _ rfl, hc 1 _ rfl, hc 2 _ rfl, b0.arr3, b1.arr3, b2.arr3⟩

set_option maxRecDepth 100000 in
set_option maxHeartbeats 4000000 in
theorem iMatrix_any (p0 p1 p2 p3 p4 p5 p6 p7 p8 x0 x1 x2 : Int) (w : World) :
    Calls Tryd.prog 97 #[.agg #[.int .i64 p0, .int .i64 p1, .int .i64 p2, .int .i64 p3, .int .i64 p4, .int .i64 p5, .int .i64 p6, .int .i64 p7, .int .i64 p8], .agg #[.int .i64 x0, .int .i64 x1, .int .i64 x2]] w (RowsOut (mtx p0 p1 p2 p3 p4 p5 p6 p7 p8 x0 x1 x2) w) := by
  have ix0 : ∀ w : World, (Instr.index 72 (.agg #[.int .i64 1, .int .i64 0, .int .i64 0, .int .i64 0, .int .i64 1, .int .i64 0, .int .i64 0, .int .i64 0, .int .i64 1]) (.int .i64 0)).run Tryd.prog w = .ok (.agg #[.int .i64 1, .int .i64 0, .int .i64 0]) w := fun _ => by kernel_rfl
  have ix1 : ∀ w : World, (Instr.index 72 (.agg #[.int .i64 1, .int .i64 0, .int .i64 0, .int .i64 0, .int .i64 1, .int .i64 0, .int .i64 0, .int .i64 0, .int .i64 1]) (.int .i64 1)).run Tryd.prog w = .ok (.agg #[.int .i64 0, .int .i64 1, .int .i64 0]) w := fun _ => by kernel_rfl
  have ix2 : ∀ w : World, (Instr.index 72 (.agg #[.int .i64 1, .int .i64 0, .int .i64 0, .int .i64 0, .int .i64 1, .int .i64 0, .int .i64 0, .int .i64 0, .int .i64 1]) (.int .i64 2)).run Tryd.prog w = .ok (.agg #[.int .i64 0, .int .i64 0, .int .i64 1]) w := fun _ => by kernel_rfl
  have P0 := (Bx.new w #[.int .i64 p0, .int .i64 p1, .int .i64 p2, .int .i64 p3, .int .i64 p4, .int .i64 p5, .int .i64 p6, .int .i64 p7, .int .i64 p8] 73).alloc (.cells #[.int .i64 x0, .int .i64 x1, .int .i64 x2] 27)
  have X0 := Bx.new (w.alloc (.cells #[.int .i64 p0, .int .i64 p1, .int .i64 p2, .int .i64 p3, .int .i64 p4, .int .i64 p5, .int .i64 p6, .int .i64 p7, .int .i64 p8] 73)) #[.int .i64 x0, .int .i64 x1, .int .i64 x2] 27
  have U0 := gr_alloc (gr_alloc (Below.refl w.heap.size w) (.cells #[.int .i64 p0, .int .i64 p1, .int .i64 p2, .int .i64 p3, .int .i64 p4, .int .i64 p5, .int .i64 p6, .int .i64 p7, .int .i64 p8] 73)) (.cells #[.int .i64 x0, .int .i64 x1, .int .i64 x2] 27)
  simp only [World.size_alloc] at X0
  have hz0 := X0.lt
  have O0 := World.ownsRow_nil ((w.alloc (.cells #[.int .i64 p0, .int .i64 p1, .int .i64 p2, .int .i64 p3, .int .i64 p4, .int .i64 p5, .int .i64 p6, .int .i64 p7, .int .i64 p8] 73)).alloc (.cells #[.int .i64 x0, .int .i64 x1, .int .i64 x2] 27)) (w.heap.size + 2) 44 1
  obtain ⟨i0, hi, hi0, hi1, hi2⟩ := info_parts info_sl
  have HI := hid hi; have HZ0 := hid hi0; have HZ1 := hid hi1; have HZ2 := hid hi2
  clear hi hi0 hi1 hi2
  go_enter Tryd.func97, Tryd.ntmps97
  go_wp2_with fail
  generalize (w.alloc (.cells #[.int .i64 p0, .int .i64 p1, .int .i64 p2, .int .i64 p3, .int .i64 p4, .int .i64 p5, .int .i64 p6, .int .i64 p7, .int .i64 p8] 73)).alloc (.cells #[.int .i64 x0, .int .i64 x1, .int .i64 x2] 27) = W0 at P0 X0 U0 hz0 O0 ⊢
  have hv0 : w.heap.size + 2 ≤ W0.heap.size := by omega
  have HO0 := hid O0; have HU0 := hid U0
  clear O0 U0
  refine wp_loop_rounds 4 ?_
  obtain ⟨_, hp0, hp1, hp2, hp3, hp4, hp5, hp6, hp7, hp8⟩ := (P0.alloc (.cells #[.int .i64 1, .int .i64 0, .int .i64 0] 27)).arr9
  obtain ⟨_, hx0, hx1, hx2, _⟩ := (X0.alloc (.cells #[.int .i64 1, .int .i64 0, .int .i64 0] 27)).arr3
  rw [rounds_succ]
  go_wp2_with fail
  refine (iMul_any p0 p1 p2 p3 p4 p5 p6 p7 p8 x0 x1 x2 1 0 0 _).mono ?_
  rintro e w1 ⟨rfl, hb1⟩
  clear hp0 hp1 hp2 hp3 hp4 hp5 hp6 hp7 hp8 hx0 hx1 hx2
  have hs1 := hb1.size
  simp only [World.size_alloc] at hs1
  have hb1' := ((Below.refl W0.heap.size W0).alloc (Nat.le_refl _) (.cells #[.int .i64 1, .int .i64 0, .int .i64 0] 27)).trans (hb1.mono (by simp))
  have K1 := (HO0.out.kept (row := none) (w' := w1) ⟨hb1'.os, hb1'.tape, hb1'.output, hb1'.size, fun k hk _ => hb1'.block k hk⟩ (by cases (Value.ownBlock _) <;> simp))
  have HK1 := hid K1
  clear K1
  go_wp2_with (at_builtin; refine wpList_append_own _ rfl _ _ 114 rfl (w.heap.size + 2) 44 i0 (.slice none 0 0) 1 24 Tryd.underlying114 HI.out HZ0.out HZ1.out HZ2.out rfl (by decide) _ _ _ rfl ((HK1.out.alloc (.cells #[.int .i64 (m0 p0 p3 p6 x0 x1 x2 1 0 0), .int .i64 (m1 p1 p4 p7 x0 x1 x2 1 0 0), .int .i64 (m2 p2 p5 p8 x0 x1 x2 1 0 0)] 27)).alloc _) ⟨w1.heap.size + 1, 0, none⟩ 1 1 [.slice (some ⟨w1.heap.size, 0, none⟩) 3 3] rfl rfl ?a1 ?b1 ?c1 ?d1 ?e1 ?_)
  case a1 =>
    intro j u hj
    match j, hj with
    | 0, hj => simp at hj; subst hj; simp [Addr.add, go_sem]
  case b1 => first | (intro u hu; simp at hu; subst hu; rfl) | rfl | simp [Value.oneCell']
  case c1 => unfold maxLen; omega
  case d1 => omega
  case e1 => first | omega | (simp; omega)
  intro y1 W1 O1 hg1 _
  have P1 := ((P0.next hb1').alloc (.cells #[.int .i64 (m0 p0 p3 p6 x0 x1 x2 1 0 0), .int .i64 (m1 p1 p4 p7 x0 x1 x2 1 0 0), .int .i64 (m2 p2 p5 p8 x0 x1 x2 1 0 0)] 27)).app (HK1.out.alloc _) (by decide) hg1
  have X1 := ((X0.next hb1').alloc (.cells #[.int .i64 (m0 p0 p3 p6 x0 x1 x2 1 0 0), .int .i64 (m1 p1 p4 p7 x0 x1 x2 1 0 0), .int .i64 (m2 p2 p5 p8 x0 x1 x2 1 0 0)] 27)).app (HK1.out.alloc _) (by decide) hg1
  have B0_1 := (Bx.new w1 #[.int .i64 (m0 p0 p3 p6 x0 x1 x2 1 0 0), .int .i64 (m1 p1 p4 p7 x0 x1 x2 1 0 0), .int .i64 (m2 p2 p5 p8 x0 x1 x2 1 0 0)] 27).app (HK1.out.alloc _) (by decide) hg1
  have HU1 := hid (gr_own (gr_alloc (gr_alloc (HU0.out.trans (hb1'.mono HU0.out.size)) (.cells #[.int .i64 (m0 p0 p3 p6 x0 x1 x2 1 0 0), .int .i64 (m1 p1 p4 p7 x0 x1 x2 1 0 0), .int .i64 (m2 p2 p5 p8 x0 x1 x2 1 0 0)] 27)) _) hg1 (fun j hj => by have := (HK1.out.lt j hj).1; omega))
  have hv1 : w1.heap.size + 2 ≤ W1.heap.size := by have := hg1.size; simpa using this
  have HO1 := hid O1
  clear hg1 O1 HO0 HU0 HK1 hb1 hb1' P0 X0
  go_wp2_with fail
  obtain ⟨_, hp0, hp1, hp2, hp3, hp4, hp5, hp6, hp7, hp8⟩ := (P1.alloc (.cells #[.int .i64 0, .int .i64 1, .int .i64 0] 27)).arr9
  obtain ⟨_, hx0, hx1, hx2, _⟩ := (X1.alloc (.cells #[.int .i64 0, .int .i64 1, .int .i64 0] 27)).arr3
  rw [rounds_succ]
  go_wp2_with fail
  refine (iMul_any p0 p1 p2 p3 p4 p5 p6 p7 p8 x0 x1 x2 0 1 0 _).mono ?_
  rintro e w2 ⟨rfl, hb2⟩
  clear hp0 hp1 hp2 hp3 hp4 hp5 hp6 hp7 hp8 hx0 hx1 hx2
  have hs2 := hb2.size
  simp only [World.size_alloc] at hs2
  have hb2' := ((Below.refl W1.heap.size W1).alloc (Nat.le_refl _) (.cells #[.int .i64 0, .int .i64 1, .int .i64 0] 27)).trans (hb2.mono (by simp))
  have K2 := (HO1.out.kept (row := none) (w' := w2) ⟨hb2'.os, hb2'.tape, hb2'.output, hb2'.size, fun k hk _ => hb2'.block k hk⟩ (by cases (Value.ownBlock _) <;> simp))
  have HK2 := hid K2
  clear K2
  go_wp2_with (at_builtin; refine wpList_append_own _ rfl _ _ 114 rfl (w.heap.size + 2) 44 i0 (.slice none 0 0) 1 24 Tryd.underlying114 HI.out HZ0.out HZ1.out HZ2.out rfl (by decide) _ _ _ rfl ((HK2.out.alloc (.cells #[.int .i64 (m0 p0 p3 p6 x0 x1 x2 0 1 0), .int .i64 (m1 p1 p4 p7 x0 x1 x2 0 1 0), .int .i64 (m2 p2 p5 p8 x0 x1 x2 0 1 0)] 27)).alloc _) ⟨w2.heap.size + 1, 0, none⟩ 1 1 [.slice (some ⟨w2.heap.size, 0, none⟩) 3 3] rfl rfl ?a2 ?b2 ?c2 ?d2 ?e2 ?_)
  case a2 =>
    intro j u hj
    match j, hj with
    | 0, hj => simp at hj; subst hj; simp [Addr.add, go_sem]
  case b2 => first | (intro u hu; simp at hu; subst hu; rfl) | rfl | simp [Value.oneCell']
  case c2 => unfold maxLen; omega
  case d2 => omega
  case e2 => first | omega | (simp; omega)
  intro y2 W2 O2 hg2 _
  have P2 := ((P1.next hb2').alloc (.cells #[.int .i64 (m0 p0 p3 p6 x0 x1 x2 0 1 0), .int .i64 (m1 p1 p4 p7 x0 x1 x2 0 1 0), .int .i64 (m2 p2 p5 p8 x0 x1 x2 0 1 0)] 27)).app (HK2.out.alloc _) (by decide) hg2
  have X2 := ((X1.next hb2').alloc (.cells #[.int .i64 (m0 p0 p3 p6 x0 x1 x2 0 1 0), .int .i64 (m1 p1 p4 p7 x0 x1 x2 0 1 0), .int .i64 (m2 p2 p5 p8 x0 x1 x2 0 1 0)] 27)).app (HK2.out.alloc _) (by decide) hg2
  have B0_2 := ((B0_1.next hb2').alloc (.cells #[.int .i64 (m0 p0 p3 p6 x0 x1 x2 0 1 0), .int .i64 (m1 p1 p4 p7 x0 x1 x2 0 1 0), .int .i64 (m2 p2 p5 p8 x0 x1 x2 0 1 0)] 27)).app (HK2.out.alloc _) (by decide) hg2
  have B1_2 := (Bx.new w2 #[.int .i64 (m0 p0 p3 p6 x0 x1 x2 0 1 0), .int .i64 (m1 p1 p4 p7 x0 x1 x2 0 1 0), .int .i64 (m2 p2 p5 p8 x0 x1 x2 0 1 0)] 27).app (HK2.out.alloc _) (by decide) hg2
  have HU2 := hid (gr_own (gr_alloc (gr_alloc (HU1.out.trans (hb2'.mono HU1.out.size)) (.cells #[.int .i64 (m0 p0 p3 p6 x0 x1 x2 0 1 0), .int .i64 (m1 p1 p4 p7 x0 x1 x2 0 1 0), .int .i64 (m2 p2 p5 p8 x0 x1 x2 0 1 0)] 27)) _) hg2 (fun j hj => by have := (HK2.out.lt j hj).1; omega))
  have hv2 : w2.heap.size + 2 ≤ W2.heap.size := by have := hg2.size; simpa using this
  have HO2 := hid O2
  clear hg2 O2 HO1 HU1 HK2 hb2 hb2' P1 X1 B0_1
  go_wp2_with fail
  obtain ⟨_, hp0, hp1, hp2, hp3, hp4, hp5, hp6, hp7, hp8⟩ := (P2.alloc (.cells #[.int .i64 0, .int .i64 0, .int .i64 1] 27)).arr9
  obtain ⟨_, hx0, hx1, hx2, _⟩ := (X2.alloc (.cells #[.int .i64 0, .int .i64 0, .int .i64 1] 27)).arr3
  rw [rounds_succ]
  go_wp2_with fail
  refine (iMul_any p0 p1 p2 p3 p4 p5 p6 p7 p8 x0 x1 x2 0 0 1 _).mono ?_
  rintro e w3 ⟨rfl, hb3⟩
  clear hp0 hp1 hp2 hp3 hp4 hp5 hp6 hp7 hp8 hx0 hx1 hx2
  have hs3 := hb3.size
  simp only [World.size_alloc] at hs3
  have hb3' := ((Below.refl W2.heap.size W2).alloc (Nat.le_refl _) (.cells #[.int .i64 0, .int .i64 0, .int .i64 1] 27)).trans (hb3.mono (by simp))
  have K3 := (HO2.out.kept (row := none) (w' := w3) ⟨hb3'.os, hb3'.tape, hb3'.output, hb3'.size, fun k hk _ => hb3'.block k hk⟩ (by cases (Value.ownBlock _) <;> simp))
  have HK3 := hid K3
  clear K3
  go_wp2_with (at_builtin; refine wpList_append_own _ rfl _ _ 114 rfl (w.heap.size + 2) 44 i0 (.slice none 0 0) 1 24 Tryd.underlying114 HI.out HZ0.out HZ1.out HZ2.out rfl (by decide) _ _ _ rfl ((HK3.out.alloc (.cells #[.int .i64 (m0 p0 p3 p6 x0 x1 x2 0 0 1), .int .i64 (m1 p1 p4 p7 x0 x1 x2 0 0 1), .int .i64 (m2 p2 p5 p8 x0 x1 x2 0 0 1)] 27)).alloc _) ⟨w3.heap.size + 1, 0, none⟩ 1 1 [.slice (some ⟨w3.heap.size, 0, none⟩) 3 3] rfl rfl ?a3 ?b3 ?c3 ?d3 ?e3 ?_)
  case a3 =>
    intro j u hj
    match j, hj with
    | 0, hj => simp at hj; subst hj; simp [Addr.add, go_sem]
  case b3 => first | (intro u hu; simp at hu; subst hu; rfl) | rfl | simp [Value.oneCell']
  case c3 => unfold maxLen; omega
  case d3 => omega
  case e3 => first | omega | (simp; omega)
  intro y3 W3 O3 hg3 _
  have P3 := ((P2.next hb3').alloc (.cells #[.int .i64 (m0 p0 p3 p6 x0 x1 x2 0 0 1), .int .i64 (m1 p1 p4 p7 x0 x1 x2 0 0 1), .int .i64 (m2 p2 p5 p8 x0 x1 x2 0 0 1)] 27)).app (HK3.out.alloc _) (by decide) hg3
  have X3 := ((X2.next hb3').alloc (.cells #[.int .i64 (m0 p0 p3 p6 x0 x1 x2 0 0 1), .int .i64 (m1 p1 p4 p7 x0 x1 x2 0 0 1), .int .i64 (m2 p2 p5 p8 x0 x1 x2 0 0 1)] 27)).app (HK3.out.alloc _) (by decide) hg3
  have B0_3 := ((B0_2.next hb3').alloc (.cells #[.int .i64 (m0 p0 p3 p6 x0 x1 x2 0 0 1), .int .i64 (m1 p1 p4 p7 x0 x1 x2 0 0 1), .int .i64 (m2 p2 p5 p8 x0 x1 x2 0 0 1)] 27)).app (HK3.out.alloc _) (by decide) hg3
  have B1_3 := ((B1_2.next hb3').alloc (.cells #[.int .i64 (m0 p0 p3 p6 x0 x1 x2 0 0 1), .int .i64 (m1 p1 p4 p7 x0 x1 x2 0 0 1), .int .i64 (m2 p2 p5 p8 x0 x1 x2 0 0 1)] 27)).app (HK3.out.alloc _) (by decide) hg3
  have B2_3 := (Bx.new w3 #[.int .i64 (m0 p0 p3 p6 x0 x1 x2 0 0 1), .int .i64 (m1 p1 p4 p7 x0 x1 x2 0 0 1), .int .i64 (m2 p2 p5 p8 x0 x1 x2 0 0 1)] 27).app (HK3.out.alloc _) (by decide) hg3
  have HU3 := hid (gr_own (gr_alloc (gr_alloc (HU2.out.trans (hb3'.mono HU2.out.size)) (.cells #[.int .i64 (m0 p0 p3 p6 x0 x1 x2 0 0 1), .int .i64 (m1 p1 p4 p7 x0 x1 x2 0 0 1), .int .i64 (m2 p2 p5 p8 x0 x1 x2 0 0 1)] 27)) _) hg3 (fun j hj => by have := (HK3.out.lt j hj).1; omega))
  have hv3 : w3.heap.size + 2 ≤ W3.heap.size := by have := hg3.size; simpa using this
  have HO3 := hid O3
  clear hg3 O3 HO2 HU2 HK3 hb3 hb3' P2 X2 B0_2 B1_2
  go_wp2_with fail
  rw [rounds_succ]; go_wp2_with fail
  go_ret
  exact ⟨_, rfl, rowsO_of (by decide) (B := w.heap.size + 2) (t0 := w1.heap.size) (t1 := w2.heap.size) (t2 := w3.heap.size) (by simpa using HO3.out) B0_3 B1_3 B2_3 (by omega) (by have := HU3.out.size; omega) (by omega) (by omega), HU3.out⟩

end Go.Proofs.YtdogkkmdccieiaaDoor

/- Plain mathematics: determinants of rows. No Go function in sight. -/
namespace Go.Proofs.YtdogkkmdccieiaaDoor
open Go.RowKit

/-- The sum of g c over col ≤ c < col + k. -/
def sumc (g : Nat → Int) : Nat → Nat → Int
  | _, 0 => 0
  | col, k + 1 => g col + sumc g (col + 1) k
theorem sumc_congr {g h : Nat → Int} {col k : Nat} (e : ∀ c, g c = h c) : sumc g col k = sumc h col k := by
  rw [show g = h from funext e]

/-- The number x, its sign turned for each number of the list beyond c; 0 if c is one of them. -/
def sgf : List Nat → Nat → Int → Int
  | [], _, x => x
  | t :: T, c, x => if t = c then 0 else if c < t then sgf T c (-x) else sgf T c x
theorem sgf_zero (T : List Nat) (c : Nat) : sgf T c 0 = 0 := by
  induction T with
  | nil => rfl
  | cons t T ih => simp [sgf, ih]
theorem sgf_mem {T : List Nat} {c : Nat} {x : Int} (h : c ∈ T) : sgf T c x = 0 := by
  induction T generalizing x with
  | nil => cases h
  | cons t T ih =>
    unfold sgf
    by_cases e : t = c
    · simp [e]
    · have hm : c ∈ T := by simpa [Ne.symm e] using h
      simp only [e, if_false]
      split <;> exact ih hm
theorem sgf_bd {T : List Nat} {c : Nat} {x B : Int} (h : -B ≤ x ∧ x ≤ B) : -B ≤ sgf T c x ∧ sgf T c x ≤ B := by
  induction T generalizing x with
  | nil => exact h
  | cons t T ih =>
    unfold sgf
    split
    · omega
    · split
      · exact ih (by omega)
      · exact ih h

/-- The sum of the products of one number from each row that is left, the columns of the first rows being taken. -/
def DS (M : Nat → Nat → Int) (n : Nat) : Nat → List Nat → Int
  | 0, _ => 1
  | r + 1, T => sumc (fun c => sgf T c (M T.length c) * DS M n r (T ++ [c])) 0 n
/-- The same without the numbers that are known to be 0. -/
def DSm (z : Nat → Nat → Bool) (M : Nat → Nat → Int) (n : Nat) : Nat → List Nat → Int
  | 0, _ => 1
  | r + 1, T => sumc (fun c => bif z T.length c && !T.elem c then sgf T c (M T.length c) * DSm z M n r (T ++ [c]) else 0) 0 n
theorem DS_m {z : Nat → Nat → Bool} {M : Nat → Nat → Int} {n : Nat} (h : ∀ i j, z i j = false → M i j = 0) (r : Nat) (T : List Nat) : DS M n r T = DSm z M n r T := by
  induction r generalizing T with
  | zero => rfl
  | succ r ih =>
    unfold DS DSm
    refine sumc_congr fun c => ?_
    by_cases hz : z T.length c = true
    · by_cases hm : c ∈ T
      · simp [sgf_mem hm, hm]
      · simp [hz, hm, ih]
    · have hz' : z T.length c = false := by simpa using hz
      simp [hz', h _ _ hz', sgf_zero]

/-- The determinant by the numbers of the first row. -/
def mnr (M : Nat → Nat → Int) (k : Nat) : Nat → Nat → Int := fun i j => M (i + 1) (if j < k then j else j + 1)
def alt (k : Nat) (x : Int) : Int := if k % 2 = 1 then -x else x
def DL : Nat → (Nat → Nat → Int) → Int
  | 0, _ => 1
  | n + 1, M => sumc (fun k => alt k (M 0 k * DL n (mnr M k))) 0 (n + 1)
def DLm : Nat → (Nat → Nat → Bool) → (Nat → Nat → Int) → Int
  | 0, _, _ => 1
  | n + 1, z, M => sumc (fun k => bif z 0 k then alt k (M 0 k * DLm n (fun i j => z (i + 1) (if j < k then j else j + 1)) (mnr M k)) else 0) 0 (n + 1)
theorem DL_m {n : Nat} {z : Nat → Nat → Bool} {M : Nat → Nat → Int} (h : ∀ i j, z i j = false → M i j = 0) : DL n M = DLm n z M := by
  induction n generalizing z M with
  | zero => rfl
  | succ n ih =>
    unfold DL DLm
    refine sumc_congr fun k => ?_
    have hk := ih (z := fun i j => z (i + 1) (if j < k then j else j + 1)) (M := mnr M k) (fun i j hz => h _ _ hz)
    by_cases hz : z 0 k = true
    · simp [hz, hk]
    · have hz' : z 0 k = false := by simpa using hz
      simp [hz', h _ _ hz', alt]

/-! What is left of the sum while the columns of a list (its last one first) are taken. -/
def rest (M : Nat → Nat → Int) (n : Nat) (T : List Nat) (col : Nat) : Int :=
  match n - T.length with
  | 0 => 1
  | r + 1 => sumc (fun c => sgf T c (M T.length c) * DS M n r (T ++ [c])) col (n - col)
def prd (M : Nat → Nat → Int) : List Nat → Int
  | [] => 1
  | c :: K => prd M K * sgf K.reverse c (M K.length c)
def pnd (M : Nat → Nat → Int) (n : Nat) : List Nat → Int
  | [] => 0
  | c :: K => prd M K * rest M n K.reverse (c + 1) + pnd M n K
theorem rest_full {M : Nat → Nat → Int} {n : Nat} {K : List Nat} {col : Nat} (h : K.length = n) : rest M n K.reverse col = 1 := by
  simp [rest, h]
theorem rest_end {M : Nat → Nat → Int} {n : Nat} {K : List Nat} (h : K.length < n) : rest M n K.reverse n = 0 := by
  unfold rest
  rw [List.length_reverse]
  obtain ⟨r, hr⟩ : ∃ r, n - K.length = r + 1 := ⟨n - K.length - 1, by omega⟩
  rw [hr]
  simp [sumc]
theorem rest_zero {M : Nat → Nat → Int} {n : Nat} {K : List Nat} : rest M n K.reverse 0 = DS M n (n - K.length) K.reverse := by
  unfold rest
  rw [List.length_reverse]
  cases n - K.length with
  | zero => rfl
  | succ r => simp [DS]
theorem rest_step {M : Nat → Nat → Int} {n : Nat} {K : List Nat} {col : Nat} (h : K.length < n) (hc : col < n) :
    rest M n K.reverse col = sgf K.reverse col (M K.length col) * rest M n (col :: K).reverse 0 + rest M n K.reverse (col + 1) := by
  rw [rest_zero]
  unfold rest
  rw [List.length_reverse]
  obtain ⟨r, hr⟩ : ∃ r, n - K.length = r + 1 := ⟨n - K.length - 1, by omega⟩
  obtain ⟨s, hs⟩ : ∃ s, n - col = s + 1 := ⟨n - col - 1, by omega⟩
  have h1 : n - (col + 1) = s := by omega
  have h2 : n - (col :: K).length = r := by rw [List.length_cons]; omega
  rw [hr, h2]
  simp only [hs, h1, sumc, List.reverse_cons]
/-- How far the search still is from its end. -/
def msr (n : Nat) : List Nat → Nat
  | [] => 0
  | c :: K => (n - c) * (n + 2) ^ (n - K.length) + msr n K
def mst (n : Nat) (K : List Nat) (col : Nat) : Nat := (n + 1 - col) * (n + 2) ^ (n - K.length) + msr n K
theorem mst_col {n : Nat} {K : List Nat} {col : Nat} (hc : col < n) : mst n K (col + 1) < mst n K col := by
  unfold mst
  have hp : 0 < (n + 2) ^ (n - K.length) := Nat.pow_pos (by omega)
  have : (n + 1 - col) = (n + 1 - (col + 1)) + 1 := by omega
  rw [this, Nat.add_mul]
  omega
theorem mst_take {n : Nat} {K : List Nat} {col : Nat} (hc : col < n) (hK : K.length < n) : mst n (col :: K) 0 < mst n K col := by
  obtain ⟨r, hr⟩ : ∃ r, n - K.length = r + 1 := ⟨n - K.length - 1, by omega⟩
  have h2 : n - (col :: K).length = r := by rw [List.length_cons]; omega
  have hp : 0 < (n + 2) ^ r := Nat.pow_pos (by omega)
  have key : ∀ A X Y m : Nat, (n + 1) * X < Y → (n + 1) * X + (A * Y + m) < (A + 1) * Y + m := by
    intro A X Y m h
    generalize (n + 1) * X = Z at h ⊢
    rw [Nat.add_mul, Nat.one_mul]
    omega
  have hX : (n + 1) * (n + 2) ^ r < (n + 2) ^ (r + 1) := by
    rw [Nat.pow_succ, Nat.mul_comm ((n + 2) ^ r)]
    exact Nat.mul_lt_mul_of_pos_right (by omega) hp
  have e : n + 1 - col = (n - col) + 1 := by omega
  show (n + 1 - 0) * (n + 2) ^ (n - (col :: K).length) + ((n - col) * (n + 2) ^ (n - K.length) + msr n K) < (n + 1 - col) * (n + 2) ^ (n - K.length) + msr n K
  rw [h2, hr, e, Nat.sub_zero]
  exact key _ _ _ _ hX
theorem mst_back {n c : Nat} {K : List Nat} {col : Nat} (hc : col ≤ n) (hcn : c < n) : mst n K (c + 1) < mst n (c :: K) col := by
  have hp : 0 < (n + 1 - col) * (n + 2) ^ (n - (c :: K).length) := Nat.mul_pos (by omega) (Nat.pow_pos (by omega))
  have e : n + 1 - (c + 1) = n - c := by omega
  show (n + 1 - (c + 1)) * (n + 2) ^ (n - K.length) + msr n K < (n + 1 - col) * (n + 2) ^ (n - (c :: K).length) + ((n - c) * (n + 2) ^ (n - K.length) + msr n K)
  rw [e]
  generalize (n + 1 - col) * (n + 2) ^ (n - (c :: K).length) = Z at hp
  omega

end Go.Proofs.YtdogkkmdccieiaaDoor

/- Chapter 3: the number of a row in a column, with its sign. -/
namespace Go.Proofs.YtdogkkmdccieiaaDoor
open Go.RowKit

/-- A slice of small counts. -/
def RdN (w : World) (v : Value) (L : List Nat) : Prop :=
  (v = .slice none 0 0 ∧ L = []) ∨ ∃ b cap, v = .slice (some ⟨b, 0, none⟩) L.length cap ∧ L.length ≤ cap ∧ cap ≤ maxLen ∧ b < w.heap.size ∧ ∀ i, i < L.length → w.cell? ⟨b, i, none⟩ = some (.int .i64 ((L.getD i 0 : Nat) : Int))
theorem drop_getD {L : List Nat} {k : Nat} (h : k < L.length) : L.drop k = L.getD k 0 :: L.drop (k + 1) := by
  rw [List.drop_eq_getElem_cons h]
  simp [List.getD, h]

set_option maxRecDepth 100000 in
set_option maxHeartbeats 1000000 in
theorem iSgf_any {n : Nat} (tb off cap : Nat) (tv : Value) (L : List Nat) (c : Nat) (x : Int) (w : World) (hrow : w.cell? ⟨tb, off + c, none⟩ = some (.int .i64 x)) (hc : c < n) (hx : -1000000000000 ≤ x ∧ x ≤ 1000000000000) (hT : RdN w tv L) (hL : L.length ≤ 6) (hLb : ∀ i, L.getD i 0 < 1000) :
    Calls Tryd.prog 112 #[.slice (some ⟨tb, off, none⟩) n cap, tv, .int .i64 c] w fun e w' => e = .returned (.int .i64 (sgf L c x)) ∧ w = w' := by
  rcases hT with ⟨rfl, rfl⟩ | ⟨b, cap', rfl, hlc, hcm, hb, hcells⟩
  · go_enter Tryd.func112, Tryd.ntmps112
    go_wp2
    refine wp_loop_rounds 1 ?_
    rw [rounds_succ]; go_wp2
    go_ret
    exact ⟨rfl, rfl⟩
  · have HC := hid hcells
    clear hcells
    unfold maxLen at hcm
    go_enter Tryd.func112, Tryd.ntmps112
    go_wp2
    go_loop [7, 16] (fun f i => ∃ (k : Nat) (y : Int), k ≤ L.length ∧ i = .int .i64 k ∧ f = .int .i64 y ∧ -1000000000000 ≤ y ∧ y ≤ 1000000000000 ∧ sgf (L.drop k) c y = sgf L c x) (fun _ i => L.length - (intOf i).toNat)
    case atStart => exact ⟨0, x, Nat.zero_le _, rfl, rfl, hx.1, hx.2, by simp⟩
    case round =>
      obtain ⟨k, y, hk, rfl, rfl, hy1, hy2, hs⟩ := hrel
      by_cases hlt : k < L.length
      · have hcell := HC.out k hlt
        have hdr := drop_getD hlt
        have htb := hLb k
        generalize L.getD k 0 = t at hcell hdr htb
        rw [hdr] at hs
        simp only [sgf] at hs
        clear hdr
        by_cases e1 : t = c
        · subst e1
          simp only [if_true] at hs
          have HS := hid hs
          clear hs
          go_wp2
          go_ret
          exact ⟨ret_int HS.out, rfl⟩
        · simp only [e1, if_false] at hs
          by_cases e2 : c < t
          · simp only [e2, if_true] at hs
            have HS := hid hs
            clear hs
            go_wp2
            go_round
            case rel => exact ⟨k + 1, -y, by omega, by go_num, by go_num, by omega, by omega, HS.out⟩
            case measure => simp [intOf]; omega
          · simp only [e2, if_false] at hs
            have HS := hid hs
            clear hs
            go_wp2
            go_round
            case rel => exact ⟨k + 1, y, by omega, by go_num, rfl, by omega, by omega, HS.out⟩
            case measure => simp [intOf]; omega
      · have e : L.drop k = [] := List.drop_eq_nil_of_le (by omega)
        rw [e] at hs
        simp only [sgf] at hs
        have HS := hid hs
        clear hs e
        go_wp2
        go_ret
        exact ⟨ret_int HS.out, rfl⟩

end Go.Proofs.YtdogkkmdccieiaaDoor

/- A scope in which the run jumps to and fro between labels. No Go function in sight. -/
namespace Go.Proofs.YtdogkkmdccieiaaDoor
open Go.RowKit

/-- As Q; by a goto to a label: J of it. -/
def jmps (J : Nat → Act → World → Prop) (Q : Exit → Act → World → Prop) : Exit → Act → World → Prop
  | .goto l, a, w => J l a w
  | e, a, w => Q e a w

theorem wp_scope_machine {P : Program} {a : Act} {w : World} {Q : Exit → Act → World → Prop} {c : Code} (J : Nat → Nat → Act → World → Prop)
    (first : c.wp P (jmps (fun l a' w' => ∃ m, J l m a' w') Q) a w)
    (pass : ∀ l m a w, J l m a w → ∃ rest, findLabel c l = some rest ∧ rest.wp P (jmps (fun l' a' w' => ∃ m', m' < m ∧ J l' m' a' w') Q) a w) : (Code.scope c).wp P Q a w := by
  intro b k cs
  have key : ∀ m l a w, J l m a w → ∃ rest, findLabel c l = some rest ∧ ∃ e a' w', Q e a' w' ∧ Arrives P (lone (b.at a (.code rest :: .inScope c :: k)) cs w) b k cs e a' w' := by
    intro m
    induction m using Nat.strongRecOn with
    | _ m ih =>
      intro l a w hJ
      obtain ⟨rest, hf, hp⟩ := pass l m a w hJ
      refine ⟨rest, hf, ?_⟩
      obtain ⟨e, a₁, w₁, hq, harr⟩ := hp b (.inScope c :: k) cs
      cases e with
      | normal => exact ⟨.normal, a₁, w₁, hq, Steps.trans harr (.one step_inScope)⟩
      | exit id => exact ⟨.exit id, a₁, w₁, hq, fun k' hk => harr k' (by simp [exitTo, hk])⟩
      | goto l' =>
        obtain ⟨m', hlt, hJ'⟩ := hq
        obtain ⟨rest₂, hf₂, e₂, a₂, w₂, hq₂, harr₂⟩ := ih m' hlt l' a₁ w₁ hJ'
        have hg : gotoIn l' (.inScope c :: k) = some (.code rest₂ :: .inScope c :: k) := by simp [gotoIn, hf₂]
        exact ⟨e₂, a₂, w₂, hq₂, .of_steps (harr _ hg) harr₂⟩
      | ret => exact ⟨_, a₁, w₁, hq, harr⟩
      | panic ch => exact ⟨_, a₁, w₁, hq, harr⟩
      | outgrown => exact ⟨_, a₁, w₁, hq, harr⟩
  obtain ⟨e, a₁, w₁, hq, harr⟩ := first b (.inScope c :: k) cs
  cases e with
  | normal => exact ⟨.normal, a₁, w₁, hq, .head step_scope (Steps.trans harr (.one step_inScope))⟩
  | exit id => exact ⟨.exit id, a₁, w₁, hq, fun k' hk => .head step_scope (harr k' (by simp [exitTo, hk]))⟩
  | goto l' =>
    obtain ⟨m', hJ'⟩ := hq
    obtain ⟨rest₂, hf₂, e₂, a₂, w₂, hq₂, harr₂⟩ := key m' l' a₁ w₁ hJ'
    have hg : gotoIn l' (.inScope c :: k) = some (.code rest₂ :: .inScope c :: k) := by simp [gotoIn, hf₂]
    exact ⟨e₂, a₂, w₂, hq₂, .of_steps (.head step_scope (harr _ hg)) harr₂⟩
  | ret => exact ⟨_, a₁, w₁, hq, .of_steps (.one step_scope) harr⟩
  | panic ch => exact ⟨_, a₁, w₁, hq, .of_steps (.one step_scope) harr⟩
  | outgrown => exact ⟨_, a₁, w₁, hq, .of_steps (.one step_scope) harr⟩

end Go.Proofs.YtdogkkmdccieiaaDoor
