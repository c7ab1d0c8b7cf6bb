/- Chapter 10: third powers by the program. -/
import Derived.Test.YtehbkmohfipmgaaBtZ14
import Derived.Laws.EntriesVeiled
namespace Go.Proofs.Ytehbkmohfipmgaa
open Go.RowKit

theorem Arr3.set33o {w : World} {k j : Nat} {a b c : Int} {u v x : Value} (h : Arr3 w k a b c) (hk : k ≠ j) : Arr3 (((w.setCell ⟨j, 0, none⟩ u).setCell ⟨j, 1, none⟩ v).setCell ⟨j, 2, none⟩ x) k a b c := ((h.oth hk u).oth hk v).oth hk x
theorem below_set33 {w w1 : World} {k : Nat} (h : Below w.heap.size w w1) (hk : w.heap.size ≤ k) (u v x : Value) : Below w.heap.size w (((w1.setCell ⟨k, 0, none⟩ u).setCell ⟨k, 1, none⟩ v).setCell ⟨k, 2, none⟩ x) := gr_set (gr_set (gr_set h hk u) hk v) hk x

set_option maxRecDepth 100000 in
set_option maxHeartbeats 4000000 in
theorem pow3_any (c : Qd) (D e : Int) (w : World) (hc : El D c) (hD : -2000 ≤ D) (he : e = 3) : Calls Try.prog 59 #[.agg #[.int .i64 c.1, .int .i64 c.2.1, .int .i64 c.2.2], .int .i64 e, .agg #[.int .i64 ((un D).1), .int .i64 ((un D).2.1), .int .i64 ((un D).2.2)], Value.func (Fn.func 40) #[] #[]] w fun e' w' => e' = .returned (.agg #[.int .i64 ((cp c (cp c c)).1), .int .i64 ((cp c (cp c c)).2.1), .int .i64 ((cp c (cp c c)).2.2)]) ∧ Below w.heap.size w w' := by
  have hu := un_el' hc
  have hcc := (hc.comp hc).1
  have c1 := fun W => comp_any (un D) c D W hu hc hD
  have c2 := fun W => comp_any c c D W hc hc hD
  have c3 := fun W => comp_any c (cp c c) D W hc hcc hD
  have c4 := fun W => comp_any (cp c c) (cp c c) D W hcc hcc hD
  rw [un_cp hc] at c1
  generalize cp (cp c c) (cp c c) = S4 at c4
  generalize cp c (cp c c) = S3 at c3 ⊢
  generalize cp c c = S2 at c2 c3 c4
  generalize un D = U at c1 ⊢
  obtain ⟨x0, x1, x2⟩ := c
  obtain ⟨s0, s1, s2⟩ := S2
  obtain ⟨u0, u1, u2⟩ := U
  obtain ⟨v0, v1, v2⟩ := S4
  obtain ⟨r0, r1, r2⟩ := S3
  have C1 := hid c1; have C2 := hid c2; have C3 := hid c3; have C4 := hid c4
  clear hu hcc c1 c2 c3 c4 hc
  (try dsimp only at C1 C2 C3 C4)
  have t1 : decide ((0 : Int) < e) = true := by rw [he]; rfl
  have t2 : (e.tmod 2 == 1) = true := by rw [he]; rfl
  have t2' : (e % 2 == 1) = true := by rw [he]; rfl
  obtain ⟨e1, he1⟩ : ∃ e1 : Int, e1 = 1 := ⟨_, rfl⟩
  obtain ⟨e2, he2⟩ : ∃ e2 : Int, e2 = 0 := ⟨_, rfl⟩
  have t3 : e.tdiv 2 = e1 := by rw [he, he1]; rfl
  have t3' : e / 2 = e1 := by rw [he, he1]; rfl
  have t4 : decide ((0 : Int) < e1) = true := by rw [he1]; rfl
  have t5 : (e1.tmod 2 == 1) = true := by rw [he1]; rfl
  have t5' : (e1 % 2 == 1) = true := by rw [he1]; rfl
  have t6 : e1.tdiv 2 = e2 := by rw [he1, he2]; rfl
  have t6' : e1 / 2 = e2 := by rw [he1, he2]; rfl
  have t7 : decide ((0 : Int) < e2) = false := by rw [he2]; rfl
  have t8 : -10 ≤ e := by omega
  have t9 : e ≤ 10 := by omega
  have t10 : -10 ≤ e1 := by omega
  have t11 : e1 ≤ 10 := by omega
  clear he he1 he2
  have A0 := ((Arr3.new w x0 x1 x2 25).alloc (.cells #[.int .i64 u0, .int .i64 u1, .int .i64 u2] 25)).alloc (.cells #[.int .i64 0, .int .i64 0, .int .i64 0] 25)
  have V0 := (Arr3.new (w.alloc (.cells #[.int .i64 x0, .int .i64 x1, .int .i64 x2] 25)) u0 u1 u2 25).alloc (.cells #[.int .i64 0, .int .i64 0, .int .i64 0] 25)
  have B0 := Arr3.new ((w.alloc (.cells #[.int .i64 x0, .int .i64 x1, .int .i64 x2] 25)).alloc (.cells #[.int .i64 u0, .int .i64 u1, .int .i64 u2] 25)) 0 0 0 25
  have W0' := gr_alloc (gr_alloc (gr_alloc (Below.refl w.heap.size w) (.cells #[.int .i64 x0, .int .i64 x1, .int .i64 x2] 25)) (.cells #[.int .i64 u0, .int .i64 u1, .int .i64 u2] 25)) (.cells #[.int .i64 0, .int .i64 0, .int .i64 0] 25)
  simp only [World.size_alloc] at V0 B0
  (try dsimp only)
  go_enter Try.func59, Try.ntmps59
  go_upto_region 1 with fail
  generalize hW : ((w.alloc (.cells #[.int .i64 x0, .int .i64 x1, .int .i64 x2] 25)).alloc (.cells #[.int .i64 u0, .int .i64 u1, .int .i64 u2] 25)).alloc (.cells #[.int .i64 0, .int .i64 0, .int .i64 0] 25) = W0 at A0 V0 B0 W0' ⊢
  clear hW
  obtain ⟨_, a0, a1, a2, _⟩ := id A0
  obtain ⟨_, y0, y1, y2, _⟩ := id V0
  have hB := B0.lt
  have o1 : Arr3 ((W0.alloc (.cells #[.int .i64 u0, .int .i64 u1, .int .i64 u2] 25)).alloc (.cells #[.int .i64 x0, .int .i64 x1, .int .i64 x2] 25)) W0.heap.size u0 u1 u2 ∧ Arr3 ((W0.alloc (.cells #[.int .i64 u0, .int .i64 u1, .int .i64 u2] 25)).alloc (.cells #[.int .i64 x0, .int .i64 x1, .int .i64 x2] 25)) (W0.heap.size + 1) x0 x1 x2 := by
    refine ⟨(Arr3.new _ _ _ _ _).alloc _, ?_⟩
    have := Arr3.new (W0.alloc (.cells #[.int .i64 u0, .int .i64 u1, .int .i64 u2] 25)) x0 x1 x2 25
    simpa only [World.size_alloc] using this
  have o2 : Arr3 ((W0.alloc (.cells #[.int .i64 x0, .int .i64 x1, .int .i64 x2] 25)).alloc (.cells #[.int .i64 u0, .int .i64 u1, .int .i64 u2] 25)) W0.heap.size x0 x1 x2 ∧ Arr3 ((W0.alloc (.cells #[.int .i64 x0, .int .i64 x1, .int .i64 x2] 25)).alloc (.cells #[.int .i64 u0, .int .i64 u1, .int .i64 u2] 25)) (W0.heap.size + 1) u0 u1 u2 := by
    refine ⟨(Arr3.new _ _ _ _ _).alloc _, ?_⟩
    have := Arr3.new (W0.alloc (.cells #[.int .i64 x0, .int .i64 x1, .int .i64 x2] 25)) u0 u1 u2 25
    simpa only [World.size_alloc] using this
  go_cut [9, 10] (fun s9 s10 wx => ∃ k9 k10 : Nat, s9 = .pointer (some ⟨k9, 0, none⟩) ∧ s10 = .pointer (some ⟨k10, 0, none⟩) ∧ k9 ≠ k10 ∧ w.heap.size + 1 + 1 < k9 ∧ w.heap.size + 1 + 1 < k10 ∧ Arr3 wx k9 u0 u1 u2 ∧ Arr3 wx k10 x0 x1 x2 ∧ Arr3 wx (w.heap.size + 1 + 1) 0 0 0 ∧ Below w.heap.size w wx)
  case first =>
    go_region
    all_goals (go_wp2; go_meet; first | exact ⟨_, _, rfl, rfl, by omega, by omega, by omega, o1.1.drew, o1.2.drew, ((B0.alloc _).alloc _).drew, gr_drew (gr_alloc (gr_alloc W0' _) _)⟩ | exact ⟨_, _, rfl, rfl, by omega, by omega, by omega, o2.2.drew, o2.1.drew, ((B0.alloc _).alloc _).drew, gr_drew (gr_alloc (gr_alloc W0' _) _)⟩)
  case rest =>
    obtain ⟨k9, k10, rfl, rfl, hne, h9, h10, K9, K10, B1, U1⟩ := hcut
    clear a0 a1 a2 y0 y1 y2 A0 V0 B0 W0' hB o1 o2
    have h10' : k10 ≠ k9 := fun e => hne e.symm
    have h8 : w.heap.size + 1 + 1 ≠ k9 := by omega
    have h8' : w.heap.size + 1 + 1 ≠ k10 := by omega
    generalize hn8 : w.heap.size + 1 + 1 = n8 at *
    have l9 : w.heap.size ≤ k9 := by omega
    have l10 : w.heap.size ≤ k10 := by omega
    have HN8 := hid hn8
    clear hn8
    obtain ⟨_, a0, a1, a2, f0, f1, f2⟩ := id K9
    obtain ⟨_, b0, b1, b2, g0, g1, g2⟩ := id K10
    go_wp2_with fail
    refine wp_loop_rounds 3 ?_
    rw [rounds_succ]; go_wp2_with fail
    refine (C1.out _).mono ?_
    rintro e' w1 ⟨rfl, hb1⟩
    have P1 := Arr3.set33 (x := x0) (y := x1) (z := x2) (K9.next hb1)
    have Q1 := Arr3.set33o (u := .int .i64 x0) (v := .int .i64 x1) (x := .int .i64 x2) (K10.next hb1) h10'
    have R1 := Arr3.set33o (u := .int .i64 x0) (v := .int .i64 x1) (x := .int .i64 x2) (B1.next hb1) h8
    have G1 := below_set33 (gr_trans U1 hb1) l9 (.int .i64 x0) (.int .i64 x1) (.int .i64 x2)
    clear a0 a1 a2 f0 f1 f2 b0 b1 b2 g0 g1 g2
    obtain ⟨_, a0, a1, a2, f0, f1, f2⟩ := id (K9.next hb1)
    obtain ⟨_, b0, b1, b2, g0, g1, g2⟩ := id (K10.next hb1)
    go_wp2_with fail
    refine (C2.out _).mono ?_
    rintro e' w2 ⟨rfl, hb2⟩
    have P2 := Arr3.set33o (u := .int .i64 s0) (v := .int .i64 s1) (x := .int .i64 s2) (P1.next hb2) hne
    have Q2 := Arr3.set33 (x := s0) (y := s1) (z := s2) (Q1.next hb2)
    have R2 := Arr3.set33o (u := .int .i64 s0) (v := .int .i64 s1) (x := .int .i64 s2) (R1.next hb2) h8'
    have G2 := below_set33 (gr_trans G1 hb2) l10 (.int .i64 s0) (.int .i64 s1) (.int .i64 s2)
    clear a0 a1 a2 f0 f1 f2 b0 b1 b2 g0 g1 g2
    obtain ⟨_, a0, a1, a2, f0, f1, f2⟩ := id (P1.next hb2)
    obtain ⟨_, b0, b1, b2, g0, g1, g2⟩ := id (Q1.next hb2)
    go_wp2_with fail
    rw [rounds_succ]; go_wp2_with fail
    refine (C3.out _).mono ?_
    rintro e' w3 ⟨rfl, hb3⟩
    have P3 := Arr3.set33 (x := r0) (y := r1) (z := r2) (P2.next hb3)
    have Q3 := Arr3.set33o (u := .int .i64 r0) (v := .int .i64 r1) (x := .int .i64 r2) (Q2.next hb3) h10'
    have R3 := Arr3.set33o (u := .int .i64 r0) (v := .int .i64 r1) (x := .int .i64 r2) (R2.next hb3) h8
    have G3 := below_set33 (gr_trans G2 hb3) l9 (.int .i64 r0) (.int .i64 r1) (.int .i64 r2)
    clear a0 a1 a2 f0 f1 f2 b0 b1 b2 g0 g1 g2
    obtain ⟨_, a0, a1, a2, f0, f1, f2⟩ := id (P2.next hb3)
    obtain ⟨_, b0, b1, b2, g0, g1, g2⟩ := id (Q2.next hb3)
    go_wp2_with fail
    refine (C4.out _).mono ?_
    rintro e' w4 ⟨rfl, hb4⟩
    have P4 := Arr3.set33o (u := .int .i64 v0) (v := .int .i64 v1) (x := .int .i64 v2) (P3.next hb4) hne
    have R4 := Arr3.set33o (u := .int .i64 v0) (v := .int .i64 v1) (x := .int .i64 v2) (R3.next hb4) h8'
    have G4 := below_set33 (gr_trans G3 hb4) l10 (.int .i64 v0) (.int .i64 v1) (.int .i64 v2)
    clear a0 a1 a2 f0 f1 f2 b0 b1 b2 g0 g1 g2
    obtain ⟨_, a0, a1, a2, f0, f1, f2⟩ := id (P3.next hb4)
    obtain ⟨_, b0, b1, b2, g0, g1, g2⟩ := id (Q3.next hb4)
    obtain ⟨_, z0, z1, z2, j0, j1, j2⟩ := id (R3.next hb4)
    go_wp2_with fail
    rw [rounds_succ]; go_wp2_with fail
    refine bodyPost_ret (res_A31 (e := 2) rfl Try.underlying25 (by kernel_rfl) rfl (by (repeat (first | with_reducible assumption | with_reducible exact Arr.box (by assumption) | with_reducible exact Box.new _ _ _ _ _ _ | with_reducible exact Arr.new _ _ _ _ _ _ | with_reducible refine Arr.drew ?_ | with_reducible refine Arr.drewN ?_ _ | with_reducible refine Arr.store4 ?_ | with_reducible refine Arr.alloc ?_ _ | with_reducible refine Box.drew ?_ | with_reducible refine Box.drewN ?_ _ | with_reducible refine Box.alloc ?_ _ | with_reducible refine Arr.next ?_ (by assumption) | with_reducible refine Box.next ?_ (by assumption) | refine Arr.oth ?_ (by first | (simp; done) | omega | (simp; omega)) _ | refine Box.oth ?_ (by first | (simp; done) | omega | (simp; omega)) _ | with_reducible exact Arr3.box (by assumption) | with_reducible exact Box3.new _ _ _ _ _ | with_reducible exact Arr3.new _ _ _ _ _ | with_reducible refine Arr3.drew ?_ | with_reducible refine Arr3.drewN ?_ _ | with_reducible refine Arr3.store3 ?_ | with_reducible refine Arr3.alloc ?_ _ | with_reducible refine Box3.drew ?_ | with_reducible refine Box3.drewN ?_ _ | with_reducible refine Box3.alloc ?_ _ | with_reducible refine Arr3.next ?_ (by assumption) | with_reducible refine Box3.next ?_ (by assumption) | refine Arr3.oth ?_ (by first | (simp; done) | omega | (simp; omega)) _ | refine Box3.oth ?_ (by first | (simp; done) | omega | (simp; omega)) _)))) rfl ?_
    exact ⟨rfl, below_set33 G4 (by have := HN8.out; omega) _ _ _⟩

end Go.Proofs.Ytehbkmohfipmgaa
