/- Chapter 10: ComposeQuadratics. -/
import Derived.Test.YtehbkmohfipmgaaBtWa
import Derived.Test.YtehbkmohfipmgaaBtZm
namespace Go.Proofs.Ytehbkmohfipmgaa
open Go.RowKit

theorem el_red {a b c : Int} (h : df10 a b c = true) : El (dsq (a, b, c)) (red (a, b, c)) ∧ -2000 ≤ dsq (a, b, c) ∧ Sm (a, b, c) ∧ Pos (dsq (a, b, c)) (a, b, c) ∧ dq a b c = dsq (a, b, c) := by
  obtain ⟨h1, h2, h3, h4, h5⟩ := df_pos h
  have hp : Pri (a, b, c) := h5
  exact ⟨⟨rdd_red h1, hp.eqv (Eqv.red _), (Eqv.red _).dsq, h1.2.2⟩, h2, h3, h1, h4⟩
theorem dc2_0 {a b c x y z : Int} : dc2 a b c x y z = 0 ↔ (isQ a b c = true ∧ isQ x y z = true) ∧ df10 a b c = true ∧ df10 x y z = true ∧ dq x y z = dq a b c := by
  unfold dc2
  cases isQ a b c <;> cases isQ x y z <;> cases df10 a b c <;> cases df10 x y z <;> simp
noncomputable def cpq (a b c x y z : Int) : Qd := if dc2 a b c x y z = 0 then cp (red (a, b, c)) (red (x, y, z)) else (0, 0, 0)
theorem two_el {a b c x y z : Int} (h : dc2 a b c x y z = 0) : ∃ D, (El D (red (a, b, c)) ∧ Pos D (a, b, c) ∧ Sm (a, b, c)) ∧ (El D (red (x, y, z)) ∧ Pos D (x, y, z) ∧ Sm (x, y, z)) ∧ -2000 ≤ D := by
  obtain ⟨_, h1, h2, h3⟩ := dc2_0.1 h
  obtain ⟨k1, k2, k3, k4, k5⟩ := el_red h1
  obtain ⟨l1, l2, l3, l4, l5⟩ := el_red h2
  have e : dsq (x, y, z) = dsq (a, b, c) := by rw [← k5, ← l5]; exact h3
  rw [e] at l1 l4
  exact ⟨_, ⟨k1, k4, k3⟩, ⟨l1, l4, l3⟩, k2⟩

set_option maxRecDepth 100000 in
set_option maxHeartbeats 4000000 in
theorem iCompQ_any (a b c x y z : Int) (w : World) : Calls Try.prog 7 #[.agg #[.int .i64 a, .int .i64 b, .int .i64 c], .agg #[.int .i64 x, .int .i64 y, .int .i64 z]] w fun e w' => e = .returned (.tuple #[.agg #[.int .i64 ((cpq a b c x y z).1), .int .i64 ((cpq a b c x y z).2.1), .int .i64 ((cpq a b c x y z).2.2)], .int .i64 (dc2 a b c x y z)]) ∧ Below w.heap.size w w' := by
  have A0 := ((Arr3.new w a b c 25).alloc (.cells #[.int .i64 x, .int .i64 y, .int .i64 z] 25)).alloc (.cells #[.int .i64 0, .int .i64 0, .int .i64 0] 25)
  have X0 := (Arr3.new (w.alloc (.cells #[.int .i64 a, .int .i64 b, .int .i64 c] 25)) x y z 25).alloc (.cells #[.int .i64 0, .int .i64 0, .int .i64 0] 25)
  have B0 := Arr3.new ((w.alloc (.cells #[.int .i64 a, .int .i64 b, .int .i64 c] 25)).alloc (.cells #[.int .i64 x, .int .i64 y, .int .i64 z] 25)) 0 0 0 25
  have U0 := gr_alloc (gr_alloc (gr_alloc (Below.refl w.heap.size w) (.cells #[.int .i64 a, .int .i64 b, .int .i64 c] 25)) (.cells #[.int .i64 x, .int .i64 y, .int .i64 z] 25)) (.cells #[.int .i64 0, .int .i64 0, .int .i64 0] 25)
  simp only [World.size_alloc] at X0 B0
  have hc := fun k W h h' => iCode2_any k a b c x y z W h h'
  have hk : dc2 a b c x y z = 0 → ∃ u v : Qd, (∀ W, Calls Try.prog 41 #[.agg #[.int .i64 a, .int .i64 b, .int .i64 c]] W fun e w' => e = .returned (.agg #[.int .i64 u.1, .int .i64 u.2.1, .int .i64 u.2.2]) ∧ Below W.heap.size W w') ∧ (∀ W, Calls Try.prog 41 #[.agg #[.int .i64 x, .int .i64 y, .int .i64 z]] W fun e w' => e = .returned (.agg #[.int .i64 v.1, .int .i64 v.2.1, .int .i64 v.2.2]) ∧ Below W.heap.size W w') ∧ (∀ W, Calls Try.prog 40 #[.agg #[.int .i64 u.1, .int .i64 u.2.1, .int .i64 u.2.2], .agg #[.int .i64 v.1, .int .i64 v.2.1, .int .i64 v.2.2]] W fun e w' => e = .returned (.agg #[.int .i64 ((cpq a b c x y z).1), .int .i64 ((cpq a b c x y z).2.1), .int .i64 ((cpq a b c x y z).2.2)]) ∧ Below W.heap.size W w') := fun h => by
    obtain ⟨D, ⟨h1, h2, h3⟩, ⟨h4, h5, h6⟩, hD⟩ := two_el h
    refine ⟨red (a, b, c), red (x, y, z), fun W => reduced_any a b c D W h2 hD h3, fun W => reduced_any x y z D W h5 hD h6, fun W => ?_⟩
    have e : cpq a b c x y z = cp (red (a, b, c)) (red (x, y, z)) := if_pos h
    rw [e]
    exact comp_any _ _ D W h1 h4 hD
  have h0 : dc2 a b c x y z ≠ 0 → cpq a b c x y z = (0, 0, 0) := fun h => if_neg h
  generalize cpq a b c x y z = RS at hk h0 ⊢
  generalize dc2 a b c x y z = k at hc hk h0 ⊢
  have HC := hid hc; have HK := hid hk; have H0 := hid h0
  clear hc hk h0
  go_enter Try.func7, Try.ntmps7
  go_upto_region 1 with fail
  generalize hW : ((w.alloc (.cells #[.int .i64 a, .int .i64 b, .int .i64 c] 25)).alloc (.cells #[.int .i64 x, .int .i64 y, .int .i64 z] 25)).alloc (.cells #[.int .i64 0, .int .i64 0, .int .i64 0] 25) = W0 at A0 X0 B0 U0 ⊢
  clear hW
  obtain ⟨_, a0, a1, a2, _⟩ := id A0
  obtain ⟨_, x0, x1, x2, _⟩ := id X0
  obtain ⟨S1, S2⟩ := At3c.six (w := W0) (a := a) (b := b) (c := c) (x := x) (y := y) (z := z) (T := 25)
  have A1 := A0.alloc (.cells #[.int .i64 a, .int .i64 b, .int .i64 c, .int .i64 x, .int .i64 y, .int .i64 z] 25)
  have X1 := X0.alloc (.cells #[.int .i64 a, .int .i64 b, .int .i64 c, .int .i64 x, .int .i64 y, .int .i64 z] 25)
  have B1 := B0.alloc (.cells #[.int .i64 a, .int .i64 b, .int .i64 c, .int .i64 x, .int .i64 y, .int .i64 z] 25)
  have U1 := gr_alloc U0 (.cells #[.int .i64 a, .int .i64 b, .int .i64 c, .int .i64 x, .int .i64 y, .int .i64 z] 25)
  go_wp2_with fail
  refine (HC.out _ _ S1 S2).mono ?_
  rintro e w1 ⟨rfl, hb1⟩
  have A2 := A1.next hb1
  have X2 := X1.next hb1
  have B2 := B1.next hb1
  have U2 := gr_trans U1 hb1
  clear a0 a1 a2 x0 x1 x2 A0 X0 B0 U0 A1 X1 B1 U1 S1 S2
  by_cases hk : k = 0
  · obtain ⟨⟨u0, u1, u2⟩, ⟨v0, v1, v2⟩, k1, k2, k3⟩ := HK.out hk
    obtain ⟨z0, z1, z2⟩ := RS
    have K1 := hid k1; have K2 := hid k2; have K3 := hid k3
    clear k1 k2 k3
    (try dsimp only at K1 K2 K3)
    subst hk
    obtain ⟨_, a0, a1, a2, _⟩ := id A2
    obtain ⟨_, x0, x1, x2, _⟩ := id X2
    have HB := hid B2
    clear B2
    (try dsimp only)
    go_upto_region 4 with fail
    go_region_held3 (fun W => W.cell? ⟨w.heap.size, 0, none⟩ = some (.int .i64 a) ∧ W.cell? ⟨w.heap.size, 1, none⟩ = some (.int .i64 b) ∧ W.cell? ⟨w.heap.size, 2, none⟩ = some (.int .i64 c) ∧ W.cell? ⟨w.heap.size + 1, 0, none⟩ = some (.int .i64 x) ∧ W.cell? ⟨w.heap.size + 1, 1, none⟩ = some (.int .i64 y) ∧ W.cell? ⟨w.heap.size + 1, 2, none⟩ = some (.int .i64 z)) (refine cells33q ?_ ?_ <;> (repeat (first | with_reducible assumption | with_reducible exact Arr.box (by assumption) | with_reducible exact Box.new _ _ _ _ _ _ | with_reducible exact Arr.new _ _ _ _ _ _ | with_reducible refine Arr.drew ?_ | with_reducible refine Arr.drewN ?_ _ | with_reducible refine Arr.store4 ?_ | with_reducible refine Arr.alloc ?_ _ | with_reducible refine Box.drew ?_ | with_reducible refine Box.drewN ?_ _ | with_reducible refine Box.alloc ?_ _ | with_reducible refine Arr.next ?_ (by assumption) | with_reducible refine Box.next ?_ (by assumption) | refine Arr.oth ?_ (by first | (simp; done) | omega | (simp; omega)) _ | refine Box.oth ?_ (by first | (simp; done) | omega | (simp; omega)) _ | with_reducible exact Arr3.box (by assumption) | with_reducible exact Box3.new _ _ _ _ _ | with_reducible exact Arr3.new _ _ _ _ _ | with_reducible refine Arr3.drew ?_ | with_reducible refine Arr3.drewN ?_ _ | with_reducible refine Arr3.store3 ?_ | with_reducible refine Arr3.alloc ?_ _ | with_reducible refine Box3.drew ?_ | with_reducible refine Box3.drewN ?_ _ | with_reducible refine Box3.alloc ?_ _ | with_reducible refine Arr3.next ?_ (by assumption) | with_reducible refine Box3.next ?_ (by assumption) | refine Arr3.oth ?_ (by first | (simp; done) | omega | (simp; omega)) _ | refine Box3.oth ?_ (by first | (simp; done) | omega | (simp; omega)) _))) (first | (go_at_call_of 41 (Value.int .i64 a); refine (K1.out _).mono ?_; rintro e y1 ⟨rfl, hy1⟩) | (go_at_call_of 41 (Value.int .i64 x); refine (K2.out _).mono ?_; rintro e y2 ⟨rfl, hy2⟩) | (go_at_call 40; refine (K3.out _).mono ?_; rintro e y3 ⟨rfl, hy3⟩; have K4 : Arr3 y3 (w.heap.size + 1 + 1) 0 0 0 := (by first | exact ((HB.out.drew.next hy1).next hy2).next hy3 | exact ((HB.out.drew.next hy2).next hy1).next hy3); obtain ⟨_, b0', b1', b2', f0, f1, f2⟩ := id K4))
    all_goals (go_wp2; have K4 : Arr3 y3 (w.heap.size + 1 + 1) 0 0 0 := (by first | exact ((HB.out.drew.next hy1).next hy2).next hy3 | exact ((HB.out.drew.next hy2).next hy1).next hy3); refine bodyPost_ret (res_A3 (e := 2) rfl Try.underlying25 (by kernel_rfl) rfl (by (repeat (first | with_reducible assumption | with_reducible exact Arr3.box (by assumption) | with_reducible exact Arr3.new _ _ _ _ _ | with_reducible refine Arr3.drew ?_ | with_reducible refine Arr3.drewN ?_ _ | with_reducible refine Arr3.store3 ?_ | with_reducible refine Arr3.alloc ?_ _ | with_reducible refine Arr3.next ?_ (by assumption) | refine Arr3.oth ?_ (by first | (simp; done) | omega | (simp; omega)) _ )))) rfl ?_; exact ⟨rfl, by (repeat' (first | with_reducible exact Below.refl _ _ | with_reducible assumption | with_reducible refine gr_alloc ?_ _ | with_reducible refine gr_drew ?_ | with_reducible refine gr_drewN ?_ _ | with_reducible refine gr_trans ?_ (by assumption) | with_reducible refine gr_set ?_ ?_ _ | (simp; done) | omega | (simp; omega)))⟩)
  · have hk' : (k == 0) = false := by simpa using hk
    have h0 := H0.out hk
    subst h0
    have HKK := hid hk
    clear hk
    obtain ⟨_, b0', b1', b2', f0, f1, f2⟩ := id B2
    go_wp2
    refine bodyPost_ret (res_A3 (e := 2) rfl Try.underlying25 (by kernel_rfl) rfl (by (repeat (first | with_reducible assumption | with_reducible exact Arr3.box (by assumption) | with_reducible exact Arr3.new _ _ _ _ _ | with_reducible refine Arr3.drew ?_ | with_reducible refine Arr3.drewN ?_ _ | with_reducible refine Arr3.store3 ?_ | with_reducible refine Arr3.alloc ?_ _ | with_reducible refine Arr3.next ?_ (by assumption) | refine Arr3.oth ?_ (by first | (simp; done) | omega | (simp; omega)) _ )))) rfl ?_
    exact ⟨rfl, by (repeat' (first | with_reducible exact Below.refl _ _ | with_reducible assumption | with_reducible refine gr_alloc ?_ _ | with_reducible refine gr_drew ?_ | with_reducible refine gr_drewN ?_ _ | with_reducible refine gr_trans ?_ (by assumption) | with_reducible refine gr_set ?_ ?_ _ | (simp; done) | omega | (simp; omega)))⟩

set_option maxRecDepth 100000 in
set_option maxHeartbeats 4000000 in
theorem sCompQ_any (a b c x y z : Int) (w : World) : Calls Try.prog 8 #[.agg #[.int .i64 a, .int .i64 b, .int .i64 c], .agg #[.int .i64 x, .int .i64 y, .int .i64 z]] w fun e w' => e = .returned (.tuple #[.agg #[.int .i64 ((cpq a b c x y z).1), .int .i64 ((cpq a b c x y z).2.1), .int .i64 ((cpq a b c x y z).2.2)], .int .i64 (dc2 a b c x y z)]) ∧ Below w.heap.size w w' := by
  have A0 := ((Arr3.new w a b c 25).alloc (.cells #[.int .i64 x, .int .i64 y, .int .i64 z] 25)).alloc (.cells #[.int .i64 0, .int .i64 0, .int .i64 0] 25)
  have X0 := (Arr3.new (w.alloc (.cells #[.int .i64 a, .int .i64 b, .int .i64 c] 25)) x y z 25).alloc (.cells #[.int .i64 0, .int .i64 0, .int .i64 0] 25)
  have B0 := Arr3.new ((w.alloc (.cells #[.int .i64 a, .int .i64 b, .int .i64 c] 25)).alloc (.cells #[.int .i64 x, .int .i64 y, .int .i64 z] 25)) 0 0 0 25
  have U0 := gr_alloc (gr_alloc (gr_alloc (Below.refl w.heap.size w) (.cells #[.int .i64 a, .int .i64 b, .int .i64 c] 25)) (.cells #[.int .i64 x, .int .i64 y, .int .i64 z] 25)) (.cells #[.int .i64 0, .int .i64 0, .int .i64 0] 25)
  simp only [World.size_alloc] at X0 B0
  have hc := fun k W h h' => sCode2_any k a b c x y z W h h'
  have hk : dc2 a b c x y z = 0 → ∃ u v : Qd, (∀ W, Calls Try.prog 44 #[.agg #[.int .i64 a, .int .i64 b, .int .i64 c]] W fun e w' => e = .returned (.agg #[.int .i64 u.1, .int .i64 u.2.1, .int .i64 u.2.2]) ∧ Below W.heap.size W w') ∧ (∀ W, Calls Try.prog 44 #[.agg #[.int .i64 x, .int .i64 y, .int .i64 z]] W fun e w' => e = .returned (.agg #[.int .i64 v.1, .int .i64 v.2.1, .int .i64 v.2.2]) ∧ Below W.heap.size W w') ∧ (∀ W, Calls Try.prog 43 #[.agg #[.int .i64 u.1, .int .i64 u.2.1, .int .i64 u.2.2], .agg #[.int .i64 v.1, .int .i64 v.2.1, .int .i64 v.2.2]] W fun e w' => e = .returned (.agg #[.int .i64 ((cpq a b c x y z).1), .int .i64 ((cpq a b c x y z).2.1), .int .i64 ((cpq a b c x y z).2.2)]) ∧ Below W.heap.size W w') := fun h => by
    obtain ⟨D, ⟨h1, h2, h3⟩, ⟨h4, h5, h6⟩, hD⟩ := two_el h
    refine ⟨red (a, b, c), red (x, y, z), fun W => l10Reduce_any a b c D W h2 hD h3, fun W => l10Reduce_any x y z D W h5 hD h6, fun W => ?_⟩
    have e : cpq a b c x y z = cp (red (a, b, c)) (red (x, y, z)) := if_pos h
    rw [e]
    exact l10Comp_any _ _ D W h1 h4 hD
  have h0 : dc2 a b c x y z ≠ 0 → cpq a b c x y z = (0, 0, 0) := fun h => if_neg h
  generalize cpq a b c x y z = RS at hk h0 ⊢
  generalize dc2 a b c x y z = k at hc hk h0 ⊢
  have HC := hid hc; have HK := hid hk; have H0 := hid h0
  clear hc hk h0
  go_enter Try.func8, Try.ntmps8
  go_upto_region 1 with fail
  generalize hW : ((w.alloc (.cells #[.int .i64 a, .int .i64 b, .int .i64 c] 25)).alloc (.cells #[.int .i64 x, .int .i64 y, .int .i64 z] 25)).alloc (.cells #[.int .i64 0, .int .i64 0, .int .i64 0] 25) = W0 at A0 X0 B0 U0 ⊢
  clear hW
  obtain ⟨_, a0, a1, a2, _⟩ := id A0
  obtain ⟨_, x0, x1, x2, _⟩ := id X0
  obtain ⟨S1, S2⟩ := At3c.six (w := W0) (a := a) (b := b) (c := c) (x := x) (y := y) (z := z) (T := 25)
  have A1 := A0.alloc (.cells #[.int .i64 a, .int .i64 b, .int .i64 c, .int .i64 x, .int .i64 y, .int .i64 z] 25)
  have X1 := X0.alloc (.cells #[.int .i64 a, .int .i64 b, .int .i64 c, .int .i64 x, .int .i64 y, .int .i64 z] 25)
  have B1 := B0.alloc (.cells #[.int .i64 a, .int .i64 b, .int .i64 c, .int .i64 x, .int .i64 y, .int .i64 z] 25)
  have U1 := gr_alloc U0 (.cells #[.int .i64 a, .int .i64 b, .int .i64 c, .int .i64 x, .int .i64 y, .int .i64 z] 25)
  go_wp2_with fail
  refine (HC.out _ _ S1 S2).mono ?_
  rintro e w1 ⟨rfl, hb1⟩
  have A2 := A1.next hb1
  have X2 := X1.next hb1
  have B2 := B1.next hb1
  have U2 := gr_trans U1 hb1
  clear a0 a1 a2 x0 x1 x2 A0 X0 B0 U0 A1 X1 B1 U1 S1 S2
  by_cases hk : k = 0
  · obtain ⟨⟨u0, u1, u2⟩, ⟨v0, v1, v2⟩, k1, k2, k3⟩ := HK.out hk
    obtain ⟨z0, z1, z2⟩ := RS
    have K1 := hid k1; have K2 := hid k2; have K3 := hid k3
    clear k1 k2 k3
    (try dsimp only at K1 K2 K3)
    subst hk
    obtain ⟨_, a0, a1, a2, _⟩ := id A2
    obtain ⟨_, x0, x1, x2, _⟩ := id X2
    have HB := hid B2
    clear B2
    (try dsimp only)
    go_upto_region 4 with fail
    go_region_held3 (fun W => W.cell? ⟨w.heap.size, 0, none⟩ = some (.int .i64 a) ∧ W.cell? ⟨w.heap.size, 1, none⟩ = some (.int .i64 b) ∧ W.cell? ⟨w.heap.size, 2, none⟩ = some (.int .i64 c) ∧ W.cell? ⟨w.heap.size + 1, 0, none⟩ = some (.int .i64 x) ∧ W.cell? ⟨w.heap.size + 1, 1, none⟩ = some (.int .i64 y) ∧ W.cell? ⟨w.heap.size + 1, 2, none⟩ = some (.int .i64 z)) (refine cells33q ?_ ?_ <;> (repeat (first | with_reducible assumption | with_reducible exact Arr.box (by assumption) | with_reducible exact Box.new _ _ _ _ _ _ | with_reducible exact Arr.new _ _ _ _ _ _ | with_reducible refine Arr.drew ?_ | with_reducible refine Arr.drewN ?_ _ | with_reducible refine Arr.store4 ?_ | with_reducible refine Arr.alloc ?_ _ | with_reducible refine Box.drew ?_ | with_reducible refine Box.drewN ?_ _ | with_reducible refine Box.alloc ?_ _ | with_reducible refine Arr.next ?_ (by assumption) | with_reducible refine Box.next ?_ (by assumption) | refine Arr.oth ?_ (by first | (simp; done) | omega | (simp; omega)) _ | refine Box.oth ?_ (by first | (simp; done) | omega | (simp; omega)) _ | with_reducible exact Arr3.box (by assumption) | with_reducible exact Box3.new _ _ _ _ _ | with_reducible exact Arr3.new _ _ _ _ _ | with_reducible refine Arr3.drew ?_ | with_reducible refine Arr3.drewN ?_ _ | with_reducible refine Arr3.store3 ?_ | with_reducible refine Arr3.alloc ?_ _ | with_reducible refine Box3.drew ?_ | with_reducible refine Box3.drewN ?_ _ | with_reducible refine Box3.alloc ?_ _ | with_reducible refine Arr3.next ?_ (by assumption) | with_reducible refine Box3.next ?_ (by assumption) | refine Arr3.oth ?_ (by first | (simp; done) | omega | (simp; omega)) _ | refine Box3.oth ?_ (by first | (simp; done) | omega | (simp; omega)) _))) (first | (go_at_call_of 44 (Value.int .i64 a); refine (K1.out _).mono ?_; rintro e y1 ⟨rfl, hy1⟩) | (go_at_call_of 44 (Value.int .i64 x); refine (K2.out _).mono ?_; rintro e y2 ⟨rfl, hy2⟩) | (go_at_call 43; refine (K3.out _).mono ?_; rintro e y3 ⟨rfl, hy3⟩; have K4 : Arr3 y3 (w.heap.size + 1 + 1) 0 0 0 := (by first | exact ((HB.out.drew.next hy1).next hy2).next hy3 | exact ((HB.out.drew.next hy2).next hy1).next hy3); obtain ⟨_, b0', b1', b2', f0, f1, f2⟩ := id K4))
    all_goals (go_wp2; have K4 : Arr3 y3 (w.heap.size + 1 + 1) 0 0 0 := (by first | exact ((HB.out.drew.next hy1).next hy2).next hy3 | exact ((HB.out.drew.next hy2).next hy1).next hy3); refine bodyPost_ret (res_A3 (e := 2) rfl Try.underlying25 (by kernel_rfl) rfl (by (repeat (first | with_reducible assumption | with_reducible exact Arr3.box (by assumption) | with_reducible exact Arr3.new _ _ _ _ _ | with_reducible refine Arr3.drew ?_ | with_reducible refine Arr3.drewN ?_ _ | with_reducible refine Arr3.store3 ?_ | with_reducible refine Arr3.alloc ?_ _ | with_reducible refine Arr3.next ?_ (by assumption) | refine Arr3.oth ?_ (by first | (simp; done) | omega | (simp; omega)) _ )))) rfl ?_; exact ⟨rfl, by (repeat' (first | with_reducible exact Below.refl _ _ | with_reducible assumption | with_reducible refine gr_alloc ?_ _ | with_reducible refine gr_drew ?_ | with_reducible refine gr_drewN ?_ _ | with_reducible refine gr_trans ?_ (by assumption) | with_reducible refine gr_set ?_ ?_ _ | (simp; done) | omega | (simp; omega)))⟩)
  · have hk' : (k == 0) = false := by simpa using hk
    have h0 := H0.out hk
    subst h0
    have HKK := hid hk
    clear hk
    obtain ⟨_, b0', b1', b2', f0, f1, f2⟩ := id B2
    go_wp2
    refine bodyPost_ret (res_A3 (e := 2) rfl Try.underlying25 (by kernel_rfl) rfl (by (repeat (first | with_reducible assumption | with_reducible exact Arr3.box (by assumption) | with_reducible exact Arr3.new _ _ _ _ _ | with_reducible refine Arr3.drew ?_ | with_reducible refine Arr3.drewN ?_ _ | with_reducible refine Arr3.store3 ?_ | with_reducible refine Arr3.alloc ?_ _ | with_reducible refine Arr3.next ?_ (by assumption) | refine Arr3.oth ?_ (by first | (simp; done) | omega | (simp; omega)) _ )))) rfl ?_
    exact ⟨rfl, by (repeat' (first | with_reducible exact Below.refl _ _ | with_reducible assumption | with_reducible refine gr_alloc ?_ _ | with_reducible refine gr_drew ?_ | with_reducible refine gr_drewN ?_ _ | with_reducible refine gr_trans ?_ (by assumption) | with_reducible refine gr_set ?_ ?_ _ | (simp; done) | omega | (simp; omega)))⟩


end Go.Proofs.Ytehbkmohfipmgaa
