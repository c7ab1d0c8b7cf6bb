/- Several texts in one: XDraw5, XDraw18. -/
import Derived.Test.YtdogkkmdccieiaaDoorZ26
import Derived.Deep.DeepCutAuto
import Derived.Test.YtdogkkmdccieiaaDoorZ2
import Derived.StillTailTactics
import Derived.Deep.RegionHeld3

/- Draws: forms and matrices. -/
namespace Go.Proofs.YtdogkkmdccieiaaDoor
open Go.ChangeShapes Go.WideShapes Go.ChangeAt Go.RowKit

set_option maxRecDepth 100000 in
set_option maxHeartbeats 4000000 in
theorem bad_any (k : Nat) (a : Option Addr) (len cap : Nat) (zs : List Int) (c0 c1 c2 c3 : Int) (w : World) (hS : Src w k a len cap zs) :
    Calls Tryd.prog 113 #[.pointer (some ⟨k, 0, none⟩), .agg #[.int .i64 c0, .int .i64 c1, .int .i64 c2, .int .i64 c3]] w (FrmPost k a len cap zs w) := by
  have hl := hS.lt
  have X0 := (Arr.new w c0 c1 c2 c3 25).alloc (.cells #[.int .i64 0, .int .i64 0, .int .i64 0, .int .i64 0] 25)
  have R0 := Arr.new (w.alloc (.cells #[.int .i64 c0, .int .i64 c1, .int .i64 c2, .int .i64 c3] 25)) 0 0 0 0 25
  simp only [World.size_alloc] at R0
  have S0 := hid ((hS.alloc (.cells #[.int .i64 c0, .int .i64 c1, .int .i64 c2, .int .i64 c3] 25)).alloc (.cells #[.int .i64 0, .int .i64 0, .int .i64 0, .int .i64 0] 25))
  have H0 := ((Gk.refl k w).alloc (.cells #[.int .i64 c0, .int .i64 c1, .int .i64 c2, .int .i64 c3] 25)).alloc (.cells #[.int .i64 0, .int .i64 0, .int .i64 0, .int .i64 0] 25)
  clear hS
  go_enter Tryd.func113, Tryd.ntmps113
  go_wp2_with fail
  refine (next_any k a len cap zs _ _ S0.out).mono ?_
  rintro e w1 ⟨x1, rfl, hx1, hy1, S1', G1⟩
  have S1 := hid S1'
  have X1 := X0.gk G1 (by omega)
  have R1 := R0.gk G1 (by omega)
  have H1 := H0.trans G1
  clear S1' G1 X0 R0 H0 S0
  clear hx1 hy1
  by_cases hx : x1 = 0
  · subst hx
    go_wp2_with fail
    refine (next_any k a len cap zs _ _ S1.out).mono ?_
    rintro e w2 ⟨x2, rfl, hx2, hy2, S2', G2⟩
    have S2 := hid S2'
    have X2 := X1.gk G2 (by omega)
    have R2 := R1.gk G2 (by omega)
    have H2 := H1.trans G2
    clear S2' G2 X1 R1 H1 S1
    have hwl := R2.lt
    have hL := lit_cells w2 2 [1001, -1001, 1099511627776, -4611686018427387904]
    have HL := hid hL
    clear hL
    have S3 := hid (S2.out.alloc (.cells #[.int .i64 1001, .int .i64 (-1001), .int .i64 1099511627776, .int .i64 (-4611686018427387904)] 2))
    have X3 := X2.alloc (.cells #[.int .i64 1001, .int .i64 (-1001), .int .i64 1099511627776, .int .i64 (-4611686018427387904)] 2)
    have R3 := R2.alloc (.cells #[.int .i64 1001, .int .i64 (-1001), .int .i64 1099511627776, .int .i64 (-4611686018427387904)] 2)
    have H3 := H2.alloc (.cells #[.int .i64 1001, .int .i64 (-1001), .int .i64 1099511627776, .int .i64 (-4611686018427387904)] 2)
    clear S2 X2 R2 H2
    go_wp2_with fail
    refine (pick_any k a len cap zs _ 4 _ S3.out (by omega) (by omega) (by simp) (by omega) HL.out).mono ?_
    rintro e w4 ⟨x4, rfl, S4', G4⟩
    have S4 := hid S4'
    have X4 := X3.gk G4 (by omega)
    have R4 := R3.gk G4 (by omega)
    have H4 := H3.trans G4
    clear S4' G4 X3 R3 H3 S3
    clear HL
    have hxs : x2 = 0 ∨ x2 = 1 ∨ x2 = 2 ∨ x2 = 3 := by omega
    clear hx2 hy2
    obtain ⟨_, y0, y1, y2, y3, g0, g1, g2, g3⟩ := id X4
    rcases hxs with rfl | rfl | rfl | rfl
    · have XE := hid (X4.set0 x4)
      have RE := R4.oth (p := ⟨w.heap.size, 0, none⟩) (by simp) (.int .i64 x4)
      have SE := S4.out.up (p := ⟨w.heap.size, 0, none⟩) hl (.int .i64 x4)
      have HE := H4.up (p := ⟨w.heap.size, 0, none⟩) (Nat.le_refl _) (.int .i64 x4)
      obtain ⟨_, r0, r1, r2, r3, f0, f1, f2, f3⟩ := id R4
      go_wp2_with fail
      refine bodyPost_ret (res_A1 (e := 2) rfl Tryd.underlying25 (by kernel_rfl) rfl (by (repeat (first | with_reducible assumption | with_reducible exact Arr.box (by assumption) | with_reducible apply Arr.drew | with_reducible apply Arr.drewN | with_reducible refine Arr.store4 ?_ | with_reducible apply Arr.alloc | with_reducible refine Box.drew ?_ | with_reducible refine Box.drewN ?_ _ | with_reducible refine Box.alloc ?_ _ | refine Arr.oth ?_ (by first | (simp; done) | omega | (simp; omega)) _ | refine Box.oth ?_ (by first | (simp; done) | omega | (simp; omega)) _)))) rfl ?_
      exact ⟨_, _, _, _, rfl, SE.up4 (by omega) _ _ _ _, HE.up4 (by omega) _ _ _ _⟩
    · have XE := hid (X4.set1 x4)
      have RE := R4.oth (p := ⟨w.heap.size, 1, none⟩) (by simp) (.int .i64 x4)
      have SE := S4.out.up (p := ⟨w.heap.size, 1, none⟩) hl (.int .i64 x4)
      have HE := H4.up (p := ⟨w.heap.size, 1, none⟩) (Nat.le_refl _) (.int .i64 x4)
      obtain ⟨_, r0, r1, r2, r3, f0, f1, f2, f3⟩ := id R4
      go_wp2_with fail
      refine bodyPost_ret (res_A1 (e := 2) rfl Tryd.underlying25 (by kernel_rfl) rfl (by (repeat (first | with_reducible assumption | with_reducible exact Arr.box (by assumption) | with_reducible apply Arr.drew | with_reducible apply Arr.drewN | with_reducible refine Arr.store4 ?_ | with_reducible apply Arr.alloc | with_reducible refine Box.drew ?_ | with_reducible refine Box.drewN ?_ _ | with_reducible refine Box.alloc ?_ _ | refine Arr.oth ?_ (by first | (simp; done) | omega | (simp; omega)) _ | refine Box.oth ?_ (by first | (simp; done) | omega | (simp; omega)) _)))) rfl ?_
      exact ⟨_, _, _, _, rfl, SE.up4 (by omega) _ _ _ _, HE.up4 (by omega) _ _ _ _⟩
    · have XE := hid (X4.set2 x4)
      have RE := R4.oth (p := ⟨w.heap.size, 2, none⟩) (by simp) (.int .i64 x4)
      have SE := S4.out.up (p := ⟨w.heap.size, 2, none⟩) hl (.int .i64 x4)
      have HE := H4.up (p := ⟨w.heap.size, 2, none⟩) (Nat.le_refl _) (.int .i64 x4)
      obtain ⟨_, r0, r1, r2, r3, f0, f1, f2, f3⟩ := id R4
      go_wp2_with fail
      refine bodyPost_ret (res_A1 (e := 2) rfl Tryd.underlying25 (by kernel_rfl) rfl (by (repeat (first | with_reducible assumption | with_reducible exact Arr.box (by assumption) | with_reducible apply Arr.drew | with_reducible apply Arr.drewN | with_reducible refine Arr.store4 ?_ | with_reducible apply Arr.alloc | with_reducible refine Box.drew ?_ | with_reducible refine Box.drewN ?_ _ | with_reducible refine Box.alloc ?_ _ | refine Arr.oth ?_ (by first | (simp; done) | omega | (simp; omega)) _ | refine Box.oth ?_ (by first | (simp; done) | omega | (simp; omega)) _)))) rfl ?_
      exact ⟨_, _, _, _, rfl, SE.up4 (by omega) _ _ _ _, HE.up4 (by omega) _ _ _ _⟩
    · have XE := hid (X4.set3 x4)
      have RE := R4.oth (p := ⟨w.heap.size, 3, none⟩) (by simp) (.int .i64 x4)
      have SE := S4.out.up (p := ⟨w.heap.size, 3, none⟩) hl (.int .i64 x4)
      have HE := H4.up (p := ⟨w.heap.size, 3, none⟩) (Nat.le_refl _) (.int .i64 x4)
      obtain ⟨_, r0, r1, r2, r3, f0, f1, f2, f3⟩ := id R4
      go_wp2_with fail
      refine bodyPost_ret (res_A1 (e := 2) rfl Tryd.underlying25 (by kernel_rfl) rfl (by (repeat (first | with_reducible assumption | with_reducible exact Arr.box (by assumption) | with_reducible apply Arr.drew | with_reducible apply Arr.drewN | with_reducible refine Arr.store4 ?_ | with_reducible apply Arr.alloc | with_reducible refine Box.drew ?_ | with_reducible refine Box.drewN ?_ _ | with_reducible refine Box.alloc ?_ _ | refine Arr.oth ?_ (by first | (simp; done) | omega | (simp; omega)) _ | refine Box.oth ?_ (by first | (simp; done) | omega | (simp; omega)) _)))) rfl ?_
      exact ⟨_, _, _, _, rfl, SE.up4 (by omega) _ _ _ _, HE.up4 (by omega) _ _ _ _⟩
  · have hx' : (x1 == 0) = false := by simpa using hx
    clear hx
    obtain ⟨_, y0, y1, y2, y3, _⟩ := id X1
    obtain ⟨_, r0, r1, r2, r3, f0, f1, f2, f3⟩ := id R1
    go_wp2_with fail
    refine bodyPost_ret (res_A1 (e := 2) rfl Tryd.underlying25 (by kernel_rfl) rfl (by (repeat (first | with_reducible assumption | with_reducible exact Arr.box (by assumption) | with_reducible apply Arr.drew | with_reducible apply Arr.drewN | with_reducible refine Arr.store4 ?_ | with_reducible apply Arr.alloc | with_reducible refine Box.drew ?_ | with_reducible refine Box.drewN ?_ _ | with_reducible refine Box.alloc ?_ _ | refine Arr.oth ?_ (by first | (simp; done) | omega | (simp; omega)) _ | refine Box.oth ?_ (by first | (simp; done) | omega | (simp; omega)) _)))) rfl ?_
    exact ⟨_, _, _, _, rfl, S1.out.up4 (by omega) _ _ _ _, H1.up4 (by omega) _ _ _ _⟩

set_option maxRecDepth 100000 in
set_option maxHeartbeats 4000000 in
theorem spoil_any (k : Nat) (a : Option Addr) (len cap : Nat) (zs : List Int) (w : World) (hS : Src w k a len cap zs) :
    Calls Tryd.prog 101 #[.pointer (some ⟨k, 0, none⟩)] w (FrmPost k a len cap zs w) := by
  have hl := hS.lt
  have R0 := Arr.new w 0 0 0 0 25
  have S0 := hid (hS.alloc (.cells #[.int .i64 0, .int .i64 0, .int .i64 0, .int .i64 0] 25))
  have H0 := (Gk.refl k w).alloc (.cells #[.int .i64 0, .int .i64 0, .int .i64 0, .int .i64 0] 25)
  clear hS
  go_enter Tryd.func101, Tryd.ntmps101
  go_wp2_with fail
  refine (draw_any k a len cap zs _ S0.out).mono ?_
  rintro e w1 ⟨p1, q1, r1, s1, rfl, S1', G1⟩
  have S1 := hid S1'
  have R1 := R0.gk G1 (by omega)
  have H1 := H0.trans G1
  clear S1' G1 R0 H0 S0
  go_wp2_with fail
  refine (bad_any k a len cap zs _ _ _ _ _ S1.out).mono ?_
  rintro e w2 ⟨p2, q2, r2, s2, rfl, S2', G2⟩
  have S2 := hid S2'
  have R2 := R1.gk G2 (by omega)
  have H2 := H1.trans G2
  clear S2' G2 R1 H1 S1
  obtain ⟨_, r0, r1, r2, r3, f0, f1, f2, f3⟩ := id R2
  go_wp2_with fail
  refine bodyPost_ret (res_A1 (e := 2) rfl Tryd.underlying25 (by kernel_rfl) rfl (by (repeat (first | with_reducible assumption | with_reducible exact Arr.box (by assumption) | with_reducible apply Arr.drew | with_reducible apply Arr.drewN | with_reducible refine Arr.store4 ?_ | with_reducible apply Arr.alloc | with_reducible refine Box.drew ?_ | with_reducible refine Box.drewN ?_ _ | with_reducible refine Box.alloc ?_ _ | refine Arr.oth ?_ (by first | (simp; done) | omega | (simp; omega)) _ | refine Box.oth ?_ (by first | (simp; done) | omega | (simp; omega)) _)))) rfl ?_
  exact ⟨_, _, _, _, rfl, S2.out.up4 hl _ _ _ _, H2.up4 (Nat.le_refl _) _ _ _ _⟩


end Go.Proofs.YtdogkkmdccieiaaDoor

/- Draws of chapter 4: elements. -/
namespace Go.Proofs.YtdogkkmdccieiaaDoor
open Go.ChangeShapes Go.WideShapes Go.ChangeAt Go.RowKit

theorem Arr3.gk {k j : Nat} {u v : World} {a b c : Int} (hA : Arr3 u j a b c) (h : Gk k u v) (hk : j ≠ k) : Arr3 v j a b c :=
  ⟨Nat.lt_of_lt_of_le hA.lt h.size, (h.cell (p := ⟨j, 0, none⟩) hA.lt hk).trans hA.c0, (h.cell (p := ⟨j, 1, none⟩) hA.lt hk).trans hA.c1, (h.cell (p := ⟨j, 2, none⟩) hA.lt hk).trans hA.c2,
    (h.frozen (p := ⟨j, 0, none⟩) hA.lt hk).trans hA.f0, (h.frozen (p := ⟨j, 1, none⟩) hA.lt hk).trans hA.f1, (h.frozen (p := ⟨j, 2, none⟩) hA.lt hk).trans hA.f2⟩
theorem Src.up3 {w : World} {k : Nat} {a : Option Addr} {len cap : Nat} {zs : List Int} (h : Src w k a len cap zs) {j : Nat} (hj : k < j) (x y z : Value) : Src (((w.setCell ⟨j, 0, none⟩ x).setCell ⟨j, 1, none⟩ y).setCell ⟨j, 2, none⟩ z) k a len cap zs :=
  ((h.up (p := ⟨j, 0, none⟩) hj x).up (p := ⟨j, 1, none⟩) hj y).up (p := ⟨j, 2, none⟩) hj z
theorem Gk.up3 {k : Nat} {u v : World} (h : Gk k u v) {j : Nat} (hj : u.heap.size ≤ j) (x y z : Value) : Gk k u (((v.setCell ⟨j, 0, none⟩ x).setCell ⟨j, 1, none⟩ y).setCell ⟨j, 2, none⟩ z) :=
  ((h.up (p := ⟨j, 0, none⟩) hj x).up (p := ⟨j, 1, none⟩) hj y).up (p := ⟨j, 2, none⟩) hj z
/-- An element, whatever it is. -/
def ElmPost (k : Nat) (a : Option Addr) (len cap : Nat) (zs : List Int) (w : World) (e : Ending) (w' : World) : Prop :=
  ∃ p q r : Int, e = .returned (.agg #[.int .i64 p, .int .i64 q, .int .i64 r]) ∧ Src w' k a len cap zs ∧ Gk k w w'

set_option maxRecDepth 100000 in
set_option maxHeartbeats 4000000 in
theorem drawE_any (k : Nat) (a : Option Addr) (len cap : Nat) (zs : List Int) (n : Int) (w : World) (hS : Src w k a len cap zs) :
    Calls Tryd.prog 92 #[.pointer (some ⟨k, 0, none⟩), .int .i64 n] w (ElmPost k a len cap zs w) := by
  have hl := hS.lt
  have R0 := Arr3.new w 0 0 0 27
  have S0 := hid (hS.alloc (.cells #[.int .i64 0, .int .i64 0, .int .i64 0] 27))
  have H0 := (Gk.refl k w).alloc (.cells #[.int .i64 0, .int .i64 0, .int .i64 0] 27)
  clear hS
  go_enter Tryd.func92, Tryd.ntmps92
  go_wp2_with fail
  refine (part_any k a len cap zs _ _ S0.out).mono ?_
  rintro e w1 ⟨x1, rfl, S1', G1⟩
  have S1 := hid S1'
  have R1 := R0.gk G1 (by omega)
  have H1 := H0.trans G1
  clear S1' G1 R0 H0 S0
  go_wp2_with fail
  refine (part_any k a len cap zs _ _ S1.out).mono ?_
  rintro e w2 ⟨x2, rfl, S2', G2⟩
  have S2 := hid S2'
  have R2 := R1.gk G2 (by omega)
  have H2 := H1.trans G2
  clear S2' G2 R1 H1 S1
  go_wp2_with fail
  refine (part_any k a len cap zs _ _ S2.out).mono ?_
  rintro e w3 ⟨x3, rfl, S3', G3⟩
  have S3 := hid S3'
  have R3 := R2.gk G3 (by omega)
  have H3 := H2.trans G3
  clear S3' G3 R2 H2 S2
  obtain ⟨_, r0, r1, r2, f0, f1, f2⟩ := id R3
  go_wp2_with fail
  refine bodyPost_ret (res_A31 (e := 2) rfl Tryd.underlying27 (by kernel_rfl) rfl (by (repeat (first | with_reducible assumption | with_reducible exact Arr.box (by assumption) | with_reducible exact Box.new _ _ _ _ _ _ | with_reducible exact Arr.new _ _ _ _ _ _ | with_reducible refine Arr.drew ?_ | with_reducible refine Arr.drewN ?_ _ | with_reducible refine Arr.store4 ?_ | with_reducible refine Arr.alloc ?_ _ | with_reducible refine Box.drew ?_ | with_reducible refine Box.drewN ?_ _ | with_reducible refine Box.alloc ?_ _ | with_reducible refine Arr.next ?_ (by assumption) | with_reducible refine Box.next ?_ (by assumption) | refine Arr.oth ?_ (by first | (simp; done) | omega | (simp; omega)) _ | refine Box.oth ?_ (by first | (simp; done) | omega | (simp; omega)) _ | with_reducible exact Arr3.box (by assumption) | with_reducible exact Box3.new _ _ _ _ _ | with_reducible exact Arr3.new _ _ _ _ _ | with_reducible refine Arr3.drew ?_ | with_reducible refine Arr3.drewN ?_ _ | with_reducible refine Arr3.store3 ?_ | with_reducible refine Arr3.alloc ?_ _ | with_reducible refine Box3.drew ?_ | with_reducible refine Box3.drewN ?_ _ | with_reducible refine Box3.alloc ?_ _ | with_reducible refine Arr3.next ?_ (by assumption) | with_reducible refine Box3.next ?_ (by assumption) | refine Arr3.oth ?_ (by first | (simp; done) | omega | (simp; omega)) _ | refine Box3.oth ?_ (by first | (simp; done) | omega | (simp; omega)) _)))) rfl ?_
  exact ⟨_, _, _, rfl, S3.out.up3 hl _ _ _, H3.up3 (Nat.le_refl _) _ _ _⟩

set_option maxRecDepth 100000 in
set_option maxHeartbeats 4000000 in
theorem drawEl_any (k : Nat) (a : Option Addr) (len cap : Nat) (zs : List Int) (w : World) (hS : Src w k a len cap zs) :
    Calls Tryd.prog 89 #[.pointer (some ⟨k, 0, none⟩)] w (ElmPost k a len cap zs w) := by
  have hl := hS.lt
  have R0 := Arr3.new w 0 0 0 27
  have S0 := hid (hS.alloc (.cells #[.int .i64 0, .int .i64 0, .int .i64 0] 27))
  have H0 := (Gk.refl k w).alloc (.cells #[.int .i64 0, .int .i64 0, .int .i64 0] 27)
  clear hS
  have hL := lit_cells (w.alloc (.cells #[.int .i64 0, .int .i64 0, .int .i64 0] 27)) 2 [1, 3, 10, 100, 1000]
  simp only [World.size_alloc] at hL
  have HL := hid hL
  clear hL
  have S1 := hid (S0.out.alloc (.cells #[.int .i64 1, .int .i64 3, .int .i64 10, .int .i64 100, .int .i64 1000] 2))
  have R1 := R0.alloc (.cells #[.int .i64 1, .int .i64 3, .int .i64 10, .int .i64 100, .int .i64 1000] 2)
  have H1 := H0.alloc (.cells #[.int .i64 1, .int .i64 3, .int .i64 10, .int .i64 100, .int .i64 1000] 2)
  clear S0 R0 H0
  go_enter Tryd.func89, Tryd.ntmps89
  go_wp2_with fail
  refine (pick_any k a len cap zs _ 5 _ S1.out (by omega) (by omega) (by simp) (by omega) HL.out).mono ?_
  rintro e w2 ⟨x2, rfl, S2', G2⟩
  have S2 := hid S2'
  have R2 := R1.gk G2 (by omega)
  have H2 := H1.trans G2
  clear S2' G2 R1 H1 S1
  clear HL
  go_wp2_with fail
  refine (drawE_any k a len cap zs _ _ S2.out).mono ?_
  rintro e w3 ⟨p, q, r, rfl, S3', G3⟩
  have S3 := hid S3'
  have R3 := R2.gk G3 (by omega)
  have H3 := H2.trans G3
  clear S3' G3 R2 H2 S2
  have X3 := Arr3.new w3 p q r 27
  have hw := R3.lt
  obtain ⟨jx, hjx⟩ : ∃ j, j = w3.heap.size := ⟨_, rfl⟩
  have hjr : w.heap.size < jx := by omega
  have hjk : k < jx := by have := S3.out.lt; omega
  rw [← hjx] at X3
  have S4 := hid (S3.out.alloc (.cells #[.int .i64 p, .int .i64 q, .int .i64 r] 27))
  have R4 := R3.alloc (.cells #[.int .i64 p, .int .i64 q, .int .i64 r] 27)
  have H4 := H3.alloc (.cells #[.int .i64 p, .int .i64 q, .int .i64 r] 27)
  clear S3 R3 H3
  have X4 := X3
  clear X3
  have HJ := hid hjx
  clear hjx hw
  go_wp2_with fail
  rw [← HJ.out]
  refine (next_any k a len cap zs _ _ S4.out).mono ?_
  rintro e w5 ⟨x5, rfl, hx5, hy5, S5', G5⟩
  have S5 := hid S5'
  have R5 := R4.gk G5 (by omega)
  have X5 := X4.gk G5 (by omega)
  have H5 := H4.trans G5
  clear S5' G5 R4 X4 H4 S4
  clear hx5 hy5
  by_cases h0 : x5 = 0
  · subst h0
    go_wp2_with fail
    refine (next_any k a len cap zs _ _ S5.out).mono ?_
    rintro e w6 ⟨x6, rfl, hx6, hy6, S6', G6⟩
    have S6 := hid S6'
    have R6 := R5.gk G6 (by omega)
    have X6 := X5.gk G6 (by omega)
    have H6 := H5.trans G6
    clear S6' G6 R5 X5 H5 S5
    have hwl := R6.lt
    have hL := lit_cells w6 2 [10000, 10001, -10001, 1099511627776]
    have HL := hid hL
    clear hL
    have S7 := hid (S6.out.alloc (.cells #[.int .i64 10000, .int .i64 10001, .int .i64 (-10001), .int .i64 1099511627776] 2))
    have R7 := R6.alloc (.cells #[.int .i64 10000, .int .i64 10001, .int .i64 (-10001), .int .i64 1099511627776] 2)
    have X7 := X6.alloc (.cells #[.int .i64 10000, .int .i64 10001, .int .i64 (-10001), .int .i64 1099511627776] 2)
    have H7 := H6.alloc (.cells #[.int .i64 10000, .int .i64 10001, .int .i64 (-10001), .int .i64 1099511627776] 2)
    clear S6 R6 X6 H6
    go_wp2_with fail
    refine (pick_any k a len cap zs _ 4 _ S7.out (by omega) (by omega) (by simp) (by omega) HL.out).mono ?_
    rintro e w8 ⟨x8, rfl, S8', G8⟩
    have S8 := hid S8'
    have R8 := R7.gk G8 (by omega)
    have X8 := X7.gk G8 (by omega)
    have H8 := H7.trans G8
    clear S8' G8 R7 X7 H7 S7
    clear HL
    have hxs : x6 = 0 ∨ x6 = 1 ∨ x6 = 2 := by omega
    clear hx6 hy6
    obtain ⟨_, y0, y1, y2, g0, g1, g2⟩ := id X8
    rcases hxs with rfl | rfl | rfl
    · have XE := hid (X8.set0 x8)
      have RE := R8.oth (p := ⟨jx, 0, none⟩) (by simp; omega) (.int .i64 x8)
      have SE := S8.out.up (p := ⟨jx, 0, none⟩) hjk (.int .i64 x8)
      have HE := H8.up (p := ⟨jx, 0, none⟩) (by simp; omega) (.int .i64 x8)
      obtain ⟨_, r0, r1, r2, f0, f1, f2⟩ := id R8
      go_wp2_with fail
      refine bodyPost_ret (res_A31 (e := 2) rfl Tryd.underlying27 (by kernel_rfl) rfl (by (repeat (first | with_reducible assumption | with_reducible exact Arr.box (by assumption) | with_reducible exact Box.new _ _ _ _ _ _ | with_reducible exact Arr.new _ _ _ _ _ _ | with_reducible refine Arr.drew ?_ | with_reducible refine Arr.drewN ?_ _ | with_reducible refine Arr.store4 ?_ | with_reducible refine Arr.alloc ?_ _ | with_reducible refine Box.drew ?_ | with_reducible refine Box.drewN ?_ _ | with_reducible refine Box.alloc ?_ _ | with_reducible refine Arr.next ?_ (by assumption) | with_reducible refine Box.next ?_ (by assumption) | refine Arr.oth ?_ (by first | (simp; done) | omega | (simp; omega)) _ | refine Box.oth ?_ (by first | (simp; done) | omega | (simp; omega)) _ | with_reducible exact Arr3.box (by assumption) | with_reducible exact Box3.new _ _ _ _ _ | with_reducible exact Arr3.new _ _ _ _ _ | with_reducible refine Arr3.drew ?_ | with_reducible refine Arr3.drewN ?_ _ | with_reducible refine Arr3.store3 ?_ | with_reducible refine Arr3.alloc ?_ _ | with_reducible refine Box3.drew ?_ | with_reducible refine Box3.drewN ?_ _ | with_reducible refine Box3.alloc ?_ _ | with_reducible refine Arr3.next ?_ (by assumption) | with_reducible refine Box3.next ?_ (by assumption) | refine Arr3.oth ?_ (by first | (simp; done) | omega | (simp; omega)) _ | refine Box3.oth ?_ (by first | (simp; done) | omega | (simp; omega)) _)))) rfl ?_
      exact ⟨_, _, _, rfl, SE.up3 hl _ _ _, HE.up3 (Nat.le_refl _) _ _ _⟩
    · have XE := hid (X8.set1 x8)
      have RE := R8.oth (p := ⟨jx, 1, none⟩) (by simp; omega) (.int .i64 x8)
      have SE := S8.out.up (p := ⟨jx, 1, none⟩) hjk (.int .i64 x8)
      have HE := H8.up (p := ⟨jx, 1, none⟩) (by simp; omega) (.int .i64 x8)
      obtain ⟨_, r0, r1, r2, f0, f1, f2⟩ := id R8
      go_wp2_with fail
      refine bodyPost_ret (res_A31 (e := 2) rfl Tryd.underlying27 (by kernel_rfl) rfl (by (repeat (first | with_reducible assumption | with_reducible exact Arr.box (by assumption) | with_reducible exact Box.new _ _ _ _ _ _ | with_reducible exact Arr.new _ _ _ _ _ _ | with_reducible refine Arr.drew ?_ | with_reducible refine Arr.drewN ?_ _ | with_reducible refine Arr.store4 ?_ | with_reducible refine Arr.alloc ?_ _ | with_reducible refine Box.drew ?_ | with_reducible refine Box.drewN ?_ _ | with_reducible refine Box.alloc ?_ _ | with_reducible refine Arr.next ?_ (by assumption) | with_reducible refine Box.next ?_ (by assumption) | refine Arr.oth ?_ (by first | (simp; done) | omega | (simp; omega)) _ | refine Box.oth ?_ (by first | (simp; done) | omega | (simp; omega)) _ | with_reducible exact Arr3.box (by assumption) | with_reducible exact Box3.new _ _ _ _ _ | with_reducible exact Arr3.new _ _ _ _ _ | with_reducible refine Arr3.drew ?_ | with_reducible refine Arr3.drewN ?_ _ | with_reducible refine Arr3.store3 ?_ | with_reducible refine Arr3.alloc ?_ _ | with_reducible refine Box3.drew ?_ | with_reducible refine Box3.drewN ?_ _ | with_reducible refine Box3.alloc ?_ _ | with_reducible refine Arr3.next ?_ (by assumption) | with_reducible refine Box3.next ?_ (by assumption) | refine Arr3.oth ?_ (by first | (simp; done) | omega | (simp; omega)) _ | refine Box3.oth ?_ (by first | (simp; done) | omega | (simp; omega)) _)))) rfl ?_
      exact ⟨_, _, _, rfl, SE.up3 hl _ _ _, HE.up3 (Nat.le_refl _) _ _ _⟩
    · have XE := hid (X8.set2 x8)
      have RE := R8.oth (p := ⟨jx, 2, none⟩) (by simp; omega) (.int .i64 x8)
      have SE := S8.out.up (p := ⟨jx, 2, none⟩) hjk (.int .i64 x8)
      have HE := H8.up (p := ⟨jx, 2, none⟩) (by simp; omega) (.int .i64 x8)
      obtain ⟨_, r0, r1, r2, f0, f1, f2⟩ := id R8
      go_wp2_with fail
      refine bodyPost_ret (res_A31 (e := 2) rfl Tryd.underlying27 (by kernel_rfl) rfl (by (repeat (first | with_reducible assumption | with_reducible exact Arr.box (by assumption) | with_reducible exact Box.new _ _ _ _ _ _ | with_reducible exact Arr.new _ _ _ _ _ _ | with_reducible refine Arr.drew ?_ | with_reducible refine Arr.drewN ?_ _ | with_reducible refine Arr.store4 ?_ | with_reducible refine Arr.alloc ?_ _ | with_reducible refine Box.drew ?_ | with_reducible refine Box.drewN ?_ _ | with_reducible refine Box.alloc ?_ _ | with_reducible refine Arr.next ?_ (by assumption) | with_reducible refine Box.next ?_ (by assumption) | refine Arr.oth ?_ (by first | (simp; done) | omega | (simp; omega)) _ | refine Box.oth ?_ (by first | (simp; done) | omega | (simp; omega)) _ | with_reducible exact Arr3.box (by assumption) | with_reducible exact Box3.new _ _ _ _ _ | with_reducible exact Arr3.new _ _ _ _ _ | with_reducible refine Arr3.drew ?_ | with_reducible refine Arr3.drewN ?_ _ | with_reducible refine Arr3.store3 ?_ | with_reducible refine Arr3.alloc ?_ _ | with_reducible refine Box3.drew ?_ | with_reducible refine Box3.drewN ?_ _ | with_reducible refine Box3.alloc ?_ _ | with_reducible refine Arr3.next ?_ (by assumption) | with_reducible refine Box3.next ?_ (by assumption) | refine Arr3.oth ?_ (by first | (simp; done) | omega | (simp; omega)) _ | refine Box3.oth ?_ (by first | (simp; done) | omega | (simp; omega)) _)))) rfl ?_
      exact ⟨_, _, _, rfl, SE.up3 hl _ _ _, HE.up3 (Nat.le_refl _) _ _ _⟩
  · have h0' : (x5 == 0) = false := by simpa using h0
    clear h0
    obtain ⟨_, y0, y1, y2, _⟩ := id X5
    obtain ⟨_, r0, r1, r2, f0, f1, f2⟩ := id R5
    go_wp2_with fail
    refine bodyPost_ret (res_A31 (e := 2) rfl Tryd.underlying27 (by kernel_rfl) rfl (by (repeat (first | with_reducible assumption | with_reducible exact Arr.box (by assumption) | with_reducible exact Box.new _ _ _ _ _ _ | with_reducible exact Arr.new _ _ _ _ _ _ | with_reducible refine Arr.drew ?_ | with_reducible refine Arr.drewN ?_ _ | with_reducible refine Arr.store4 ?_ | with_reducible refine Arr.alloc ?_ _ | with_reducible refine Box.drew ?_ | with_reducible refine Box.drewN ?_ _ | with_reducible refine Box.alloc ?_ _ | with_reducible refine Arr.next ?_ (by assumption) | with_reducible refine Box.next ?_ (by assumption) | refine Arr.oth ?_ (by first | (simp; done) | omega | (simp; omega)) _ | refine Box.oth ?_ (by first | (simp; done) | omega | (simp; omega)) _ | with_reducible exact Arr3.box (by assumption) | with_reducible exact Box3.new _ _ _ _ _ | with_reducible exact Arr3.new _ _ _ _ _ | with_reducible refine Arr3.drew ?_ | with_reducible refine Arr3.drewN ?_ _ | with_reducible refine Arr3.store3 ?_ | with_reducible refine Arr3.alloc ?_ _ | with_reducible refine Box3.drew ?_ | with_reducible refine Box3.drewN ?_ _ | with_reducible refine Box3.alloc ?_ _ | with_reducible refine Arr3.next ?_ (by assumption) | with_reducible refine Box3.next ?_ (by assumption) | refine Arr3.oth ?_ (by first | (simp; done) | omega | (simp; omega)) _ | refine Box3.oth ?_ (by first | (simp; done) | omega | (simp; omega)) _)))) rfl ?_
    exact ⟨_, _, _, rfl, S5.out.up3 hl _ _ _, H5.up3 (Nat.le_refl _) _ _ _⟩

set_option maxRecDepth 100000 in
set_option maxHeartbeats 4000000 in
theorem drawFE_any (k : Nat) (a : Option Addr) (len cap : Nat) (zs : List Int) (w : World) (hS : Src w k a len cap zs) :
    Calls Tryd.prog 64 #[.pointer (some ⟨k, 0, none⟩)] w (FrmPost k a len cap zs w) := by
  have hl := hS.lt
  have R0 := Arr.new w 0 0 0 0 25
  have S0 := hid (hS.alloc (.cells #[.int .i64 0, .int .i64 0, .int .i64 0, .int .i64 0] 25))
  have H0 := (Gk.refl k w).alloc (.cells #[.int .i64 0, .int .i64 0, .int .i64 0, .int .i64 0] 25)
  clear hS
  go_enter Tryd.func64, Tryd.ntmps64
  go_wp2_with fail
  refine (next_any k a len cap zs _ _ S0.out).mono ?_
  rintro e w1 ⟨x1, rfl, hx1, hy1, S1', G1⟩
  have S1 := hid S1'
  have R1 := R0.gk G1 (by omega)
  have H1 := H0.trans G1
  clear S1' G1 R0 H0 S0
  clear hx1 hy1
  by_cases hx : x1 = 0
  · subst hx
    go_wp2_with fail
    refine (spoil_any k a len cap zs _ S1.out).mono ?_
    rintro e w2 ⟨p2, q2, r2, s2, rfl, S2', G2⟩
    have S2 := hid S2'
    have R2 := R1.gk G2 (by omega)
    have H2 := H1.trans G2
    clear S2' G2 R1 H1 S1
    obtain ⟨_, r0, r1, r2, r3, f0, f1, f2, f3⟩ := id R2
    go_wp2_with fail
    refine bodyPost_ret (res_A1 (e := 2) rfl Tryd.underlying25 (by kernel_rfl) rfl (by (repeat (first | with_reducible assumption | with_reducible exact Arr.box (by assumption) | with_reducible apply Arr.drew | with_reducible apply Arr.drewN | with_reducible refine Arr.store4 ?_ | with_reducible apply Arr.alloc | with_reducible refine Box.drew ?_ | with_reducible refine Box.drewN ?_ _ | with_reducible refine Box.alloc ?_ _ | refine Arr.oth ?_ (by first | (simp; done) | omega | (simp; omega)) _ | refine Box.oth ?_ (by first | (simp; done) | omega | (simp; omega)) _)))) rfl ?_
    exact ⟨_, _, _, _, rfl, S2.out.up4 hl _ _ _ _, H2.up4 (Nat.le_refl _) _ _ _ _⟩
  · have hx' : (x1 == 0) = false := by simpa using hx
    clear hx
    go_wp2_with fail
    refine (small_any k a len cap zs _ S1.out).mono ?_
    rintro e w2 ⟨p2, q2, r2, s2, rfl, S2', G2⟩
    have S2 := hid S2'
    have R2 := R1.gk G2 (by omega)
    have H2 := H1.trans G2
    clear S2' G2 R1 H1 S1
    obtain ⟨_, r0, r1, r2, r3, f0, f1, f2, f3⟩ := id R2
    go_wp2_with fail
    refine bodyPost_ret (res_A1 (e := 2) rfl Tryd.underlying25 (by kernel_rfl) rfl (by (repeat (first | with_reducible assumption | with_reducible exact Arr.box (by assumption) | with_reducible apply Arr.drew | with_reducible apply Arr.drewN | with_reducible refine Arr.store4 ?_ | with_reducible apply Arr.alloc | with_reducible refine Box.drew ?_ | with_reducible refine Box.drewN ?_ _ | with_reducible refine Box.alloc ?_ _ | refine Arr.oth ?_ (by first | (simp; done) | omega | (simp; omega)) _ | refine Box.oth ?_ (by first | (simp; done) | omega | (simp; omega)) _)))) rfl ?_
    exact ⟨_, _, _, _, rfl, S2.out.up4 hl _ _ _ _, H2.up4 (Nat.le_refl _) _ _ _ _⟩


end Go.Proofs.YtdogkkmdccieiaaDoor
