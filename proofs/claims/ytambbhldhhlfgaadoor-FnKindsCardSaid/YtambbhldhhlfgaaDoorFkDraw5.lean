/- Draws: forms and matrices. -/
import Derived.Test.YtambbhldhhlfgaaDoorFkZ11
import Derived.Deep.DeepCutAuto
namespace Go.Proofs.YtambbhldhhlfgaaDoor
open Go.ChangeShapes Go.WideShapes Go.ChangeAt Go.RowKit

set_option maxRecDepth 100000 in
set_option maxHeartbeats 4000000 in
theorem bad_any (k : Nat) (a : Option Addr) (len cap : Nat) (zs : List Int) (c0 c1 c2 c3 : Int) (w : World) (hS : Src w k a len cap zs) :
    Calls Tryd.prog 180 #[.pointer (some ⟨k, 0, none⟩), .agg #[.int .i64 c0, .int .i64 c1, .int .i64 c2, .int .i64 c3]] w (FrmPost k a len cap zs w) := by
  have hl := hS.lt
  have X0 := (Arr.new w c0 c1 c2 c3 25).alloc (.cells #[.int .i64 0, .int .i64 0, .int .i64 0, .int .i64 0] 25)
  have R0 := Arr.new (w.alloc (.cells #[.int .i64 c0, .int .i64 c1, .int .i64 c2, .int .i64 c3] 25)) 0 0 0 0 25
  simp only [World.size_alloc] at R0
  have S0 := hid ((hS.alloc (.cells #[.int .i64 c0, .int .i64 c1, .int .i64 c2, .int .i64 c3] 25)).alloc (.cells #[.int .i64 0, .int .i64 0, .int .i64 0, .int .i64 0] 25))
  have H0 := ((Gk.refl k w).alloc (.cells #[.int .i64 c0, .int .i64 c1, .int .i64 c2, .int .i64 c3] 25)).alloc (.cells #[.int .i64 0, .int .i64 0, .int .i64 0, .int .i64 0] 25)
  clear hS
  go_enter Tryd.func180, Tryd.ntmps180
  go_wp2_with fail
  refine (next_any k a len cap zs _ _ S0.out).mono ?_
  rintro e w1 ⟨x1, rfl, hx1, hy1, S1', G1⟩
  have S1 := hid S1'
  have X1 := X0.gk G1 (by omega)
  have R1 := R0.gk G1 (by omega)
  have H1 := H0.trans G1
  clear S1' G1 X0 R0 H0 S0
  clear hx1 hy1
  by_cases hx : x1 = 0
  · subst hx
    go_wp2_with fail
    refine (next_any k a len cap zs _ _ S1.out).mono ?_
    rintro e w2 ⟨x2, rfl, hx2, hy2, S2', G2⟩
    have S2 := hid S2'
    have X2 := X1.gk G2 (by omega)
    have R2 := R1.gk G2 (by omega)
    have H2 := H1.trans G2
    clear S2' G2 X1 R1 H1 S1
    have hwl := R2.lt
    have hL := lit_cells w2 2 [1001, -1001, 1099511627776, -4611686018427387904]
    have HL := hid hL
    clear hL
    have S3 := hid (S2.out.alloc (.cells #[.int .i64 1001, .int .i64 (-1001), .int .i64 1099511627776, .int .i64 (-4611686018427387904)] 2))
    have X3 := X2.alloc (.cells #[.int .i64 1001, .int .i64 (-1001), .int .i64 1099511627776, .int .i64 (-4611686018427387904)] 2)
    have R3 := R2.alloc (.cells #[.int .i64 1001, .int .i64 (-1001), .int .i64 1099511627776, .int .i64 (-4611686018427387904)] 2)
    have H3 := H2.alloc (.cells #[.int .i64 1001, .int .i64 (-1001), .int .i64 1099511627776, .int .i64 (-4611686018427387904)] 2)
    clear S2 X2 R2 H2
    go_wp2_with fail
    refine (pick_any k a len cap zs _ 4 _ S3.out (by omega) (by omega) (by simp) (by omega) HL.out).mono ?_
    rintro e w4 ⟨x4, rfl, S4', G4⟩
    have S4 := hid S4'
    have X4 := X3.gk G4 (by omega)
    have R4 := R3.gk G4 (by omega)
    have H4 := H3.trans G4
    clear S4' G4 X3 R3 H3 S3
    clear HL
    have hxs : x2 = 0 ∨ x2 = 1 ∨ x2 = 2 ∨ x2 = 3 := by omega
    clear hx2 hy2
    obtain ⟨_, y0, y1, y2, y3, g0, g1, g2, g3⟩ := id X4
    rcases hxs with rfl | rfl | rfl | rfl
    · have XE := hid (X4.set0 x4)
      have RE := R4.oth (p := ⟨w.heap.size, 0, none⟩) (by simp) (.int .i64 x4)
      have SE := S4.out.up (p := ⟨w.heap.size, 0, none⟩) hl (.int .i64 x4)
      have HE := H4.up (p := ⟨w.heap.size, 0, none⟩) (Nat.le_refl _) (.int .i64 x4)
      obtain ⟨_, r0, r1, r2, r3, f0, f1, f2, f3⟩ := id R4
      go_wp2_with fail
      refine bodyPost_ret (res_A1 (e := 2) rfl Tryd.underlying25 (by kernel_rfl) rfl (by (repeat (first | with_reducible assumption | with_reducible exact Arr.box (by assumption) | with_reducible apply Arr.drew | with_reducible apply Arr.drewN | with_reducible refine Arr.store4 ?_ | with_reducible apply Arr.alloc | with_reducible refine Box.drew ?_ | with_reducible refine Box.drewN ?_ _ | with_reducible refine Box.alloc ?_ _ | refine Arr.oth ?_ (by first | (simp; done) | omega | (simp; omega)) _ | refine Box.oth ?_ (by first | (simp; done) | omega | (simp; omega)) _)))) rfl ?_
      exact ⟨_, _, _, _, rfl, SE.up4 (by omega) _ _ _ _, HE.up4 (by omega) _ _ _ _⟩
    · have XE := hid (X4.set1 x4)
      have RE := R4.oth (p := ⟨w.heap.size, 1, none⟩) (by simp) (.int .i64 x4)
      have SE := S4.out.up (p := ⟨w.heap.size, 1, none⟩) hl (.int .i64 x4)
      have HE := H4.up (p := ⟨w.heap.size, 1, none⟩) (Nat.le_refl _) (.int .i64 x4)
      obtain ⟨_, r0, r1, r2, r3, f0, f1, f2, f3⟩ := id R4
      go_wp2_with fail
      refine bodyPost_ret (res_A1 (e := 2) rfl Tryd.underlying25 (by kernel_rfl) rfl (by (repeat (first | with_reducible assumption | with_reducible exact Arr.box (by assumption) | with_reducible apply Arr.drew | with_reducible apply Arr.drewN | with_reducible refine Arr.store4 ?_ | with_reducible apply Arr.alloc | with_reducible refine Box.drew ?_ | with_reducible refine Box.drewN ?_ _ | with_reducible refine Box.alloc ?_ _ | refine Arr.oth ?_ (by first | (simp; done) | omega | (simp; omega)) _ | refine Box.oth ?_ (by first | (simp; done) | omega | (simp; omega)) _)))) rfl ?_
      exact ⟨_, _, _, _, rfl, SE.up4 (by omega) _ _ _ _, HE.up4 (by omega) _ _ _ _⟩
    · have XE := hid (X4.set2 x4)
      have RE := R4.oth (p := ⟨w.heap.size, 2, none⟩) (by simp) (.int .i64 x4)
      have SE := S4.out.up (p := ⟨w.heap.size, 2, none⟩) hl (.int .i64 x4)
      have HE := H4.up (p := ⟨w.heap.size, 2, none⟩) (Nat.le_refl _) (.int .i64 x4)
      obtain ⟨_, r0, r1, r2, r3, f0, f1, f2, f3⟩ := id R4
      go_wp2_with fail
      refine bodyPost_ret (res_A1 (e := 2) rfl Tryd.underlying25 (by kernel_rfl) rfl (by (repeat (first | with_reducible assumption | with_reducible exact Arr.box (by assumption) | with_reducible apply Arr.drew | with_reducible apply Arr.drewN | with_reducible refine Arr.store4 ?_ | with_reducible apply Arr.alloc | with_reducible refine Box.drew ?_ | with_reducible refine Box.drewN ?_ _ | with_reducible refine Box.alloc ?_ _ | refine Arr.oth ?_ (by first | (simp; done) | omega | (simp; omega)) _ | refine Box.oth ?_ (by first | (simp; done) | omega | (simp; omega)) _)))) rfl ?_
      exact ⟨_, _, _, _, rfl, SE.up4 (by omega) _ _ _ _, HE.up4 (by omega) _ _ _ _⟩
    · have XE := hid (X4.set3 x4)
      have RE := R4.oth (p := ⟨w.heap.size, 3, none⟩) (by simp) (.int .i64 x4)
      have SE := S4.out.up (p := ⟨w.heap.size, 3, none⟩) hl (.int .i64 x4)
      have HE := H4.up (p := ⟨w.heap.size, 3, none⟩) (Nat.le_refl _) (.int .i64 x4)
      obtain ⟨_, r0, r1, r2, r3, f0, f1, f2, f3⟩ := id R4
      go_wp2_with fail
      refine bodyPost_ret (res_A1 (e := 2) rfl Tryd.underlying25 (by kernel_rfl) rfl (by (repeat (first | with_reducible assumption | with_reducible exact Arr.box (by assumption) | with_reducible apply Arr.drew | with_reducible apply Arr.drewN | with_reducible refine Arr.store4 ?_ | with_reducible apply Arr.alloc | with_reducible refine Box.drew ?_ | with_reducible refine Box.drewN ?_ _ | with_reducible refine Box.alloc ?_ _ | refine Arr.oth ?_ (by first | (simp; done) | omega | (simp; omega)) _ | refine Box.oth ?_ (by first | (simp; done) | omega | (simp; omega)) _)))) rfl ?_
      exact ⟨_, _, _, _, rfl, SE.up4 (by omega) _ _ _ _, HE.up4 (by omega) _ _ _ _⟩
  · have hx' : (x1 == 0) = false := by simpa using hx
    clear hx
    obtain ⟨_, y0, y1, y2, y3, _⟩ := id X1
    obtain ⟨_, r0, r1, r2, r3, f0, f1, f2, f3⟩ := id R1
    go_wp2_with fail
    refine bodyPost_ret (res_A1 (e := 2) rfl Tryd.underlying25 (by kernel_rfl) rfl (by (repeat (first | with_reducible assumption | with_reducible exact Arr.box (by assumption) | with_reducible apply Arr.drew | with_reducible apply Arr.drewN | with_reducible refine Arr.store4 ?_ | with_reducible apply Arr.alloc | with_reducible refine Box.drew ?_ | with_reducible refine Box.drewN ?_ _ | with_reducible refine Box.alloc ?_ _ | refine Arr.oth ?_ (by first | (simp; done) | omega | (simp; omega)) _ | refine Box.oth ?_ (by first | (simp; done) | omega | (simp; omega)) _)))) rfl ?_
    exact ⟨_, _, _, _, rfl, S1.out.up4 (by omega) _ _ _ _, H1.up4 (by omega) _ _ _ _⟩

set_option maxRecDepth 100000 in
set_option maxHeartbeats 4000000 in
theorem spoil_any (k : Nat) (a : Option Addr) (len cap : Nat) (zs : List Int) (w : World) (hS : Src w k a len cap zs) :
    Calls Tryd.prog 146 #[.pointer (some ⟨k, 0, none⟩)] w (FrmPost k a len cap zs w) := by
  have hl := hS.lt
  have R0 := Arr.new w 0 0 0 0 25
  have S0 := hid (hS.alloc (.cells #[.int .i64 0, .int .i64 0, .int .i64 0, .int .i64 0] 25))
  have H0 := (Gk.refl k w).alloc (.cells #[.int .i64 0, .int .i64 0, .int .i64 0, .int .i64 0] 25)
  clear hS
  go_enter Tryd.func146, Tryd.ntmps146
  go_wp2_with fail
  refine (draw_any k a len cap zs _ S0.out).mono ?_
  rintro e w1 ⟨p1, q1, r1, s1, rfl, S1', G1⟩
  have S1 := hid S1'
  have R1 := R0.gk G1 (by omega)
  have H1 := H0.trans G1
  clear S1' G1 R0 H0 S0
  go_wp2_with fail
  refine (bad_any k a len cap zs _ _ _ _ _ S1.out).mono ?_
  rintro e w2 ⟨p2, q2, r2, s2, rfl, S2', G2⟩
  have S2 := hid S2'
  have R2 := R1.gk G2 (by omega)
  have H2 := H1.trans G2
  clear S2' G2 R1 H1 S1
  obtain ⟨_, r0, r1, r2, r3, f0, f1, f2, f3⟩ := id R2
  go_wp2_with fail
  refine bodyPost_ret (res_A1 (e := 2) rfl Tryd.underlying25 (by kernel_rfl) rfl (by (repeat (first | with_reducible assumption | with_reducible exact Arr.box (by assumption) | with_reducible apply Arr.drew | with_reducible apply Arr.drewN | with_reducible refine Arr.store4 ?_ | with_reducible apply Arr.alloc | with_reducible refine Box.drew ?_ | with_reducible refine Box.drewN ?_ _ | with_reducible refine Box.alloc ?_ _ | refine Arr.oth ?_ (by first | (simp; done) | omega | (simp; omega)) _ | refine Box.oth ?_ (by first | (simp; done) | omega | (simp; omega)) _)))) rfl ?_
  exact ⟨_, _, _, _, rfl, S2.out.up4 hl _ _ _ _, H2.up4 (Nat.le_refl _) _ _ _ _⟩


end Go.Proofs.YtambbhldhhlfgaaDoor
