/- Draws of chapter 10: quadratic forms, forms in threes. -/
import Derived.Test.YtehbkmohfipmgaaBtZ17
import Derived.Deep.DeepCutAuto
namespace Go.Proofs.Ytehbkmohfipmgaa
open Go.ChangeShapes Go.WideShapes Go.ChangeAt Go.RowKit

set_option maxRecDepth 100000 in
set_option maxHeartbeats 4000000 in
theorem drawQ_any (k : Nat) (a : Option Addr) (len cap : Nat) (zs : List Int) (w : World) (hS : Src w k a len cap zs) :
    Calls Try.prog 37 #[.pointer (some ⟨k, 0, none⟩)] w (QudPost k a len cap zs w) := by
  have hl := hS.lt
  have R0 := Arr3.new w 0 0 0 25
  have S0 := hid (hS.alloc (.cells #[.int .i64 0, .int .i64 0, .int .i64 0] 25))
  have H0 := (Gk.refl k w).alloc (.cells #[.int .i64 0, .int .i64 0, .int .i64 0] 25)
  clear hS
  go_enter Try.func37, Try.ntmps37
  go_wp2_with fail
  refine (disc_any k a len cap zs _ S0.out).mono ?_
  rintro e w1 ⟨d, rfl, S1', G1⟩
  have S1 := hid S1'
  have R1 := R0.gk G1 (by omega)
  have H1 := H0.trans G1
  have hs1 := S1'.lt
  have hR1 := R1.lt
  clear S1' G1 R0 H0 S0
  go_wp2_with fail
  refine (drawIn_any k a len cap zs d _ S1.out).mono ?_
  rintro e w2 ⟨z0, z1, z2, rfl, S2', G2⟩
  have S2 := hid S2'
  have R2 := R1.gk G2 (by omega)
  have H2 := H1.trans G2
  have hs2 := S2'.lt
  have hR2 := R2.lt
  clear S2' G2 R1 H1 S1
  have X3 := Arr3.new w2 z0 z1 z2 25
  have S3 := hid (S2.out.alloc (.cells #[.int .i64 z0, .int .i64 z1, .int .i64 z2] 25))
  have R3 := R2.alloc (.cells #[.int .i64 z0, .int .i64 z1, .int .i64 z2] 25)
  have H3 := H2.alloc (.cells #[.int .i64 z0, .int .i64 z1, .int .i64 z2] 25)
  obtain ⟨j, hj⟩ : ∃ j, j = w2.heap.size := ⟨_, rfl⟩
  rw [← hj] at X3 hs2 hR2
  clear S2 R2 H2
  have HJ := hid hj
  clear hj
  go_wp2_with fail
  rw [← HJ.out]
  refine (next_any k a len cap zs _ _ S3.out).mono ?_
  rintro e w4 ⟨x, rfl, hx0, hx1, S4', G4⟩
  have S4 := hid S4'
  have X4 := X3.gk G4 (by omega)
  have R4 := R3.gk G4 (by omega)
  have H4 := H3.trans G4
  clear S4' G4 X3 R3 H3 S3 HJ hx0 hx1
  by_cases h0 : x = 0
  · subst h0
    go_wp2_with fail
    refine (next_any k a len cap zs _ _ S4.out).mono ?_
    rintro e w5 ⟨y, rfl, hy0, hy1, S5', G5⟩
    have S5 := hid S5'
    have X5 := X4.gk G5 (by omega)
    have R5 := R4.gk G5 (by omega)
    have H5 := H4.trans G5
    have hs5 := S5'.lt
    have hX5 := X5.lt
    have hR5 := R5.lt
    clear S5' G5 X4 R4 H4 S4
    have HL := hid (lit_ex w5 2 [0, -5, 1125899906842624] #[.int .i64 0, .int .i64 (-5), .int .i64 1125899906842624] 3 rfl rfl)
    have S6 := hid (S5.out.alloc (.cells #[.int .i64 0, .int .i64 (-5), .int .i64 1125899906842624] 2))
    have X6 := X5.alloc (.cells #[.int .i64 0, .int .i64 (-5), .int .i64 1125899906842624] 2)
    have R6 := R5.alloc (.cells #[.int .i64 0, .int .i64 (-5), .int .i64 1125899906842624] 2)
    have H6 := H5.alloc (.cells #[.int .i64 0, .int .i64 (-5), .int .i64 1125899906842624] 2)
    clear X5 R5 H5 S5
    go_wp2_with fail
    refine (pick_any k a len cap zs _ 3 _ S6.out (by omega) (by omega) (by simp) (by omega) HL.out).mono ?_
    rintro e w7 ⟨u, rfl, S7', G7⟩
    have S7 := hid S7'
    have X7 := X6.gk G7 (by omega)
    have R7 := R6.gk G7 (by omega)
    have H7 := H6.trans G7
    clear S7' G7 X6 R6 H6 S6 HL
    have hys : y = 0 ∨ y = 1 ∨ y = 2 := by omega
    clear hy0 hy1
    obtain ⟨_, y0, y1, y2, g0, g1, g2⟩ := id X7
    rcases hys with rfl | rfl | rfl
    · have XE := hid (X7.set0 u)
      have RE := R7.oth (p := ⟨j, 0, none⟩) (by simp; omega) (.int .i64 u)
      have SE := S7.out.up (p := ⟨j, 0, none⟩) (by simp; omega) (.int .i64 u)
      have HE := H7.up (p := ⟨j, 0, none⟩) (by simp; omega) (.int .i64 u)
      obtain ⟨_, r0, r1, r2, f0, f1, f2⟩ := id R7
      go_wp2_with fail
      refine bodyPost_ret (res_A31 (e := 2) rfl Try.underlying25 (by kernel_rfl) rfl (by (repeat (first | with_reducible assumption | with_reducible exact Arr.box (by assumption) | with_reducible exact Box.new _ _ _ _ _ _ | with_reducible exact Arr.new _ _ _ _ _ _ | with_reducible refine Arr.drew ?_ | with_reducible refine Arr.drewN ?_ _ | with_reducible refine Arr.store4 ?_ | with_reducible refine Arr.alloc ?_ _ | with_reducible refine Box.drew ?_ | with_reducible refine Box.drewN ?_ _ | with_reducible refine Box.alloc ?_ _ | with_reducible refine Arr.next ?_ (by assumption) | with_reducible refine Box.next ?_ (by assumption) | refine Arr.oth ?_ (by first | (simp; done) | omega | (simp; omega)) _ | refine Box.oth ?_ (by first | (simp; done) | omega | (simp; omega)) _ | with_reducible exact Arr3.box (by assumption) | with_reducible exact Box3.new _ _ _ _ _ | with_reducible exact Arr3.new _ _ _ _ _ | with_reducible refine Arr3.drew ?_ | with_reducible refine Arr3.drewN ?_ _ | with_reducible refine Arr3.store3 ?_ | with_reducible refine Arr3.alloc ?_ _ | with_reducible refine Box3.drew ?_ | with_reducible refine Box3.drewN ?_ _ | with_reducible refine Box3.alloc ?_ _ | with_reducible refine Arr3.next ?_ (by assumption) | with_reducible refine Box3.next ?_ (by assumption) | refine Arr3.oth ?_ (by first | (simp; done) | omega | (simp; omega)) _ | refine Box3.oth ?_ (by first | (simp; done) | omega | (simp; omega)) _)))) rfl ?_
      exact ⟨_, _, _, rfl, SE.up3 hl _ _ _, HE.up3 (Nat.le_refl _) _ _ _⟩
    · have XE := hid (X7.set1 u)
      have RE := R7.oth (p := ⟨j, 1, none⟩) (by simp; omega) (.int .i64 u)
      have SE := S7.out.up (p := ⟨j, 1, none⟩) (by simp; omega) (.int .i64 u)
      have HE := H7.up (p := ⟨j, 1, none⟩) (by simp; omega) (.int .i64 u)
      obtain ⟨_, r0, r1, r2, f0, f1, f2⟩ := id R7
      go_wp2_with fail
      refine bodyPost_ret (res_A31 (e := 2) rfl Try.underlying25 (by kernel_rfl) rfl (by (repeat (first | with_reducible assumption | with_reducible exact Arr.box (by assumption) | with_reducible exact Box.new _ _ _ _ _ _ | with_reducible exact Arr.new _ _ _ _ _ _ | with_reducible refine Arr.drew ?_ | with_reducible refine Arr.drewN ?_ _ | with_reducible refine Arr.store4 ?_ | with_reducible refine Arr.alloc ?_ _ | with_reducible refine Box.drew ?_ | with_reducible refine Box.drewN ?_ _ | with_reducible refine Box.alloc ?_ _ | with_reducible refine Arr.next ?_ (by assumption) | with_reducible refine Box.next ?_ (by assumption) | refine Arr.oth ?_ (by first | (simp; done) | omega | (simp; omega)) _ | refine Box.oth ?_ (by first | (simp; done) | omega | (simp; omega)) _ | with_reducible exact Arr3.box (by assumption) | with_reducible exact Box3.new _ _ _ _ _ | with_reducible exact Arr3.new _ _ _ _ _ | with_reducible refine Arr3.drew ?_ | with_reducible refine Arr3.drewN ?_ _ | with_reducible refine Arr3.store3 ?_ | with_reducible refine Arr3.alloc ?_ _ | with_reducible refine Box3.drew ?_ | with_reducible refine Box3.drewN ?_ _ | with_reducible refine Box3.alloc ?_ _ | with_reducible refine Arr3.next ?_ (by assumption) | with_reducible refine Box3.next ?_ (by assumption) | refine Arr3.oth ?_ (by first | (simp; done) | omega | (simp; omega)) _ | refine Box3.oth ?_ (by first | (simp; done) | omega | (simp; omega)) _)))) rfl ?_
      exact ⟨_, _, _, rfl, SE.up3 hl _ _ _, HE.up3 (Nat.le_refl _) _ _ _⟩
    · have XE := hid (X7.set2 u)
      have RE := R7.oth (p := ⟨j, 2, none⟩) (by simp; omega) (.int .i64 u)
      have SE := S7.out.up (p := ⟨j, 2, none⟩) (by simp; omega) (.int .i64 u)
      have HE := H7.up (p := ⟨j, 2, none⟩) (by simp; omega) (.int .i64 u)
      obtain ⟨_, r0, r1, r2, f0, f1, f2⟩ := id R7
      go_wp2_with fail
      refine bodyPost_ret (res_A31 (e := 2) rfl Try.underlying25 (by kernel_rfl) rfl (by (repeat (first | with_reducible assumption | with_reducible exact Arr.box (by assumption) | with_reducible exact Box.new _ _ _ _ _ _ | with_reducible exact Arr.new _ _ _ _ _ _ | with_reducible refine Arr.drew ?_ | with_reducible refine Arr.drewN ?_ _ | with_reducible refine Arr.store4 ?_ | with_reducible refine Arr.alloc ?_ _ | with_reducible refine Box.drew ?_ | with_reducible refine Box.drewN ?_ _ | with_reducible refine Box.alloc ?_ _ | with_reducible refine Arr.next ?_ (by assumption) | with_reducible refine Box.next ?_ (by assumption) | refine Arr.oth ?_ (by first | (simp; done) | omega | (simp; omega)) _ | refine Box.oth ?_ (by first | (simp; done) | omega | (simp; omega)) _ | with_reducible exact Arr3.box (by assumption) | with_reducible exact Box3.new _ _ _ _ _ | with_reducible exact Arr3.new _ _ _ _ _ | with_reducible refine Arr3.drew ?_ | with_reducible refine Arr3.drewN ?_ _ | with_reducible refine Arr3.store3 ?_ | with_reducible refine Arr3.alloc ?_ _ | with_reducible refine Box3.drew ?_ | with_reducible refine Box3.drewN ?_ _ | with_reducible refine Box3.alloc ?_ _ | with_reducible refine Arr3.next ?_ (by assumption) | with_reducible refine Box3.next ?_ (by assumption) | refine Arr3.oth ?_ (by first | (simp; done) | omega | (simp; omega)) _ | refine Box3.oth ?_ (by first | (simp; done) | omega | (simp; omega)) _)))) rfl ?_
      exact ⟨_, _, _, rfl, SE.up3 hl _ _ _, HE.up3 (Nat.le_refl _) _ _ _⟩
  · have h0' : (x == 0) = false := by simpa using h0
    obtain ⟨_, y0, y1, y2, g0, g1, g2⟩ := id X4
    obtain ⟨_, r0, r1, r2, f0, f1, f2⟩ := id R4
    have hX4 := X4.lt
    have hS4 := S4.out.lt
    by_cases h1 : x = 1
    · subst h1
      clear h0
      have XE := hid X4
      go_wp2_with fail
      refine bodyPost_ret (res_A31 (e := 2) rfl Try.underlying25 (by kernel_rfl) rfl (by (repeat (first | with_reducible assumption | with_reducible exact Arr.box (by assumption) | with_reducible exact Box.new _ _ _ _ _ _ | with_reducible exact Arr.new _ _ _ _ _ _ | with_reducible refine Arr.drew ?_ | with_reducible refine Arr.drewN ?_ _ | with_reducible refine Arr.store4 ?_ | with_reducible refine Arr.alloc ?_ _ | with_reducible refine Box.drew ?_ | with_reducible refine Box.drewN ?_ _ | with_reducible refine Box.alloc ?_ _ | with_reducible refine Arr.next ?_ (by assumption) | with_reducible refine Box.next ?_ (by assumption) | refine Arr.oth ?_ (by first | (simp; done) | omega | (simp; omega)) _ | refine Box.oth ?_ (by first | (simp; done) | omega | (simp; omega)) _ | with_reducible exact Arr3.box (by assumption) | with_reducible exact Box3.new _ _ _ _ _ | with_reducible exact Arr3.new _ _ _ _ _ | with_reducible refine Arr3.drew ?_ | with_reducible refine Arr3.drewN ?_ _ | with_reducible refine Arr3.store3 ?_ | with_reducible refine Arr3.alloc ?_ _ | with_reducible refine Box3.drew ?_ | with_reducible refine Box3.drewN ?_ _ | with_reducible refine Box3.alloc ?_ _ | with_reducible refine Arr3.next ?_ (by assumption) | with_reducible refine Box3.next ?_ (by assumption) | refine Arr3.oth ?_ (by first | (simp; done) | omega | (simp; omega)) _ | refine Box3.oth ?_ (by first | (simp; done) | omega | (simp; omega)) _)))) rfl ?_
      exact ⟨_, _, _, rfl, (S4.out.up3 (j := j) (by omega) _ _ _).up3 hl _ _ _, (H4.up3 (j := j) (by omega) _ _ _).up3 (Nat.le_refl _) _ _ _⟩
    · have h1' : (x == 1) = false := by simpa using h1
      clear h0 h1
      go_wp2_with fail
      refine bodyPost_ret (res_A31 (e := 2) rfl Try.underlying25 (by kernel_rfl) rfl (by (repeat (first | with_reducible assumption | with_reducible exact Arr.box (by assumption) | with_reducible exact Box.new _ _ _ _ _ _ | with_reducible exact Arr.new _ _ _ _ _ _ | with_reducible refine Arr.drew ?_ | with_reducible refine Arr.drewN ?_ _ | with_reducible refine Arr.store4 ?_ | with_reducible refine Arr.alloc ?_ _ | with_reducible refine Box.drew ?_ | with_reducible refine Box.drewN ?_ _ | with_reducible refine Box.alloc ?_ _ | with_reducible refine Arr.next ?_ (by assumption) | with_reducible refine Box.next ?_ (by assumption) | refine Arr.oth ?_ (by first | (simp; done) | omega | (simp; omega)) _ | refine Box.oth ?_ (by first | (simp; done) | omega | (simp; omega)) _ | with_reducible exact Arr3.box (by assumption) | with_reducible exact Box3.new _ _ _ _ _ | with_reducible exact Arr3.new _ _ _ _ _ | with_reducible refine Arr3.drew ?_ | with_reducible refine Arr3.drewN ?_ _ | with_reducible refine Arr3.store3 ?_ | with_reducible refine Arr3.alloc ?_ _ | with_reducible refine Box3.drew ?_ | with_reducible refine Box3.drewN ?_ _ | with_reducible refine Box3.alloc ?_ _ | with_reducible refine Arr3.next ?_ (by assumption) | with_reducible refine Box3.next ?_ (by assumption) | refine Arr3.oth ?_ (by first | (simp; done) | omega | (simp; omega)) _ | refine Box3.oth ?_ (by first | (simp; done) | omega | (simp; omega)) _)))) rfl ?_
      exact ⟨_, _, _, rfl, S4.out.up3 hl _ _ _, H4.up3 (Nat.le_refl _) _ _ _⟩

set_option maxRecDepth 100000 in
set_option maxHeartbeats 4000000 in
theorem drawT_any (k : Nat) (a : Option Addr) (len cap : Nat) (zs : List Int) (w : World) (hS : Src w k a len cap zs) :
    Calls Try.prog 60 #[.pointer (some ⟨k, 0, none⟩)] w (FrmPost k a len cap zs w) := by
  have hl := hS.lt
  have R0 := Arr.new w 0 0 0 0 42
  have S0 := hid (hS.alloc (.cells #[.int .i64 0, .int .i64 0, .int .i64 0, .int .i64 0] 42))
  have H0 := (Gk.refl k w).alloc (.cells #[.int .i64 0, .int .i64 0, .int .i64 0, .int .i64 0] 42)
  clear hS
  go_enter Try.func60, Try.ntmps60
  go_wp2_with fail
  refine (next_any k a len cap zs _ _ S0.out).mono ?_
  rintro e w1 ⟨x1, rfl, hx1, hy1, S1', G1⟩
  have S1 := hid S1'
  have R1 := R0.gk G1 (by omega)
  have H1 := H0.trans G1
  have hs1 := S1'.lt
  have hR1 := R1.lt
  clear S1' G1 R0 H0 S0
  clear hx1 hy1
  by_cases hx : x1 = 0
  · subst hx
    go_wp2_with fail
    refine (spoil_any k a len cap zs _ S1.out).mono ?_
    rintro e w2 ⟨p2, q2, s2, t2, rfl, S2', G2⟩
    have S2 := hid S2'
    have R2 := R1.gk G2 (by omega)
    have H2 := H1.trans G2
    have hs2 := S2'.lt
    have hR2 := R2.lt
    clear S2' G2 R1 H1 S1
    obtain ⟨_, r0, r1, r2, r3, f0, f1, f2, f3⟩ := id R2
    go_wp2_with fail
    refine bodyPost_ret (res_A1 (e := 2) rfl Try.underlying42 (by kernel_rfl) rfl (by (repeat (first | with_reducible assumption | with_reducible exact Arr.box (by assumption) | with_reducible apply Arr.drew | with_reducible apply Arr.drewN | with_reducible refine Arr.store4 ?_ | with_reducible apply Arr.alloc | with_reducible refine Box.drew ?_ | with_reducible refine Box.drewN ?_ _ | with_reducible refine Box.alloc ?_ _ | refine Arr.oth ?_ (by first | (simp; done) | omega | (simp; omega)) _ | refine Box.oth ?_ (by first | (simp; done) | omega | (simp; omega)) _)))) rfl ?_
    exact ⟨_, _, _, _, rfl, S2.out.up4 hl _ _ _ _, H2.up4 (Nat.le_refl _) _ _ _ _⟩
  · have hx' : (x1 == 0) = false := by simpa using hx
    clear hx
    have HL := hid (lit_ex w1 2 [1, 2, 3, 5] #[.int .i64 1, .int .i64 2, .int .i64 3, .int .i64 5] 4 rfl rfl)
    have S2 := hid (S1.out.alloc (.cells #[.int .i64 1, .int .i64 2, .int .i64 3, .int .i64 5] 2))
    have R2 := R1.alloc (.cells #[.int .i64 1, .int .i64 2, .int .i64 3, .int .i64 5] 2)
    have H2 := H1.alloc (.cells #[.int .i64 1, .int .i64 2, .int .i64 3, .int .i64 5] 2)
    clear R1 H1 S1
    go_wp2_with fail
    refine (pick_any k a len cap zs _ 4 _ S2.out (by omega) (by omega) (by simp) (by omega) HL.out).mono ?_
    rintro e w3 ⟨u, rfl, S3', G3⟩
    have S3 := hid S3'
    have R3 := R2.gk G3 (by omega)
    have H3 := H2.trans G3
    clear S3' G3 R2 H2 S2 HL
    go_wp2_with fail
    refine (drawOf_any k a len cap zs _ _ S3.out).mono ?_
    rintro e w4 ⟨z0, z1, z2, z3, rfl, S4', G4⟩
    have S4 := hid S4'
    have R4 := R3.gk G4 (by omega)
    have H4 := H3.trans G4
    have hs4 := S4'.lt
    have hR4 := R4.lt
    clear S4' G4 R3 H3 S3
    have X5 := Arr.new w4 z0 z1 z2 z3 42
    have S5 := hid (S4.out.alloc (.cells #[.int .i64 z0, .int .i64 z1, .int .i64 z2, .int .i64 z3] 42))
    have R5 := R4.alloc (.cells #[.int .i64 z0, .int .i64 z1, .int .i64 z2, .int .i64 z3] 42)
    have H5 := H4.alloc (.cells #[.int .i64 z0, .int .i64 z1, .int .i64 z2, .int .i64 z3] 42)
    obtain ⟨j, hj⟩ : ∃ j, j = w4.heap.size := ⟨_, rfl⟩
    rw [← hj] at X5 hs4 hR4
    clear S4 R4 H4
    go_upto_region 4 with fail
    rw [← hj]
    generalize w4.alloc (.cells #[.int .i64 z0, .int .i64 z1, .int .i64 z2, .int .i64 z3] 42) = W5 at X5 S5 R5 H5 ⊢
    clear hj
    have hS5 := S5.out.lt
    have hX5 := X5.lt
    have hR5 := R5.lt
    obtain ⟨_, y0, y1, y2, y3, g0, g1, g2, g3⟩ := id X5
    obtain ⟨_, r0, r1, r2, r3, f0, f1, f2, f3⟩ := id R5
    go_wp2_with fail
    refine bodyPost_ret (res_A1 (e := 2) rfl Try.underlying42 (by kernel_rfl) rfl (by (repeat (first | with_reducible assumption | with_reducible exact Arr.box (by assumption) | with_reducible apply Arr.drew | with_reducible apply Arr.drewN | with_reducible refine Arr.store4 ?_ | with_reducible apply Arr.alloc | with_reducible refine Box.drew ?_ | with_reducible refine Box.drewN ?_ _ | with_reducible refine Box.alloc ?_ _ | refine Arr.oth ?_ (by first | (simp; done) | omega | (simp; omega)) _ | refine Box.oth ?_ (by first | (simp; done) | omega | (simp; omega)) _)))) rfl ?_
    exact ⟨_, _, _, _, rfl, ((S5.out.up (p := ⟨j, 1, none⟩) (by simp; omega) _).up (p := ⟨j, 2, none⟩) (by simp; omega) _).up4 hl _ _ _ _, ((H5.up (p := ⟨j, 1, none⟩) (by simp; omega) _).up (p := ⟨j, 2, none⟩) (by simp; omega) _).up4 (Nat.le_refl _) _ _ _ _⟩

end Go.Proofs.Ytehbkmohfipmgaa
