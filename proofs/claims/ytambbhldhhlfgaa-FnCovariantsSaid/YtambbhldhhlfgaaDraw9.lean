/- Draws of chapter 3: quadratic forms. -/
import Derived.Test.YtambbhldhhlfgaaDraw8
import Derived.Test.YtambbhldhhlfgaaH
import Derived.Test.YtambbhldhhlfgaaArr3
namespace Go.Proofs.Ytambbhldhhlfgaa
open Go.ChangeShapes Go.WideShapes Go.ChangeAt Go.RowKit

theorem Arr3.gk {k j : Nat} {u v : World} {a b c : Int} (hA : Arr3 u j a b c) (h : Gk k u v) (hk : j ≠ k) : Arr3 v j a b c :=
  ⟨Nat.lt_of_lt_of_le hA.lt h.size, (h.cell (p := ⟨j, 0, none⟩) hA.lt hk).trans hA.c0, (h.cell (p := ⟨j, 1, none⟩) hA.lt hk).trans hA.c1, (h.cell (p := ⟨j, 2, none⟩) hA.lt hk).trans hA.c2,
    (h.frozen (p := ⟨j, 0, none⟩) hA.lt hk).trans hA.f0, (h.frozen (p := ⟨j, 1, none⟩) hA.lt hk).trans hA.f1, (h.frozen (p := ⟨j, 2, none⟩) hA.lt hk).trans hA.f2⟩
theorem Src.up3 {w : World} {k : Nat} {a : Option Addr} {len cap : Nat} {zs : List Int} (h : Src w k a len cap zs) {j : Nat} (hj : k < j) (x y z : Value) : Src (((w.setCell ⟨j, 0, none⟩ x).setCell ⟨j, 1, none⟩ y).setCell ⟨j, 2, none⟩ z) k a len cap zs :=
  ((h.up (p := ⟨j, 0, none⟩) hj x).up (p := ⟨j, 1, none⟩) hj y).up (p := ⟨j, 2, none⟩) hj z
theorem Gk.up3 {k : Nat} {u v : World} (h : Gk k u v) {j : Nat} (hj : u.heap.size ≤ j) (x y z : Value) : Gk k u (((v.setCell ⟨j, 0, none⟩ x).setCell ⟨j, 1, none⟩ y).setCell ⟨j, 2, none⟩ z) :=
  ((h.up (p := ⟨j, 0, none⟩) hj x).up (p := ⟨j, 1, none⟩) hj y).up (p := ⟨j, 2, none⟩) hj z
/-- A quadratic form, whatever it is. -/
def QudPost (k : Nat) (a : Option Addr) (len cap : Nat) (zs : List Int) (w : World) (e : Ending) (w' : World) : Prop :=
  ∃ p q r : Int, e = .returned (.agg #[.int .i64 p, .int .i64 q, .int .i64 r]) ∧ Src w' k a len cap zs ∧ Gk k w w'

set_option maxRecDepth 100000 in
set_option maxHeartbeats 4000000 in
theorem qdraw_any (k : Nat) (a : Option Addr) (len cap : Nat) (zs : List Int) (w : World) (hS : Src w k a len cap zs) :
    Calls Try.prog 84 #[.pointer (some ⟨k, 0, none⟩)] w (QudPost k a len cap zs w) := by
  have hl := hS.lt
  have R0 := Arr3.new w 0 0 0 49
  have S0 := hid (hS.alloc (.cells #[.int .i64 0, .int .i64 0, .int .i64 0] 49))
  have H0 := (Gk.refl k w).alloc (.cells #[.int .i64 0, .int .i64 0, .int .i64 0] 49)
  clear hS
  go_enter Try.func84, Try.ntmps84
  go_wp2_with fail
  refine (next_any k a len cap zs _ _ S0.out).mono ?_
  rintro e w1 ⟨x1, rfl, hx1, hy1, S1', G1⟩
  have S1 := hid S1'
  have R1 := R0.gk G1 (by omega)
  have H1 := H0.trans G1
  clear S1' G1 R0 H0 S0
  clear hx1 hy1
  by_cases hx : x1 = 0
  · subst hx
    go_wp2_with fail
    refine (draw_any k a len cap zs _ S1.out).mono ?_
    rintro e w2 ⟨p2, q2, r2, s2, rfl, S2', G2⟩
    have S2 := hid S2'
    have R2 := R1.gk G2 (by omega)
    have H2 := H1.trans G2
    clear S2' G2 R1 H1 S1
    go_wp2_with fail
    refine (sHess0_any p2 q2 r2 s2 _).mono ?_
    rintro e w3 ⟨rfl, hb3⟩
    have S3 := hid (S2.out.below hb3)
    have R3 := R2.next hb3
    have H3 := H2.below hb3
    clear hb3 R2 H2 S2
    obtain ⟨_, r0, r1, r2, f0, f1, f2⟩ := id R3
    go_wp2_with fail
    refine bodyPost_ret (res_A31 (e := 2) rfl Try.underlying49 (by kernel_rfl) rfl (by (repeat (first | with_reducible assumption | with_reducible exact Arr.box (by assumption) | with_reducible exact Box.new _ _ _ _ _ _ | with_reducible exact Arr.new _ _ _ _ _ _ | with_reducible refine Arr.drew ?_ | with_reducible refine Arr.drewN ?_ _ | with_reducible refine Arr.store4 ?_ | with_reducible refine Arr.alloc ?_ _ | with_reducible refine Box.drew ?_ | with_reducible refine Box.drewN ?_ _ | with_reducible refine Box.alloc ?_ _ | with_reducible refine Arr.next ?_ (by assumption) | with_reducible refine Box.next ?_ (by assumption) | refine Arr.oth ?_ (by first | (simp; done) | omega | (simp; omega)) _ | refine Box.oth ?_ (by first | (simp; done) | omega | (simp; omega)) _ | with_reducible exact Arr3.box (by assumption) | with_reducible exact Box3.new _ _ _ _ _ | with_reducible exact Arr3.new _ _ _ _ _ | with_reducible refine Arr3.drew ?_ | with_reducible refine Arr3.drewN ?_ _ | with_reducible refine Arr3.store3 ?_ | with_reducible refine Arr3.alloc ?_ _ | with_reducible refine Box3.drew ?_ | with_reducible refine Box3.drewN ?_ _ | with_reducible refine Box3.alloc ?_ _ | with_reducible refine Arr3.next ?_ (by assumption) | with_reducible refine Box3.next ?_ (by assumption) | refine Arr3.oth ?_ (by first | (simp; done) | omega | (simp; omega)) _ | refine Box3.oth ?_ (by first | (simp; done) | omega | (simp; omega)) _)))) rfl ?_
    exact ⟨_, _, _, rfl, S3.out.up3 hl _ _ _, H3.up3 (Nat.le_refl _) _ _ _⟩
  · have hx' : (x1 == 0) = false := by simpa using hx
    clear hx
    have hwl := R1.lt
    have hL := lit_cells w1 2 [3, 20, 1000, 1000000]
    have HL := hid hL
    clear hL
    have S2 := hid (S1.out.alloc (.cells #[.int .i64 3, .int .i64 20, .int .i64 1000, .int .i64 1000000] 2))
    have R2 := R1.alloc (.cells #[.int .i64 3, .int .i64 20, .int .i64 1000, .int .i64 1000000] 2)
    have H2 := H1.alloc (.cells #[.int .i64 3, .int .i64 20, .int .i64 1000, .int .i64 1000000] 2)
    clear S1 R1 H1
    go_wp2_with fail
    refine (pick_any k a len cap zs _ 4 _ S2.out (by omega) (by omega) (by simp) (by omega) HL.out).mono ?_
    rintro e w3 ⟨x3, rfl, S3', G3⟩
    have S3 := hid S3'
    have R3 := R2.gk G3 (by omega)
    have H3 := H2.trans G3
    clear S3' G3 R2 H2 S2
    clear HL
    go_wp2_with fail
    refine (part_any k a len cap zs _ _ S3.out).mono ?_
    rintro e w4 ⟨x4, rfl, S4', G4⟩
    have S4 := hid S4'
    have R4 := R3.gk G4 (by omega)
    have H4 := H3.trans G4
    clear S4' G4 R3 H3 S3
    go_wp2_with fail
    refine (part_any k a len cap zs _ _ S4.out).mono ?_
    rintro e w5 ⟨x5, rfl, S5', G5⟩
    have S5 := hid S5'
    have R5 := R4.gk G5 (by omega)
    have H5 := H4.trans G5
    clear S5' G5 R4 H4 S4
    go_wp2_with fail
    refine (part_any k a len cap zs _ _ S5.out).mono ?_
    rintro e w6 ⟨x6, rfl, S6', G6⟩
    have S6 := hid S6'
    have R6 := R5.gk G6 (by omega)
    have H6 := H5.trans G6
    clear S6' G6 R5 H5 S5
    have X6 := Arr3.new w6 x4 x5 x6 49
    have hw := R6.lt
    obtain ⟨jx, hjx⟩ : ∃ j, j = w6.heap.size := ⟨_, rfl⟩
    have hjr : w.heap.size < jx := by omega
    have hjk : k < jx := by have := S6.out.lt; omega
    rw [← hjx] at X6
    have S7 := hid (S6.out.alloc (.cells #[.int .i64 x4, .int .i64 x5, .int .i64 x6] 49))
    have R7 := R6.alloc (.cells #[.int .i64 x4, .int .i64 x5, .int .i64 x6] 49)
    have H7 := H6.alloc (.cells #[.int .i64 x4, .int .i64 x5, .int .i64 x6] 49)
    clear S6 R6 H6
    have X7 := X6
    clear X6
    have HJ := hid hjx
    clear hjx hw
    go_wp2_with fail
    rw [← HJ.out]
    refine (next_any k a len cap zs _ _ S7.out).mono ?_
    rintro e w8 ⟨x8, rfl, hx8, hy8, S8', G8⟩
    have S8 := hid S8'
    have R8 := R7.gk G8 (by omega)
    have X8 := X7.gk G8 (by omega)
    have H8 := H7.trans G8
    clear S8' G8 R7 X7 H7 S7
    clear hx8 hy8
    by_cases h0 : x8 = 0
    · subst h0
      go_wp2_with fail
      refine (next_any k a len cap zs _ _ S8.out).mono ?_
      rintro e w9 ⟨x9, rfl, hx9, hy9, S9', G9⟩
      have S9 := hid S9'
      have R9 := R8.gk G9 (by omega)
      have X9 := X8.gk G9 (by omega)
      have H9 := H8.trans G9
      clear S9' G9 R8 X8 H8 S8
      have hwl := R9.lt
      have hL := lit_cells w9 2 [1000000000, -1000000001, 1000000000000]
      have HL := hid hL
      clear hL
      have S10 := hid (S9.out.alloc (.cells #[.int .i64 1000000000, .int .i64 (-1000000001), .int .i64 1000000000000] 2))
      have R10 := R9.alloc (.cells #[.int .i64 1000000000, .int .i64 (-1000000001), .int .i64 1000000000000] 2)
      have X10 := X9.alloc (.cells #[.int .i64 1000000000, .int .i64 (-1000000001), .int .i64 1000000000000] 2)
      have H10 := H9.alloc (.cells #[.int .i64 1000000000, .int .i64 (-1000000001), .int .i64 1000000000000] 2)
      clear S9 R9 X9 H9
      go_wp2_with fail
      refine (pick_any k a len cap zs _ 3 _ S10.out (by omega) (by omega) (by simp) (by omega) HL.out).mono ?_
      rintro e w11 ⟨x11, rfl, S11', G11⟩
      have S11 := hid S11'
      have R11 := R10.gk G11 (by omega)
      have X11 := X10.gk G11 (by omega)
      have H11 := H10.trans G11
      clear S11' G11 R10 X10 H10 S10
      clear HL
      have hxs : x9 = 0 ∨ x9 = 1 ∨ x9 = 2 := by omega
      clear hx9 hy9
      obtain ⟨_, y0, y1, y2, g0, g1, g2⟩ := id X11
      rcases hxs with rfl | rfl | rfl
      · have XE := hid (X11.set0 x11)
        have RE := R11.oth (p := ⟨jx, 0, none⟩) (by simp; omega) (.int .i64 x11)
        have SE := S11.out.up (p := ⟨jx, 0, none⟩) hjk (.int .i64 x11)
        have HE := H11.up (p := ⟨jx, 0, none⟩) (by simp; omega) (.int .i64 x11)
        obtain ⟨_, r0, r1, r2, f0, f1, f2⟩ := id R11
        go_wp2_with fail
        refine bodyPost_ret (res_A31 (e := 2) rfl Try.underlying49 (by kernel_rfl) rfl (by (repeat (first | with_reducible assumption | with_reducible exact Arr.box (by assumption) | with_reducible exact Box.new _ _ _ _ _ _ | with_reducible exact Arr.new _ _ _ _ _ _ | with_reducible refine Arr.drew ?_ | with_reducible refine Arr.drewN ?_ _ | with_reducible refine Arr.store4 ?_ | with_reducible refine Arr.alloc ?_ _ | with_reducible refine Box.drew ?_ | with_reducible refine Box.drewN ?_ _ | with_reducible refine Box.alloc ?_ _ | with_reducible refine Arr.next ?_ (by assumption) | with_reducible refine Box.next ?_ (by assumption) | refine Arr.oth ?_ (by first | (simp; done) | omega | (simp; omega)) _ | refine Box.oth ?_ (by first | (simp; done) | omega | (simp; omega)) _ | with_reducible exact Arr3.box (by assumption) | with_reducible exact Box3.new _ _ _ _ _ | with_reducible exact Arr3.new _ _ _ _ _ | with_reducible refine Arr3.drew ?_ | with_reducible refine Arr3.drewN ?_ _ | with_reducible refine Arr3.store3 ?_ | with_reducible refine Arr3.alloc ?_ _ | with_reducible refine Box3.drew ?_ | with_reducible refine Box3.drewN ?_ _ | with_reducible refine Box3.alloc ?_ _ | with_reducible refine Arr3.next ?_ (by assumption) | with_reducible refine Box3.next ?_ (by assumption) | refine Arr3.oth ?_ (by first | (simp; done) | omega | (simp; omega)) _ | refine Box3.oth ?_ (by first | (simp; done) | omega | (simp; omega)) _)))) rfl ?_
        exact ⟨_, _, _, rfl, SE.up3 hl _ _ _, HE.up3 (Nat.le_refl _) _ _ _⟩
      · have XE := hid (X11.set1 x11)
        have RE := R11.oth (p := ⟨jx, 1, none⟩) (by simp; omega) (.int .i64 x11)
        have SE := S11.out.up (p := ⟨jx, 1, none⟩) hjk (.int .i64 x11)
        have HE := H11.up (p := ⟨jx, 1, none⟩) (by simp; omega) (.int .i64 x11)
        obtain ⟨_, r0, r1, r2, f0, f1, f2⟩ := id R11
        go_wp2_with fail
        refine bodyPost_ret (res_A31 (e := 2) rfl Try.underlying49 (by kernel_rfl) rfl (by (repeat (first | with_reducible assumption | with_reducible exact Arr.box (by assumption) | with_reducible exact Box.new _ _ _ _ _ _ | with_reducible exact Arr.new _ _ _ _ _ _ | with_reducible refine Arr.drew ?_ | with_reducible refine Arr.drewN ?_ _ | with_reducible refine Arr.store4 ?_ | with_reducible refine Arr.alloc ?_ _ | with_reducible refine Box.drew ?_ | with_reducible refine Box.drewN ?_ _ | with_reducible refine Box.alloc ?_ _ | with_reducible refine Arr.next ?_ (by assumption) | with_reducible refine Box.next ?_ (by assumption) | refine Arr.oth ?_ (by first | (simp; done) | omega | (simp; omega)) _ | refine Box.oth ?_ (by first | (simp; done) | omega | (simp; omega)) _ | with_reducible exact Arr3.box (by assumption) | with_reducible exact Box3.new _ _ _ _ _ | with_reducible exact Arr3.new _ _ _ _ _ | with_reducible refine Arr3.drew ?_ | with_reducible refine Arr3.drewN ?_ _ | with_reducible refine Arr3.store3 ?_ | with_reducible refine Arr3.alloc ?_ _ | with_reducible refine Box3.drew ?_ | with_reducible refine Box3.drewN ?_ _ | with_reducible refine Box3.alloc ?_ _ | with_reducible refine Arr3.next ?_ (by assumption) | with_reducible refine Box3.next ?_ (by assumption) | refine Arr3.oth ?_ (by first | (simp; done) | omega | (simp; omega)) _ | refine Box3.oth ?_ (by first | (simp; done) | omega | (simp; omega)) _)))) rfl ?_
        exact ⟨_, _, _, rfl, SE.up3 hl _ _ _, HE.up3 (Nat.le_refl _) _ _ _⟩
      · have XE := hid (X11.set2 x11)
        have RE := R11.oth (p := ⟨jx, 2, none⟩) (by simp; omega) (.int .i64 x11)
        have SE := S11.out.up (p := ⟨jx, 2, none⟩) hjk (.int .i64 x11)
        have HE := H11.up (p := ⟨jx, 2, none⟩) (by simp; omega) (.int .i64 x11)
        obtain ⟨_, r0, r1, r2, f0, f1, f2⟩ := id R11
        go_wp2_with fail
        refine bodyPost_ret (res_A31 (e := 2) rfl Try.underlying49 (by kernel_rfl) rfl (by (repeat (first | with_reducible assumption | with_reducible exact Arr.box (by assumption) | with_reducible exact Box.new _ _ _ _ _ _ | with_reducible exact Arr.new _ _ _ _ _ _ | with_reducible refine Arr.drew ?_ | with_reducible refine Arr.drewN ?_ _ | with_reducible refine Arr.store4 ?_ | with_reducible refine Arr.alloc ?_ _ | with_reducible refine Box.drew ?_ | with_reducible refine Box.drewN ?_ _ | with_reducible refine Box.alloc ?_ _ | with_reducible refine Arr.next ?_ (by assumption) | with_reducible refine Box.next ?_ (by assumption) | refine Arr.oth ?_ (by first | (simp; done) | omega | (simp; omega)) _ | refine Box.oth ?_ (by first | (simp; done) | omega | (simp; omega)) _ | with_reducible exact Arr3.box (by assumption) | with_reducible exact Box3.new _ _ _ _ _ | with_reducible exact Arr3.new _ _ _ _ _ | with_reducible refine Arr3.drew ?_ | with_reducible refine Arr3.drewN ?_ _ | with_reducible refine Arr3.store3 ?_ | with_reducible refine Arr3.alloc ?_ _ | with_reducible refine Box3.drew ?_ | with_reducible refine Box3.drewN ?_ _ | with_reducible refine Box3.alloc ?_ _ | with_reducible refine Arr3.next ?_ (by assumption) | with_reducible refine Box3.next ?_ (by assumption) | refine Arr3.oth ?_ (by first | (simp; done) | omega | (simp; omega)) _ | refine Box3.oth ?_ (by first | (simp; done) | omega | (simp; omega)) _)))) rfl ?_
        exact ⟨_, _, _, rfl, SE.up3 hl _ _ _, HE.up3 (Nat.le_refl _) _ _ _⟩
    · have h0' : (x8 == 0) = false := by simpa using h0
      by_cases h1 : x8 = 1
      · subst h1
        clear h0
        go_wp2_with fail
        refine (next_any k a len cap zs _ _ S8.out).mono ?_
        rintro e w9 ⟨x9, rfl, hx9, hy9, S9', G9⟩
        have S9 := hid S9'
        have R9 := R8.gk G9 (by omega)
        have X9 := X8.gk G9 (by omega)
        have H9 := H8.trans G9
        clear S9' G9 R8 X8 H8 S8
        have hwl := R9.lt
        have hL := lit_cells w9 2 [1000000000001, -4611686018427387904]
        have HL := hid hL
        clear hL
        have S10 := hid (S9.out.alloc (.cells #[.int .i64 1000000000001, .int .i64 (-4611686018427387904)] 2))
        have R10 := R9.alloc (.cells #[.int .i64 1000000000001, .int .i64 (-4611686018427387904)] 2)
        have X10 := X9.alloc (.cells #[.int .i64 1000000000001, .int .i64 (-4611686018427387904)] 2)
        have H10 := H9.alloc (.cells #[.int .i64 1000000000001, .int .i64 (-4611686018427387904)] 2)
        clear S9 R9 X9 H9
        go_wp2_with fail
        refine (pick_any k a len cap zs _ 2 _ S10.out (by omega) (by omega) (by simp) (by omega) HL.out).mono ?_
        rintro e w11 ⟨x11, rfl, S11', G11⟩
        have S11 := hid S11'
        have R11 := R10.gk G11 (by omega)
        have X11 := X10.gk G11 (by omega)
        have H11 := H10.trans G11
        clear S11' G11 R10 X10 H10 S10
        clear HL
        have hxs : x9 = 0 ∨ x9 = 1 ∨ x9 = 2 := by omega
        clear hx9 hy9
        obtain ⟨_, y0, y1, y2, g0, g1, g2⟩ := id X11
        rcases hxs with rfl | rfl | rfl
        · have XE := hid (X11.set0 x11)
          have RE := R11.oth (p := ⟨jx, 0, none⟩) (by simp; omega) (.int .i64 x11)
          have SE := S11.out.up (p := ⟨jx, 0, none⟩) hjk (.int .i64 x11)
          have HE := H11.up (p := ⟨jx, 0, none⟩) (by simp; omega) (.int .i64 x11)
          obtain ⟨_, r0, r1, r2, f0, f1, f2⟩ := id R11
          go_wp2_with fail
          refine bodyPost_ret (res_A31 (e := 2) rfl Try.underlying49 (by kernel_rfl) rfl (by (repeat (first | with_reducible assumption | with_reducible exact Arr.box (by assumption) | with_reducible exact Box.new _ _ _ _ _ _ | with_reducible exact Arr.new _ _ _ _ _ _ | with_reducible refine Arr.drew ?_ | with_reducible refine Arr.drewN ?_ _ | with_reducible refine Arr.store4 ?_ | with_reducible refine Arr.alloc ?_ _ | with_reducible refine Box.drew ?_ | with_reducible refine Box.drewN ?_ _ | with_reducible refine Box.alloc ?_ _ | with_reducible refine Arr.next ?_ (by assumption) | with_reducible refine Box.next ?_ (by assumption) | refine Arr.oth ?_ (by first | (simp; done) | omega | (simp; omega)) _ | refine Box.oth ?_ (by first | (simp; done) | omega | (simp; omega)) _ | with_reducible exact Arr3.box (by assumption) | with_reducible exact Box3.new _ _ _ _ _ | with_reducible exact Arr3.new _ _ _ _ _ | with_reducible refine Arr3.drew ?_ | with_reducible refine Arr3.drewN ?_ _ | with_reducible refine Arr3.store3 ?_ | with_reducible refine Arr3.alloc ?_ _ | with_reducible refine Box3.drew ?_ | with_reducible refine Box3.drewN ?_ _ | with_reducible refine Box3.alloc ?_ _ | with_reducible refine Arr3.next ?_ (by assumption) | with_reducible refine Box3.next ?_ (by assumption) | refine Arr3.oth ?_ (by first | (simp; done) | omega | (simp; omega)) _ | refine Box3.oth ?_ (by first | (simp; done) | omega | (simp; omega)) _)))) rfl ?_
          exact ⟨_, _, _, rfl, SE.up3 hl _ _ _, HE.up3 (Nat.le_refl _) _ _ _⟩
        · have XE := hid (X11.set1 x11)
          have RE := R11.oth (p := ⟨jx, 1, none⟩) (by simp; omega) (.int .i64 x11)
          have SE := S11.out.up (p := ⟨jx, 1, none⟩) hjk (.int .i64 x11)
          have HE := H11.up (p := ⟨jx, 1, none⟩) (by simp; omega) (.int .i64 x11)
          obtain ⟨_, r0, r1, r2, f0, f1, f2⟩ := id R11
          go_wp2_with fail
          refine bodyPost_ret (res_A31 (e := 2) rfl Try.underlying49 (by kernel_rfl) rfl (by (repeat (first | with_reducible assumption | with_reducible exact Arr.box (by assumption) | with_reducible exact Box.new _ _ _ _ _ _ | with_reducible exact Arr.new _ _ _ _ _ _ | with_reducible refine Arr.drew ?_ | with_reducible refine Arr.drewN ?_ _ | with_reducible refine Arr.store4 ?_ | with_reducible refine Arr.alloc ?_ _ | with_reducible refine Box.drew ?_ | with_reducible refine Box.drewN ?_ _ | with_reducible refine Box.alloc ?_ _ | with_reducible refine Arr.next ?_ (by assumption) | with_reducible refine Box.next ?_ (by assumption) | refine Arr.oth ?_ (by first | (simp; done) | omega | (simp; omega)) _ | refine Box.oth ?_ (by first | (simp; done) | omega | (simp; omega)) _ | with_reducible exact Arr3.box (by assumption) | with_reducible exact Box3.new _ _ _ _ _ | with_reducible exact Arr3.new _ _ _ _ _ | with_reducible refine Arr3.drew ?_ | with_reducible refine Arr3.drewN ?_ _ | with_reducible refine Arr3.store3 ?_ | with_reducible refine Arr3.alloc ?_ _ | with_reducible refine Box3.drew ?_ | with_reducible refine Box3.drewN ?_ _ | with_reducible refine Box3.alloc ?_ _ | with_reducible refine Arr3.next ?_ (by assumption) | with_reducible refine Box3.next ?_ (by assumption) | refine Arr3.oth ?_ (by first | (simp; done) | omega | (simp; omega)) _ | refine Box3.oth ?_ (by first | (simp; done) | omega | (simp; omega)) _)))) rfl ?_
          exact ⟨_, _, _, rfl, SE.up3 hl _ _ _, HE.up3 (Nat.le_refl _) _ _ _⟩
        · have XE := hid (X11.set2 x11)
          have RE := R11.oth (p := ⟨jx, 2, none⟩) (by simp; omega) (.int .i64 x11)
          have SE := S11.out.up (p := ⟨jx, 2, none⟩) hjk (.int .i64 x11)
          have HE := H11.up (p := ⟨jx, 2, none⟩) (by simp; omega) (.int .i64 x11)
          obtain ⟨_, r0, r1, r2, f0, f1, f2⟩ := id R11
          go_wp2_with fail
          refine bodyPost_ret (res_A31 (e := 2) rfl Try.underlying49 (by kernel_rfl) rfl (by (repeat (first | with_reducible assumption | with_reducible exact Arr.box (by assumption) | with_reducible exact Box.new _ _ _ _ _ _ | with_reducible exact Arr.new _ _ _ _ _ _ | with_reducible refine Arr.drew ?_ | with_reducible refine Arr.drewN ?_ _ | with_reducible refine Arr.store4 ?_ | with_reducible refine Arr.alloc ?_ _ | with_reducible refine Box.drew ?_ | with_reducible refine Box.drewN ?_ _ | with_reducible refine Box.alloc ?_ _ | with_reducible refine Arr.next ?_ (by assumption) | with_reducible refine Box.next ?_ (by assumption) | refine Arr.oth ?_ (by first | (simp; done) | omega | (simp; omega)) _ | refine Box.oth ?_ (by first | (simp; done) | omega | (simp; omega)) _ | with_reducible exact Arr3.box (by assumption) | with_reducible exact Box3.new _ _ _ _ _ | with_reducible exact Arr3.new _ _ _ _ _ | with_reducible refine Arr3.drew ?_ | with_reducible refine Arr3.drewN ?_ _ | with_reducible refine Arr3.store3 ?_ | with_reducible refine Arr3.alloc ?_ _ | with_reducible refine Box3.drew ?_ | with_reducible refine Box3.drewN ?_ _ | with_reducible refine Box3.alloc ?_ _ | with_reducible refine Arr3.next ?_ (by assumption) | with_reducible refine Box3.next ?_ (by assumption) | refine Arr3.oth ?_ (by first | (simp; done) | omega | (simp; omega)) _ | refine Box3.oth ?_ (by first | (simp; done) | omega | (simp; omega)) _)))) rfl ?_
          exact ⟨_, _, _, rfl, SE.up3 hl _ _ _, HE.up3 (Nat.le_refl _) _ _ _⟩
      · have h1' : (x8 == 1) = false := by simpa using h1
        clear h0 h1
        obtain ⟨_, y0, y1, y2, _⟩ := id X8
        obtain ⟨_, r0, r1, r2, f0, f1, f2⟩ := id R8
        go_wp2_with fail
        refine bodyPost_ret (res_A31 (e := 2) rfl Try.underlying49 (by kernel_rfl) rfl (by (repeat (first | with_reducible assumption | with_reducible exact Arr.box (by assumption) | with_reducible exact Box.new _ _ _ _ _ _ | with_reducible exact Arr.new _ _ _ _ _ _ | with_reducible refine Arr.drew ?_ | with_reducible refine Arr.drewN ?_ _ | with_reducible refine Arr.store4 ?_ | with_reducible refine Arr.alloc ?_ _ | with_reducible refine Box.drew ?_ | with_reducible refine Box.drewN ?_ _ | with_reducible refine Box.alloc ?_ _ | with_reducible refine Arr.next ?_ (by assumption) | with_reducible refine Box.next ?_ (by assumption) | refine Arr.oth ?_ (by first | (simp; done) | omega | (simp; omega)) _ | refine Box.oth ?_ (by first | (simp; done) | omega | (simp; omega)) _ | with_reducible exact Arr3.box (by assumption) | with_reducible exact Box3.new _ _ _ _ _ | with_reducible exact Arr3.new _ _ _ _ _ | with_reducible refine Arr3.drew ?_ | with_reducible refine Arr3.drewN ?_ _ | with_reducible refine Arr3.store3 ?_ | with_reducible refine Arr3.alloc ?_ _ | with_reducible refine Box3.drew ?_ | with_reducible refine Box3.drewN ?_ _ | with_reducible refine Box3.alloc ?_ _ | with_reducible refine Arr3.next ?_ (by assumption) | with_reducible refine Box3.next ?_ (by assumption) | refine Arr3.oth ?_ (by first | (simp; done) | omega | (simp; omega)) _ | refine Box3.oth ?_ (by first | (simp; done) | omega | (simp; omega)) _)))) rfl ?_
        exact ⟨_, _, _, rfl, S8.out.up3 hl _ _ _, H8.up3 (Nat.le_refl _) _ _ _⟩


end Go.Proofs.Ytambbhldhhlfgaa
