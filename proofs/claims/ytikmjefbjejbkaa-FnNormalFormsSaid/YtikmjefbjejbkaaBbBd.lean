/- The program's comparison of forms and of matrices, with the count of draws. -/
import Derived.Test.YtikmjefbjejbkaaBbZ18
namespace Go.Proofs.Ytikmjefbjejbkaa
open Go.RowKit

structure Bd (w w' : World) : Prop where
  b : Below w.heap.size w w'
  d : w.drawn ≤ w'.drawn
theorem drawn_drew (w : World) : w.drew.drawn = w.drawn + 1 := rfl
theorem nan_bd (n : Int) (w : World) : Calls Try.prog 163 #[.int .i64 n] w fun e w' => e = .returned (.bool false) ∧ Bd w w' := by
  have U0 := Below.refl w.heap.size w
  have hn : (n != n) = false := by simp
  go_enter Try.func163, Try.ntmps163
  go_wp2
  go_ret
  exact ⟨ret_bool (by simp), ⟨by (repeat' (first | with_reducible exact Below.refl _ _ | with_reducible assumption | with_reducible refine gr_alloc ?_ _ | with_reducible refine gr_drew ?_ | with_reducible refine gr_drewN ?_ _ | with_reducible refine gr_trans ?_ (by assumption) | with_reducible refine gr_set ?_ ?_ _ | (simp; done) | omega | (simp; omega))), by first | omega | (simp only [drawn_drew] at *; omega) | (simp only [World.drawn_alloc, drawn_drew] at *; omega)⟩⟩
set_option maxHeartbeats 1000000 in
theorem cmp_bd (x y : Int) (w : World) : Calls Try.prog 143 #[.int .i64 x, .int .i64 y] w fun e w' => e = .returned (.int .i64 (Rd.c3 x y)) ∧ Bd w w' := by
  go_enter Try.func143, Try.ntmps143
  go_wp2_with fail
  refine (nan_bd x _).mono ?_
  rintro e w1 ⟨rfl, hb1, hd1⟩
  go_wp2_with fail
  refine (nan_bd y _).mono ?_
  rintro e w2 ⟨rfl, hb2, hd2⟩
  have U2 := gr_trans hb1 hb2
  go_wp2
  all_goals (go_ret; exact ⟨ret_int (by unfold Rd.c3; (repeat' split) <;> omega), ⟨by (repeat' (first | with_reducible exact Below.refl _ _ | with_reducible assumption | with_reducible refine gr_alloc ?_ _ | with_reducible refine gr_drew ?_ | with_reducible refine gr_drewN ?_ _ | with_reducible refine gr_trans ?_ (by assumption) | with_reducible refine gr_set ?_ ?_ _ | (simp; done) | omega | (simp; omega))), by first | omega | (simp only [drawn_drew] at *; omega) | (simp only [World.drawn_alloc, drawn_drew] at *; omega)⟩⟩)
set_option maxRecDepth 100000 in
set_option maxHeartbeats 4000000 in
theorem cmp4_bd (i j : Nat) (ci cj : Nat) (a b c d p q r s : Int) (w : World) (hA : Arr w i a b c d) (hB : Arr w j p q r s) : Calls Try.prog 105 #[.slice (some ⟨i, 0, none⟩) 4 ci, .slice (some ⟨j, 0, none⟩) 4 cj] w fun e w' => e = .returned (.int .i64 (Rd.cm4 (a, b, c, d) (p, q, r, s))) ∧ Bd w w' := by
  have U1 := Below.refl w.heap.size w
  have A1 := hA; have B1 := hB
  clear hA hB
  obtain ⟨_, a0, a1, a2, a3, _⟩ := id A1
  obtain ⟨_, b0, b1, b2, b3, _⟩ := id B1
  go_enter Try.func105, Try.ntmps105
  go_wp2_with fail
  refine wp_loop_rounds 5 ?_
  rw [rounds_succ]; go_wp2_with fail
  refine (cmp_bd a p _).mono ?_
  rintro e w1 ⟨rfl, hb, hd3⟩
  have A2 := A1.next hb; have B2 := B1.next hb; have U2 := gr_trans U1 hb
  clear a0 a1 a2 a3 b0 b1 b2 b3 A1 B1 U1 hb
  have A1 := A2; have B1 := B2; have U1 := U2
  clear A2 B2 U2
  obtain ⟨_, a0, a1, a2, a3, _⟩ := id A1
  obtain ⟨_, b0, b1, b2, b3, _⟩ := id B1
  by_cases hz0 : a = p
  rotate_left 1
  · have hne : (Rd.c3 a p != 0) = true := by simpa [bne] using Rd.c3_ne hz0
    have hv : Rd.cm4 (a, b, c, d) (p, q, r, s) = Rd.c3 a p := by simp [Rd.cm4, hz0]
    clear hz0
    go_wp2_with fail
    go_ret
    exact ⟨ret_int hv.symm, ⟨by (repeat' (first | with_reducible exact Below.refl _ _ | with_reducible assumption | with_reducible refine gr_alloc ?_ _ | with_reducible refine gr_drew ?_ | with_reducible refine gr_drewN ?_ _ | with_reducible refine gr_trans ?_ (by assumption) | with_reducible refine gr_set ?_ ?_ _ | (simp; done) | omega | (simp; omega))), by first | omega | (simp only [drawn_drew] at *; omega) | (simp only [World.drawn_alloc, drawn_drew] at *; omega)⟩⟩
  have he0 : Rd.c3 a p = 0 := by rw [hz0]; exact Rd.c3_eq _
  rw [he0]
  go_wp2_with fail
  rw [rounds_succ]; go_wp2_with fail
  refine (cmp_bd b q _).mono ?_
  rintro e w2 ⟨rfl, hb, hd4⟩
  have A2 := A1.next hb; have B2 := B1.next hb; have U2 := gr_trans U1 hb
  clear a0 a1 a2 a3 b0 b1 b2 b3 A1 B1 U1 hb
  have A1 := A2; have B1 := B2; have U1 := U2
  clear A2 B2 U2
  obtain ⟨_, a0, a1, a2, a3, _⟩ := id A1
  obtain ⟨_, b0, b1, b2, b3, _⟩ := id B1
  by_cases hz1 : b = q
  rotate_left 1
  · have hne : (Rd.c3 b q != 0) = true := by simpa [bne] using Rd.c3_ne hz1
    have hv : Rd.cm4 (a, b, c, d) (p, q, r, s) = Rd.c3 b q := by simp [Rd.cm4, hz0, hz1]
    clear hz0 hz1
    go_wp2_with fail
    go_ret
    exact ⟨ret_int hv.symm, ⟨by (repeat' (first | with_reducible exact Below.refl _ _ | with_reducible assumption | with_reducible refine gr_alloc ?_ _ | with_reducible refine gr_drew ?_ | with_reducible refine gr_drewN ?_ _ | with_reducible refine gr_trans ?_ (by assumption) | with_reducible refine gr_set ?_ ?_ _ | (simp; done) | omega | (simp; omega))), by first | omega | (simp only [drawn_drew] at *; omega) | (simp only [World.drawn_alloc, drawn_drew] at *; omega)⟩⟩
  have he1 : Rd.c3 b q = 0 := by rw [hz1]; exact Rd.c3_eq _
  rw [he1]
  go_wp2_with fail
  rw [rounds_succ]; go_wp2_with fail
  refine (cmp_bd c r _).mono ?_
  rintro e w3 ⟨rfl, hb, hd5⟩
  have A2 := A1.next hb; have B2 := B1.next hb; have U2 := gr_trans U1 hb
  clear a0 a1 a2 a3 b0 b1 b2 b3 A1 B1 U1 hb
  have A1 := A2; have B1 := B2; have U1 := U2
  clear A2 B2 U2
  obtain ⟨_, a0, a1, a2, a3, _⟩ := id A1
  obtain ⟨_, b0, b1, b2, b3, _⟩ := id B1
  by_cases hz2 : c = r
  rotate_left 1
  · have hne : (Rd.c3 c r != 0) = true := by simpa [bne] using Rd.c3_ne hz2
    have hv : Rd.cm4 (a, b, c, d) (p, q, r, s) = Rd.c3 c r := by simp [Rd.cm4, hz0, hz1, hz2]
    clear hz0 hz1 hz2
    go_wp2_with fail
    go_ret
    exact ⟨ret_int hv.symm, ⟨by (repeat' (first | with_reducible exact Below.refl _ _ | with_reducible assumption | with_reducible refine gr_alloc ?_ _ | with_reducible refine gr_drew ?_ | with_reducible refine gr_drewN ?_ _ | with_reducible refine gr_trans ?_ (by assumption) | with_reducible refine gr_set ?_ ?_ _ | (simp; done) | omega | (simp; omega))), by first | omega | (simp only [drawn_drew] at *; omega) | (simp only [World.drawn_alloc, drawn_drew] at *; omega)⟩⟩
  have he2 : Rd.c3 c r = 0 := by rw [hz2]; exact Rd.c3_eq _
  rw [he2]
  go_wp2_with fail
  rw [rounds_succ]; go_wp2_with fail
  refine (cmp_bd d s _).mono ?_
  rintro e w4 ⟨rfl, hb, hd6⟩
  have A2 := A1.next hb; have B2 := B1.next hb; have U2 := gr_trans U1 hb
  clear a0 a1 a2 a3 b0 b1 b2 b3 A1 B1 U1 hb
  have A1 := A2; have B1 := B2; have U1 := U2
  clear A2 B2 U2
  obtain ⟨_, a0, a1, a2, a3, _⟩ := id A1
  obtain ⟨_, b0, b1, b2, b3, _⟩ := id B1
  by_cases hz3 : d = s
  rotate_left 1
  · have hne : (Rd.c3 d s != 0) = true := by simpa [bne] using Rd.c3_ne hz3
    have hv : Rd.cm4 (a, b, c, d) (p, q, r, s) = Rd.c3 d s := by simp [Rd.cm4, hz0, hz1, hz2, hz3]
    clear hz0 hz1 hz2 hz3
    go_wp2_with fail
    go_ret
    exact ⟨ret_int hv.symm, ⟨by (repeat' (first | with_reducible exact Below.refl _ _ | with_reducible assumption | with_reducible refine gr_alloc ?_ _ | with_reducible refine gr_drew ?_ | with_reducible refine gr_drewN ?_ _ | with_reducible refine gr_trans ?_ (by assumption) | with_reducible refine gr_set ?_ ?_ _ | (simp; done) | omega | (simp; omega))), by first | omega | (simp only [drawn_drew] at *; omega) | (simp only [World.drawn_alloc, drawn_drew] at *; omega)⟩⟩
  have he3 : Rd.c3 d s = 0 := by rw [hz3]; exact Rd.c3_eq _
  rw [he3]
  go_wp2_with fail
  rw [rounds_succ]; go_wp2_with fail
  have hv : Rd.cm4 (a, b, c, d) (p, q, r, s) = 0 := by simp [Rd.cm4, hz0, hz1, hz2, hz3]
  go_ret
  exact ⟨ret_int hv.symm, ⟨by (repeat' (first | with_reducible exact Below.refl _ _ | with_reducible assumption | with_reducible refine gr_alloc ?_ _ | with_reducible refine gr_drew ?_ | with_reducible refine gr_drewN ?_ _ | with_reducible refine gr_trans ?_ (by assumption) | with_reducible refine gr_set ?_ ?_ _ | (simp; done) | omega | (simp; omega))), by first | omega | (simp only [drawn_drew] at *; omega) | (simp only [World.drawn_alloc, drawn_drew] at *; omega)⟩⟩
set_option maxRecDepth 100000 in
set_option maxHeartbeats 4000000 in
theorem cmpF_bd (a b c d p q r s : Int) (w : World) : Calls Try.prog 68 #[.agg #[.int .i64 a, .int .i64 b, .int .i64 c, .int .i64 d], .agg #[.int .i64 p, .int .i64 q, .int .i64 r, .int .i64 s]] w fun e w' => e = .returned (.int .i64 (Rd.cm4 (a, b, c, d) (p, q, r, s))) ∧ Bd w w' := by
  have A0 := (Arr.new w a b c d 26).alloc (.cells #[.int .i64 p, .int .i64 q, .int .i64 r, .int .i64 s] 26)
  have B0 := Arr.new (w.alloc (.cells #[.int .i64 a, .int .i64 b, .int .i64 c, .int .i64 d] 26)) p q r s 26
  have U0 := gr_alloc (gr_alloc (Below.refl w.heap.size w) (.cells #[.int .i64 a, .int .i64 b, .int .i64 c, .int .i64 d] 26)) (.cells #[.int .i64 p, .int .i64 q, .int .i64 r, .int .i64 s] 26)
  simp only [World.size_alloc] at B0
  go_enter Try.func68, Try.ntmps68
  go_upto_region 1 with fail
  have D0 : w.drawn ≤ ((w.alloc (.cells #[.int .i64 a, .int .i64 b, .int .i64 c, .int .i64 d] 26)).alloc (.cells #[.int .i64 p, .int .i64 q, .int .i64 r, .int .i64 s] 26)).drawn := Nat.le_refl _
  generalize (w.alloc (.cells #[.int .i64 a, .int .i64 b, .int .i64 c, .int .i64 d] 26)).alloc (.cells #[.int .i64 p, .int .i64 q, .int .i64 r, .int .i64 s] 26) = W0 at A0 B0 U0 D0 ⊢
  obtain ⟨_, a0, a1, a2, a3, _⟩ := id A0
  obtain ⟨_, b0, b1, b2, b3, _⟩ := id B0
  go_region_held3 (fun W => W.cell? ⟨w.heap.size, 0, none⟩ = some (.int .i64 a) ∧ W.cell? ⟨w.heap.size, 1, none⟩ = some (.int .i64 b) ∧ W.cell? ⟨w.heap.size, 2, none⟩ = some (.int .i64 c) ∧ W.cell? ⟨w.heap.size, 3, none⟩ = some (.int .i64 d)) (refine cells4 ?_ <;> (repeat (first | with_reducible assumption | with_reducible exact Arr.box (by assumption) | with_reducible exact Box.new _ _ _ _ _ _ | with_reducible exact Arr.new _ _ _ _ _ _ | with_reducible refine Arr.drew ?_ | with_reducible refine Arr.drewN ?_ _ | with_reducible refine Arr.store4 ?_ | with_reducible refine Arr.alloc ?_ _ | with_reducible refine Box.drew ?_ | with_reducible refine Box.drewN ?_ _ | with_reducible refine Box.alloc ?_ _ | with_reducible refine Arr.next ?_ (by assumption) | with_reducible refine Box.next ?_ (by assumption) | refine Arr.oth ?_ (by first | (simp; done) | omega | (simp; omega)) _ | refine Box.oth ?_ (by first | (simp; done) | omega | (simp; omega)) _ | with_reducible exact Arr3.box (by assumption) | with_reducible exact Box3.new _ _ _ _ _ | with_reducible exact Arr3.new _ _ _ _ _ | with_reducible refine Arr3.drew ?_ | with_reducible refine Arr3.drewN ?_ _ | with_reducible refine Arr3.store3 ?_ | with_reducible refine Arr3.alloc ?_ _ | with_reducible refine Box3.drew ?_ | with_reducible refine Box3.drewN ?_ _ | with_reducible refine Box3.alloc ?_ _ | with_reducible refine Arr3.next ?_ (by assumption) | with_reducible refine Box3.next ?_ (by assumption) | refine Arr3.oth ?_ (by first | (simp; done) | omega | (simp; omega)) _ | refine Box3.oth ?_ (by first | (simp; done) | omega | (simp; omega)) _))) ((go_at_call 105; refine (cmp4_bd w.heap.size (w.heap.size + 1) 4 4 a b c d p q r s _ (by (repeat (first | with_reducible assumption | with_reducible exact Arr.box (by assumption) | with_reducible exact Box.new _ _ _ _ _ _ | with_reducible exact Arr.new _ _ _ _ _ _ | with_reducible refine Arr.drew ?_ | with_reducible refine Arr.drewN ?_ _ | with_reducible refine Arr.store4 ?_ | with_reducible refine Arr.alloc ?_ _ | with_reducible refine Box.drew ?_ | with_reducible refine Box.drewN ?_ _ | with_reducible refine Box.alloc ?_ _ | with_reducible refine Arr.next ?_ (by assumption) | with_reducible refine Box.next ?_ (by assumption) | refine Arr.oth ?_ (by first | (simp; done) | omega | (simp; omega)) _ | refine Box.oth ?_ (by first | (simp; done) | omega | (simp; omega)) _ | with_reducible exact Arr3.box (by assumption) | with_reducible exact Box3.new _ _ _ _ _ | with_reducible exact Arr3.new _ _ _ _ _ | with_reducible refine Arr3.drew ?_ | with_reducible refine Arr3.drewN ?_ _ | with_reducible refine Arr3.store3 ?_ | with_reducible refine Arr3.alloc ?_ _ | with_reducible refine Box3.drew ?_ | with_reducible refine Box3.drewN ?_ _ | with_reducible refine Box3.alloc ?_ _ | with_reducible refine Arr3.next ?_ (by assumption) | with_reducible refine Box3.next ?_ (by assumption) | refine Arr3.oth ?_ (by first | (simp; done) | omega | (simp; omega)) _ | refine Box3.oth ?_ (by first | (simp; done) | omega | (simp; omega)) _))) (by (repeat (first | with_reducible assumption | with_reducible exact Arr.box (by assumption) | with_reducible exact Box.new _ _ _ _ _ _ | with_reducible exact Arr.new _ _ _ _ _ _ | with_reducible refine Arr.drew ?_ | with_reducible refine Arr.drewN ?_ _ | with_reducible refine Arr.store4 ?_ | with_reducible refine Arr.alloc ?_ _ | with_reducible refine Box.drew ?_ | with_reducible refine Box.drewN ?_ _ | with_reducible refine Box.alloc ?_ _ | with_reducible refine Arr.next ?_ (by assumption) | with_reducible refine Box.next ?_ (by assumption) | refine Arr.oth ?_ (by first | (simp; done) | omega | (simp; omega)) _ | refine Box.oth ?_ (by first | (simp; done) | omega | (simp; omega)) _ | with_reducible exact Arr3.box (by assumption) | with_reducible exact Box3.new _ _ _ _ _ | with_reducible exact Arr3.new _ _ _ _ _ | with_reducible refine Arr3.drew ?_ | with_reducible refine Arr3.drewN ?_ _ | with_reducible refine Arr3.store3 ?_ | with_reducible refine Arr3.alloc ?_ _ | with_reducible refine Box3.drew ?_ | with_reducible refine Box3.drewN ?_ _ | with_reducible refine Box3.alloc ?_ _ | with_reducible refine Arr3.next ?_ (by assumption) | with_reducible refine Box3.next ?_ (by assumption) | refine Arr3.oth ?_ (by first | (simp; done) | omega | (simp; omega)) _ | refine Box3.oth ?_ (by first | (simp; done) | omega | (simp; omega)) _)))).mono ?_; rintro e w1 ⟨rfl, hb1, hd7⟩))
  all_goals go_wp2_with fail
  all_goals go_ret
  all_goals exact ⟨rfl, ⟨by (repeat' (first | with_reducible exact Below.refl _ _ | with_reducible assumption | with_reducible refine gr_alloc ?_ _ | with_reducible refine gr_drew ?_ | with_reducible refine gr_drewN ?_ _ | with_reducible refine gr_trans ?_ (by assumption) | with_reducible refine gr_set ?_ ?_ _ | (simp; done) | omega | (simp; omega))), by first | omega | (simp only [drawn_drew] at *; omega) | (simp only [World.drawn_alloc, drawn_drew] at *; omega)⟩⟩
set_option maxRecDepth 100000 in
set_option maxHeartbeats 4000000 in
theorem cmpM_bd (a b c d p q r s : Int) (w : World) : Calls Try.prog 58 #[.agg #[.int .i64 a, .int .i64 b, .int .i64 c, .int .i64 d], .agg #[.int .i64 p, .int .i64 q, .int .i64 r, .int .i64 s]] w fun e w' => e = .returned (.int .i64 (Rd.cm4 (a, b, c, d) (p, q, r, s))) ∧ Bd w w' := by
  have A0 := (Arr.new w a b c d 44).alloc (.cells #[.int .i64 p, .int .i64 q, .int .i64 r, .int .i64 s] 44)
  have B0 := Arr.new (w.alloc (.cells #[.int .i64 a, .int .i64 b, .int .i64 c, .int .i64 d] 44)) p q r s 44
  have U0 := gr_alloc (gr_alloc (Below.refl w.heap.size w) (.cells #[.int .i64 a, .int .i64 b, .int .i64 c, .int .i64 d] 44)) (.cells #[.int .i64 p, .int .i64 q, .int .i64 r, .int .i64 s] 44)
  simp only [World.size_alloc] at B0
  go_enter Try.func58, Try.ntmps58
  go_upto_region 1 with fail
  have D0 : w.drawn ≤ ((w.alloc (.cells #[.int .i64 a, .int .i64 b, .int .i64 c, .int .i64 d] 44)).alloc (.cells #[.int .i64 p, .int .i64 q, .int .i64 r, .int .i64 s] 44)).drawn := Nat.le_refl _
  generalize (w.alloc (.cells #[.int .i64 a, .int .i64 b, .int .i64 c, .int .i64 d] 44)).alloc (.cells #[.int .i64 p, .int .i64 q, .int .i64 r, .int .i64 s] 44) = W0 at A0 B0 U0 D0 ⊢
  obtain ⟨_, a0, a1, a2, a3, _⟩ := id A0
  obtain ⟨_, b0, b1, b2, b3, _⟩ := id B0
  go_region_held3 (fun W => W.cell? ⟨w.heap.size, 0, none⟩ = some (.int .i64 a) ∧ W.cell? ⟨w.heap.size, 1, none⟩ = some (.int .i64 b) ∧ W.cell? ⟨w.heap.size, 2, none⟩ = some (.int .i64 c) ∧ W.cell? ⟨w.heap.size, 3, none⟩ = some (.int .i64 d)) (refine cells4 ?_ <;> (repeat (first | with_reducible assumption | with_reducible exact Arr.box (by assumption) | with_reducible exact Box.new _ _ _ _ _ _ | with_reducible exact Arr.new _ _ _ _ _ _ | with_reducible refine Arr.drew ?_ | with_reducible refine Arr.drewN ?_ _ | with_reducible refine Arr.store4 ?_ | with_reducible refine Arr.alloc ?_ _ | with_reducible refine Box.drew ?_ | with_reducible refine Box.drewN ?_ _ | with_reducible refine Box.alloc ?_ _ | with_reducible refine Arr.next ?_ (by assumption) | with_reducible refine Box.next ?_ (by assumption) | refine Arr.oth ?_ (by first | (simp; done) | omega | (simp; omega)) _ | refine Box.oth ?_ (by first | (simp; done) | omega | (simp; omega)) _ | with_reducible exact Arr3.box (by assumption) | with_reducible exact Box3.new _ _ _ _ _ | with_reducible exact Arr3.new _ _ _ _ _ | with_reducible refine Arr3.drew ?_ | with_reducible refine Arr3.drewN ?_ _ | with_reducible refine Arr3.store3 ?_ | with_reducible refine Arr3.alloc ?_ _ | with_reducible refine Box3.drew ?_ | with_reducible refine Box3.drewN ?_ _ | with_reducible refine Box3.alloc ?_ _ | with_reducible refine Arr3.next ?_ (by assumption) | with_reducible refine Box3.next ?_ (by assumption) | refine Arr3.oth ?_ (by first | (simp; done) | omega | (simp; omega)) _ | refine Box3.oth ?_ (by first | (simp; done) | omega | (simp; omega)) _))) ((go_at_call 105; refine (cmp4_bd w.heap.size (w.heap.size + 1) 4 4 a b c d p q r s _ (by (repeat (first | with_reducible assumption | with_reducible exact Arr.box (by assumption) | with_reducible exact Box.new _ _ _ _ _ _ | with_reducible exact Arr.new _ _ _ _ _ _ | with_reducible refine Arr.drew ?_ | with_reducible refine Arr.drewN ?_ _ | with_reducible refine Arr.store4 ?_ | with_reducible refine Arr.alloc ?_ _ | with_reducible refine Box.drew ?_ | with_reducible refine Box.drewN ?_ _ | with_reducible refine Box.alloc ?_ _ | with_reducible refine Arr.next ?_ (by assumption) | with_reducible refine Box.next ?_ (by assumption) | refine Arr.oth ?_ (by first | (simp; done) | omega | (simp; omega)) _ | refine Box.oth ?_ (by first | (simp; done) | omega | (simp; omega)) _ | with_reducible exact Arr3.box (by assumption) | with_reducible exact Box3.new _ _ _ _ _ | with_reducible exact Arr3.new _ _ _ _ _ | with_reducible refine Arr3.drew ?_ | with_reducible refine Arr3.drewN ?_ _ | with_reducible refine Arr3.store3 ?_ | with_reducible refine Arr3.alloc ?_ _ | with_reducible refine Box3.drew ?_ | with_reducible refine Box3.drewN ?_ _ | with_reducible refine Box3.alloc ?_ _ | with_reducible refine Arr3.next ?_ (by assumption) | with_reducible refine Box3.next ?_ (by assumption) | refine Arr3.oth ?_ (by first | (simp; done) | omega | (simp; omega)) _ | refine Box3.oth ?_ (by first | (simp; done) | omega | (simp; omega)) _))) (by (repeat (first | with_reducible assumption | with_reducible exact Arr.box (by assumption) | with_reducible exact Box.new _ _ _ _ _ _ | with_reducible exact Arr.new _ _ _ _ _ _ | with_reducible refine Arr.drew ?_ | with_reducible refine Arr.drewN ?_ _ | with_reducible refine Arr.store4 ?_ | with_reducible refine Arr.alloc ?_ _ | with_reducible refine Box.drew ?_ | with_reducible refine Box.drewN ?_ _ | with_reducible refine Box.alloc ?_ _ | with_reducible refine Arr.next ?_ (by assumption) | with_reducible refine Box.next ?_ (by assumption) | refine Arr.oth ?_ (by first | (simp; done) | omega | (simp; omega)) _ | refine Box.oth ?_ (by first | (simp; done) | omega | (simp; omega)) _ | with_reducible exact Arr3.box (by assumption) | with_reducible exact Box3.new _ _ _ _ _ | with_reducible exact Arr3.new _ _ _ _ _ | with_reducible refine Arr3.drew ?_ | with_reducible refine Arr3.drewN ?_ _ | with_reducible refine Arr3.store3 ?_ | with_reducible refine Arr3.alloc ?_ _ | with_reducible refine Box3.drew ?_ | with_reducible refine Box3.drewN ?_ _ | with_reducible refine Box3.alloc ?_ _ | with_reducible refine Arr3.next ?_ (by assumption) | with_reducible refine Box3.next ?_ (by assumption) | refine Arr3.oth ?_ (by first | (simp; done) | omega | (simp; omega)) _ | refine Box3.oth ?_ (by first | (simp; done) | omega | (simp; omega)) _)))).mono ?_; rintro e w1 ⟨rfl, hb1, hd8⟩))
  all_goals go_wp2_with fail
  all_goals go_ret
  all_goals exact ⟨rfl, ⟨by (repeat' (first | with_reducible exact Below.refl _ _ | with_reducible assumption | with_reducible refine gr_alloc ?_ _ | with_reducible refine gr_drew ?_ | with_reducible refine gr_drewN ?_ _ | with_reducible refine gr_trans ?_ (by assumption) | with_reducible refine gr_set ?_ ?_ _ | (simp; done) | omega | (simp; omega))), by first | omega | (simp only [drawn_drew] at *; omega) | (simp only [World.drawn_alloc, drawn_drew] at *; omega)⟩⟩

end Go.Proofs.Ytikmjefbjejbkaa
