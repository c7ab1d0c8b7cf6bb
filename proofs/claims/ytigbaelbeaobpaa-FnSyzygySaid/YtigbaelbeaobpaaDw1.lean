/- Draws of chapter 3 for FnSyzygy: the covariants at a place. -/
import Derived.Test.YtigbaelbeaobpaaDraw14
import Derived.Deep.DeepCutAuto
namespace Go.Proofs.Ytigbaelbeaobpaa
open Go.ChangeShapes Go.WideShapes Go.ChangeAt Go.RowKit
set_option maxRecDepth 100000 in
set_option maxHeartbeats 4000000 in
theorem drawCA_any (a : Option Addr) (len cap : Nat) (zs : List Int) (w : World) (hR : IsRow .u8 w a len cap zs) (hlen : len ≤ 9223372036854775807) :
    Calls Try.prog 24 #[.slice a len cap] w (FIIOut w) := by
  have R0 := Arr.new w 0 0 0 0 25
  have U0 := gr_alloc (Below.refl w.heap.size w) (.cells #[.int .i64 0, .int .i64 0, .int .i64 0, .int .i64 0] 25)
  have hR0 := row8_next hR U0
  clear hR
  go_enter Try.func24, Try.ntmps24
  go_wp2_with fail
  refine (from_any a len cap zs _ hR0 hlen).mono ?_
  rintro e w1 ⟨rfl, S1', hb1⟩
  have S1 := hid S1'
  have R1 := R0.next hb1
  have U1 := gr_trans U0 hb1
  clear S1' hR0 R0 U0 hb1
  simp only [World.size_alloc] at S1 ⊢
  generalize hk : w.heap.size + 1 = k at S1 ⊢
  have HK := hid hk
  go_wp2_with fail
  refine (spoil_any _ a len cap zs _ S1.out).mono ?_
  rintro e w2 ⟨p, q, r, s, rfl, S2', G2⟩
  have R2 := R1.gk G2 (by omega)
  have U2 := Gk.out U1 G2 (by omega)
  clear S1 R1 U1 G2
  have hwl := R2.lt
  have hL := lit_cells w2 2 [2, 10, 100]
  have HL := hid hL
  clear hL
  have S3 := hid (S2'.alloc (.cells #[.int .i64 2, .int .i64 10, .int .i64 100] 2))
  have R3 := R2.alloc (.cells #[.int .i64 2, .int .i64 10, .int .i64 100] 2)
  have U3 := gr_alloc U2 (.cells #[.int .i64 2, .int .i64 10, .int .i64 100] 2)
  have hk2 := S2'.lt
  clear S2' R2 U2
  go_wp2_with fail
  refine (pick_any k a len cap zs _ 3 _ S3.out (by omega) (by omega) (by simp) (by omega) HL.out).mono ?_
  rintro e w4 ⟨x4, rfl, S4', G4⟩
  have R4 := R3.gk G4 (by omega)
  have U4 := Gk.out U3 G4 (by omega)
  have hk4 := S4'.lt
  have hR4 := R4.lt
  have X5 := Arr.new w4 p q r s 25
  have S5 := hid (S4'.alloc (.cells #[.int .i64 p, .int .i64 q, .int .i64 r, .int .i64 s] 25))
  have R5 := R4.alloc (.cells #[.int .i64 p, .int .i64 q, .int .i64 r, .int .i64 s] 25)
  have U5 := gr_alloc U4 (.cells #[.int .i64 p, .int .i64 q, .int .i64 r, .int .i64 s] 25)
  clear S3 R3 U3 G4 S4' R4 U4 HL hwl hk2
  obtain ⟨j, hj⟩ : ∃ j, j = w4.heap.size := ⟨_, rfl⟩
  rw [← hj] at X5 hk4 hR4
  have HJ := hid hj
  clear hj
  go_wp2_with fail
  rw [← HJ.out]
  refine (part_any k a len cap zs _ _ S5.out).mono ?_
  rintro e w6 ⟨x6, rfl, S6', G6⟩
  have S6 := hid S6'
  have R6 := R5.gk G6 (by omega)
  have X6 := X5.gk G6 (by omega)
  have U6 := Gk.out U5 G6 (by omega)
  clear S6' G6 R5 X5 U5 S5
  go_wp2_with fail
  refine (part_any k a len cap zs _ _ S6.out).mono ?_
  rintro e w7 ⟨x7, rfl, S7', G7⟩
  have S7 := hid S7'
  have R7 := R6.gk G7 (by omega)
  have X7 := X6.gk G7 (by omega)
  have U7 := Gk.out U6 G7 (by omega)
  clear S7' G7 R6 X6 U6 S6
  go_wp2_with fail
  refine (next_any k a len cap zs _ _ S7.out).mono ?_
  rintro e w8 ⟨x8, rfl, hx8, hy8, S8', G8⟩
  have S8 := hid S8'
  have R8 := R7.gk G8 (by omega)
  have X8 := X7.gk G8 (by omega)
  have U8 := Gk.out U7 G8 (by omega)
  clear S8' G8 R7 X7 U7 S7 hx8 hy8
  by_cases hx : x8 = 0
  · subst hx
    have hwl := R8.lt
    have hL := lit_cells w8 2 [101, -101]
    have HL := hid hL
    clear hL
    have S9 := hid (S8.out.alloc (.cells #[.int .i64 101, .int .i64 (-101)] 2))
    have R9 := R8.alloc (.cells #[.int .i64 101, .int .i64 (-101)] 2)
    have X9 := X8.alloc (.cells #[.int .i64 101, .int .i64 (-101)] 2)
    have U9 := gr_alloc U8 (.cells #[.int .i64 101, .int .i64 (-101)] 2)
    have hk8 := S8.out.lt
    clear S8 R8 X8 U8
    go_wp2_with fail
    refine (pick_any k a len cap zs _ 2 _ S9.out (by omega) (by omega) (by simp) (by omega) HL.out).mono ?_
    rintro e w10 ⟨x10, rfl, S10, G10⟩
    have R10 := R9.gk G10 (by omega)
    have X10 := X9.gk G10 (by omega)
    have U10 := Gk.out U9 G10 (by omega)
    clear S9 R9 X9 U9 G10 S10 HL
    obtain ⟨_, y0, y1, y2, y3, _⟩ := id X10
    obtain ⟨_, r0, r1, r2, r3, f0, f1, f2, f3⟩ := id R10
    go_wp2_with fail
    refine bodyPost_ret (res_FII (e := 2) rfl Try.underlying25 (by kernel_rfl) rfl rfl rfl (by (repeat (first | with_reducible assumption | with_reducible exact Arr.box (by assumption) | with_reducible exact Box.new _ _ _ _ _ _ | with_reducible exact Arr.new _ _ _ _ _ _ | with_reducible refine Arr.drew ?_ | with_reducible refine Arr.drewN ?_ _ | with_reducible refine Arr.store4 ?_ | with_reducible refine Arr.alloc ?_ _ | with_reducible refine Box.drew ?_ | with_reducible refine Box.drewN ?_ _ | with_reducible refine Box.alloc ?_ _ | with_reducible refine Arr.next ?_ (by assumption) | with_reducible refine Box.next ?_ (by assumption) | refine Arr.oth ?_ (by first | (simp; done) | omega | (simp; omega)) _ | refine Box.oth ?_ (by first | (simp; done) | omega | (simp; omega)) _ | with_reducible exact Arr3.box (by assumption) | with_reducible exact Box3.new _ _ _ _ _ | with_reducible exact Arr3.new _ _ _ _ _ | with_reducible refine Arr3.drew ?_ | with_reducible refine Arr3.drewN ?_ _ | with_reducible refine Arr3.store3 ?_ | with_reducible refine Arr3.alloc ?_ _ | with_reducible refine Box3.drew ?_ | with_reducible refine Box3.drewN ?_ _ | with_reducible refine Box3.alloc ?_ _ | with_reducible refine Arr3.next ?_ (by assumption) | with_reducible refine Box3.next ?_ (by assumption) | refine Arr3.oth ?_ (by first | (simp; done) | omega | (simp; omega)) _ | refine Box3.oth ?_ (by first | (simp; done) | omega | (simp; omega)) _)))) rfl ?_
    exact ⟨_, _, _, _, _, _, rfl, by (repeat' (first | with_reducible exact Below.refl _ _ | with_reducible assumption | with_reducible refine gr_alloc ?_ _ | with_reducible refine gr_drew ?_ | with_reducible refine gr_drewN ?_ _ | with_reducible refine gr_trans ?_ (by assumption) | with_reducible refine gr_set ?_ ?_ _ | (simp; done) | omega | (simp; omega)))⟩
  · have hx' : (x8 == 0) = false := by simpa using hx
    clear hx
    obtain ⟨_, y0, y1, y2, y3, _⟩ := id X8
    obtain ⟨_, r0, r1, r2, r3, f0, f1, f2, f3⟩ := id R8
    go_wp2_with fail
    refine bodyPost_ret (res_FII (e := 2) rfl Try.underlying25 (by kernel_rfl) rfl rfl rfl (by (repeat (first | with_reducible assumption | with_reducible exact Arr.box (by assumption) | with_reducible exact Box.new _ _ _ _ _ _ | with_reducible exact Arr.new _ _ _ _ _ _ | with_reducible refine Arr.drew ?_ | with_reducible refine Arr.drewN ?_ _ | with_reducible refine Arr.store4 ?_ | with_reducible refine Arr.alloc ?_ _ | with_reducible refine Box.drew ?_ | with_reducible refine Box.drewN ?_ _ | with_reducible refine Box.alloc ?_ _ | with_reducible refine Arr.next ?_ (by assumption) | with_reducible refine Box.next ?_ (by assumption) | refine Arr.oth ?_ (by first | (simp; done) | omega | (simp; omega)) _ | refine Box.oth ?_ (by first | (simp; done) | omega | (simp; omega)) _ | with_reducible exact Arr3.box (by assumption) | with_reducible exact Box3.new _ _ _ _ _ | with_reducible exact Arr3.new _ _ _ _ _ | with_reducible refine Arr3.drew ?_ | with_reducible refine Arr3.drewN ?_ _ | with_reducible refine Arr3.store3 ?_ | with_reducible refine Arr3.alloc ?_ _ | with_reducible refine Box3.drew ?_ | with_reducible refine Box3.drewN ?_ _ | with_reducible refine Box3.alloc ?_ _ | with_reducible refine Arr3.next ?_ (by assumption) | with_reducible refine Box3.next ?_ (by assumption) | refine Arr3.oth ?_ (by first | (simp; done) | omega | (simp; omega)) _ | refine Box3.oth ?_ (by first | (simp; done) | omega | (simp; omega)) _)))) rfl ?_
    exact ⟨_, _, _, _, _, _, rfl, by (repeat' (first | with_reducible exact Below.refl _ _ | with_reducible assumption | with_reducible refine gr_alloc ?_ _ | with_reducible refine gr_drew ?_ | with_reducible refine gr_drewN ?_ _ | with_reducible refine gr_trans ?_ (by assumption) | with_reducible refine gr_set ?_ ?_ _ | (simp; done) | omega | (simp; omega)))⟩


end Go.Proofs.Ytigbaelbeaobpaa
