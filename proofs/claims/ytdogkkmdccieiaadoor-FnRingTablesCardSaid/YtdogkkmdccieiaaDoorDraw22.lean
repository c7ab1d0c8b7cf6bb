/- Draws of chapter 4 for FnRingTables: a form and an element with small numbers, a form; an element that may be a unit. -/
import Derived.Test.YtdogkkmdccieiaaDoorDraw19
import Derived.Test.YtdogkkmdccieiaaDoorZ6
namespace Go.Proofs.YtdogkkmdccieiaaDoor
open Go.ChangeShapes Go.WideShapes Go.ChangeAt Go.RowKit

set_option maxRecDepth 100000 in
set_option maxHeartbeats 4000000 in
theorem low_any (a : Option Addr) (len cap : Nat) (zs : List Int) (w : World) (hR : IsRow .u8 w a len cap zs) (hlen : len ≤ 9223372036854775807) :
    Calls Tryd.prog 48 #[.slice a len cap] w (FEOut w) := by
  have R0 := (Arr.new w 0 0 0 0 25).alloc (.cells #[.int .i64 0, .int .i64 0, .int .i64 0] 27)
  have X0 := Arr3.new (w.alloc (.cells #[.int .i64 0, .int .i64 0, .int .i64 0, .int .i64 0] 25)) 0 0 0 27
  have U0 := gr_alloc (gr_alloc (Below.refl w.heap.size w) (.cells #[.int .i64 0, .int .i64 0, .int .i64 0, .int .i64 0] 25)) (.cells #[.int .i64 0, .int .i64 0, .int .i64 0] 27)
  have hR0 := row8_next hR U0
  simp only [World.size_alloc] at X0
  go_enter Tryd.func48, Tryd.ntmps48
  go_wp2_with fail
  refine (from_any a len cap zs _ hR0 hlen).mono ?_
  rintro e w1 ⟨rfl, S1', hb1⟩
  have S1 := hid S1'
  have R1 := R0.next hb1
  have X1 := X0.next hb1
  have U1 := gr_trans U0 hb1
  clear S1' hR0 R0 X0 U0 hb1
  simp only [World.size_alloc] at S1 ⊢
  go_wp2_with fail
  refine (next_any _ a len cap zs _ _ S1.out).mono ?_
  rintro e w2 ⟨x, rfl, hx1, hy1, S2', G2⟩
  have S2 := hid S2'
  have R2 := R1.gk G2 (by omega)
  have X2 := X1.gk G2 (by omega)
  have U2 := Gk.out U1 G2 (by omega)
  clear S2' G2 R1 X1 U1 S1 hx1 hy1
  by_cases hx : x = 0
  · subst hx
    have hR2 := row8_next hR U2
    clear hR S2
    go_wp2_with fail
    refine (one_any a len cap zs _ hR2 hlen).mono ?_
    rintro e w3 ⟨p, q, r, s, u, v, t, rfl, hb3⟩
    have R3 := R2.next hb3
    have X3 := X2.next hb3
    have U3 := gr_trans U2 hb3
    clear R2 X2 U2 hb3 hR2
    have hX := X3.lt
    obtain ⟨_, r0, r1, r2, r3, f0, f1, f2, f3⟩ := id R3
    obtain ⟨_, t0, t1, t2, g0, g1, g2⟩ := id X3
    go_wp2_with fail
    refine bodyPost_ret (res_FE (e := 2) (e' := 2) rfl Tryd.underlying25 (by kernel_rfl) Tryd.underlying27 (by kernel_rfl) rfl rfl
      (by first | exact (Arr.store4 R3.box).oth3 (by omega) | exact Arr.store4 (R3.oth3 (by omega)).box) (by first | exact Arr3.store3 (X3.oth4 (by omega)).box | exact (Arr3.store3 X3.box).oth4 (by omega))) rfl ?_
    exact ⟨_, _, _, _, _, _, _, rfl, by (repeat' (first | with_reducible exact Below.refl _ _ | with_reducible assumption | with_reducible refine gr_alloc ?_ _ | with_reducible refine gr_drew ?_ | with_reducible refine gr_drewN ?_ _ | with_reducible refine gr_trans ?_ (by assumption) | with_reducible refine gr_set ?_ ?_ _ | (simp; done) | omega | (simp; omega)))⟩
  · have hx' : (x == 0) = false := by simpa using hx
    clear hx hR
    go_wp2_with fail
    refine (small_any _ a len cap zs _ S2.out).mono ?_
    rintro e w3 ⟨p, q, r, s, rfl, S3', G3⟩
    have S3 := hid S3'
    have R3 := R2.gk G3 (by omega)
    have X3 := X2.gk G3 (by omega)
    have U3 := Gk.out U2 G3 (by omega)
    clear S3' G3 R2 X2 U2 S2
    have HL := hid (lit_ex w3 2 [1, 1, 2, 4] #[.int .i64 1, .int .i64 1, .int .i64 2, .int .i64 4] 4 rfl rfl)
    have S4 := hid (S3.out.alloc (.cells #[.int .i64 1, .int .i64 1, .int .i64 2, .int .i64 4] 2))
    have R4 := R3.alloc (.cells #[.int .i64 1, .int .i64 1, .int .i64 2, .int .i64 4] 2)
    have X4 := X3.alloc (.cells #[.int .i64 1, .int .i64 1, .int .i64 2, .int .i64 4] 2)
    have U4 := gr_alloc U3 (.cells #[.int .i64 1, .int .i64 1, .int .i64 2, .int .i64 4] 2)
    have hwl := X3.lt
    have hS3 := S3.out.lt
    clear S3 R3 X3 U3
    go_wp2_with fail
    refine (pick_any _ a len cap zs _ 4 _ S4.out (by omega) (by omega) (by simp) (by omega) HL.out).mono ?_
    rintro e w5 ⟨x5, rfl, S5', G5⟩
    have S5 := hid S5'
    have R5 := R4.gk G5 (by omega)
    have X5 := X4.gk G5 (by omega)
    have U5 := Gk.out U4 G5 (by omega)
    clear S5' G5 R4 X4 U4 S4 HL
    go_wp2_with fail
    refine (drawE_any _ a len cap zs _ _ S5.out).mono ?_
    rintro e w6 ⟨u, v, t, rfl, S6', G6⟩
    have R6 := R5.gk G6 (by omega)
    have X6 := X5.gk G6 (by omega)
    have U6 := Gk.out U5 G6 (by omega)
    clear S6' G6 R5 X5 U5 S5
    have hX := X6.lt
    obtain ⟨_, r0, r1, r2, r3, f0, f1, f2, f3⟩ := id R6
    obtain ⟨_, t0, t1, t2, g0, g1, g2⟩ := id X6
    go_wp2_with fail
    refine bodyPost_ret (res_FE (e := 2) (e' := 2) rfl Tryd.underlying25 (by kernel_rfl) Tryd.underlying27 (by kernel_rfl) rfl rfl
      (by first | exact (Arr.store4 R6.box).oth3 (by omega) | exact Arr.store4 (R6.oth3 (by omega)).box) (by first | exact Arr3.store3 (X6.oth4 (by omega)).box | exact (Arr3.store3 X6.box).oth4 (by omega))) rfl ?_
    exact ⟨_, _, _, _, _, _, _, rfl, by (repeat' (first | with_reducible exact Below.refl _ _ | with_reducible assumption | with_reducible refine gr_alloc ?_ _ | with_reducible refine gr_drew ?_ | with_reducible refine gr_drewN ?_ _ | with_reducible refine gr_trans ?_ (by assumption) | with_reducible refine gr_set ?_ ?_ _ | (simp; done) | omega | (simp; omega)))⟩

set_option maxRecDepth 100000 in
set_option maxHeartbeats 4000000 in
theorem drawIx_any (a : Option Addr) (len cap : Nat) (zs : List Int) (w : World) (hR : IsRow .u8 w a len cap zs) (hlen : len ≤ 9223372036854775807) :
    Calls Tryd.prog 6 #[.slice a len cap] w (FEOut w) := by
  have R0 := (Arr.new w 0 0 0 0 25).alloc (.cells #[.int .i64 0, .int .i64 0, .int .i64 0] 27)
  have X0 := Arr3.new (w.alloc (.cells #[.int .i64 0, .int .i64 0, .int .i64 0, .int .i64 0] 25)) 0 0 0 27
  have U0 := gr_alloc (gr_alloc (Below.refl w.heap.size w) (.cells #[.int .i64 0, .int .i64 0, .int .i64 0, .int .i64 0] 25)) (.cells #[.int .i64 0, .int .i64 0, .int .i64 0] 27)
  have hR0 := row8_next hR U0
  simp only [World.size_alloc] at X0
  clear hR
  go_enter Tryd.func6, Tryd.ntmps6
  go_wp2_with fail
  refine (one_any a len cap zs _ hR0 hlen).mono ?_
  rintro e w1 ⟨p, q, r, s, u, v, x, rfl, hb1⟩
  have R1 := R0.next hb1
  have X1 := X0.next hb1
  have U1 := gr_trans U0 hb1
  clear hR0 R0 X0 U0 hb1
  have hX := X1.lt
  obtain ⟨_, r0, r1, r2, r3, f0, f1, f2, f3⟩ := id R1
  obtain ⟨_, t0, t1, t2, g0, g1, g2⟩ := id X1
  go_wp2_with fail
  refine bodyPost_ret (res_FE (e := 2) (e' := 2) rfl Tryd.underlying25 (by kernel_rfl) Tryd.underlying27 (by kernel_rfl) rfl rfl
    (by first | exact (Arr.store4 R1.box).oth3 (by omega) | exact Arr.store4 (R1.oth3 (by omega)).box) (by first | exact Arr3.store3 (X1.oth4 (by omega)).box | exact (Arr3.store3 X1.box).oth4 (by omega))) rfl ?_
  exact ⟨_, _, _, _, _, _, _, rfl, by (repeat' (first | with_reducible exact Below.refl _ _ | with_reducible assumption | with_reducible refine gr_alloc ?_ _ | with_reducible refine gr_drew ?_ | with_reducible refine gr_drewN ?_ _ | with_reducible refine gr_trans ?_ (by assumption) | with_reducible refine gr_set ?_ ?_ _ | (simp; done) | omega | (simp; omega)))⟩

set_option maxRecDepth 100000 in
set_option maxHeartbeats 4000000 in
theorem drawDe_any (a : Option Addr) (len cap : Nat) (zs : List Int) (w : World) (hR : IsRow .u8 w a len cap zs) (hlen : len ≤ 9223372036854775807) :
    Calls Tryd.prog 12 #[.slice a len cap] w (FEOut w) := by
  have R0 := (Arr.new w 0 0 0 0 25).alloc (.cells #[.int .i64 0, .int .i64 0, .int .i64 0] 27)
  have X0 := Arr3.new (w.alloc (.cells #[.int .i64 0, .int .i64 0, .int .i64 0, .int .i64 0] 25)) 0 0 0 27
  have U0 := gr_alloc (gr_alloc (Below.refl w.heap.size w) (.cells #[.int .i64 0, .int .i64 0, .int .i64 0, .int .i64 0] 25)) (.cells #[.int .i64 0, .int .i64 0, .int .i64 0] 27)
  have hR0 := row8_next hR U0
  simp only [World.size_alloc] at X0
  clear hR
  go_enter Tryd.func12, Tryd.ntmps12
  go_wp2_with fail
  refine (low_any a len cap zs _ hR0 hlen).mono ?_
  rintro e w1 ⟨p, q, r, s, u, v, x, rfl, hb1⟩
  have R1 := R0.next hb1
  have X1 := X0.next hb1
  have U1 := gr_trans U0 hb1
  clear hR0 R0 X0 U0 hb1
  have hX := X1.lt
  obtain ⟨_, r0, r1, r2, r3, f0, f1, f2, f3⟩ := id R1
  obtain ⟨_, t0, t1, t2, g0, g1, g2⟩ := id X1
  go_wp2_with fail
  refine bodyPost_ret (res_FE (e := 2) (e' := 2) rfl Tryd.underlying25 (by kernel_rfl) Tryd.underlying27 (by kernel_rfl) rfl rfl
    (by first | exact (Arr.store4 R1.box).oth3 (by omega) | exact Arr.store4 (R1.oth3 (by omega)).box) (by first | exact Arr3.store3 (X1.oth4 (by omega)).box | exact (Arr3.store3 X1.box).oth4 (by omega))) rfl ?_
  exact ⟨_, _, _, _, _, _, _, rfl, by (repeat' (first | with_reducible exact Below.refl _ _ | with_reducible assumption | with_reducible refine gr_alloc ?_ _ | with_reducible refine gr_drew ?_ | with_reducible refine gr_drewN ?_ _ | with_reducible refine gr_trans ?_ (by assumption) | with_reducible refine gr_set ?_ ?_ _ | (simp; done) | omega | (simp; omega)))⟩

set_option maxRecDepth 100000 in
set_option maxHeartbeats 4000000 in
theorem drawTF_any (a : Option Addr) (len cap : Nat) (zs : List Int) (w : World) (hR : IsRow .u8 w a len cap zs) (hlen : len ≤ 9223372036854775807) :
    Calls Tryd.prog 15 #[.slice a len cap] w (FrmOut w) := by
  have R0 := Arr.new w 0 0 0 0 25
  have U0 := gr_alloc (Below.refl w.heap.size w) (.cells #[.int .i64 0, .int .i64 0, .int .i64 0, .int .i64 0] 25)
  have hR0 := row8_next hR U0
  clear hR
  go_enter Tryd.func15, Tryd.ntmps15
  go_wp2_with fail
  refine (from_any a len cap zs _ hR0 hlen).mono ?_
  rintro e w1 ⟨rfl, S1', hb1⟩
  have S1 := hid S1'
  have R1 := R0.next hb1
  have U1 := gr_trans U0 hb1
  clear S1' hR0 R0 U0 hb1
  simp only [World.size_alloc] at S1 ⊢
  go_wp2_with fail
  refine (drawFE_any _ a len cap zs _ S1.out).mono ?_
  rintro e w2 ⟨p, q, r, s, rfl, S2', G2⟩
  have R2 := R1.gk G2 (by omega)
  have U2 := Gk.out U1 G2 (by omega)
  clear S2' G2 R1 U1 S1
  obtain ⟨_, r0, r1, r2, r3, f0, f1, f2, f3⟩ := id R2
  go_wp2_with fail
  refine bodyPost_ret (res_A1 (e := 2) rfl Tryd.underlying25 (by kernel_rfl) rfl (by (repeat (first | with_reducible assumption | with_reducible exact Arr.box (by assumption) | with_reducible exact Box.new _ _ _ _ _ _ | with_reducible exact Arr.new _ _ _ _ _ _ | with_reducible refine Arr.drew ?_ | with_reducible refine Arr.drewN ?_ _ | with_reducible refine Arr.store4 ?_ | with_reducible refine Arr.alloc ?_ _ | with_reducible refine Box.drew ?_ | with_reducible refine Box.drewN ?_ _ | with_reducible refine Box.alloc ?_ _ | with_reducible refine Arr.next ?_ (by assumption) | with_reducible refine Box.next ?_ (by assumption) | refine Arr.oth ?_ (by first | (simp; done) | omega | (simp; omega)) _ | refine Box.oth ?_ (by first | (simp; done) | omega | (simp; omega)) _ | with_reducible exact Arr3.box (by assumption) | with_reducible exact Box3.new _ _ _ _ _ | with_reducible exact Arr3.new _ _ _ _ _ | with_reducible refine Arr3.drew ?_ | with_reducible refine Arr3.drewN ?_ _ | with_reducible refine Arr3.store3 ?_ | with_reducible refine Arr3.alloc ?_ _ | with_reducible refine Box3.drew ?_ | with_reducible refine Box3.drewN ?_ _ | with_reducible refine Box3.alloc ?_ _ | with_reducible refine Arr3.next ?_ (by assumption) | with_reducible refine Box3.next ?_ (by assumption) | refine Arr3.oth ?_ (by first | (simp; done) | omega | (simp; omega)) _ | refine Box3.oth ?_ (by first | (simp; done) | omega | (simp; omega)) _)))) rfl ?_
  exact ⟨_, _, _, _, rfl, by (repeat' (first | with_reducible exact Below.refl _ _ | with_reducible assumption | with_reducible refine gr_alloc ?_ _ | with_reducible refine gr_drew ?_ | with_reducible refine gr_drewN ?_ _ | with_reducible refine gr_trans ?_ (by assumption) | with_reducible refine gr_set ?_ ?_ _ | (simp; done) | omega | (simp; omega)))⟩


end Go.Proofs.YtdogkkmdccieiaaDoor
