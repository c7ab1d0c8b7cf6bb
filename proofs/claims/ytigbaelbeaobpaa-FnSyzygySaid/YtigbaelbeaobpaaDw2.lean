/- Draws of chapter 3 for FnSyzygy: the syzygy at a place. -/
import Derived.Test.YtigbaelbeaobpaaDraw14
import Derived.Deep.DeepCutAuto
namespace Go.Proofs.Ytigbaelbeaobpaa
open Go.ChangeShapes Go.WideShapes Go.ChangeAt Go.RowKit
set_option maxRecDepth 100000 in
set_option maxHeartbeats 4000000 in
theorem drawSy_any (a : Option Addr) (len cap : Nat) (zs : List Int) (w : World) (hR : IsRow .u8 w a len cap zs) (hlen : len ≤ 9223372036854775807) :
    Calls Try.prog 5 #[.slice a len cap] w (FIIOut w) := by
  have R0 := Arr.new w 0 0 0 0 25
  have U0 := gr_alloc (Below.refl w.heap.size w) (.cells #[.int .i64 0, .int .i64 0, .int .i64 0, .int .i64 0] 25)
  have hR0 := row8_next hR U0
  clear hR
  go_enter Try.func5, Try.ntmps5
  go_wp2_with fail
  refine (from_any a len cap zs _ hR0 hlen).mono ?_
  rintro e w1 ⟨rfl, S1', hb1⟩
  have S1 := hid S1'
  have R1 := R0.next hb1
  have U1 := gr_trans U0 hb1
  clear S1' hR0 R0 U0 hb1
  simp only [World.size_alloc] at S1 ⊢
  generalize hk : w.heap.size + 1 = k at S1 ⊢
  have hk1 := S1.out.lt
  have HL := hid (lit_bx (heap_alloc_new w1 (.cells #[.int .i64 2, .int .i64 5, .int .i64 30] 2)) [2, 5, 30] 3 rfl rfl)
  have S2 := hid (S1.out.alloc (.cells #[.int .i64 2, .int .i64 5, .int .i64 30] 2))
  have R2 := R1.alloc (.cells #[.int .i64 2, .int .i64 5, .int .i64 30] 2)
  have U2 := gr_alloc U1 (.cells #[.int .i64 2, .int .i64 5, .int .i64 30] 2)
  clear S1 R1 U1
  go_wp2_with fail
  refine (pick_any k a len cap zs _ 3 _ S2.out (by omega) (by omega) (by simp) (by omega) HL.out).mono ?_
  rintro e w3 ⟨x3, rfl, S3', G3⟩
  have S3 := hid S3'
  have R3 := R2.gk G3 (by omega)
  have U3 := Gk.out U2 G3 (by omega)
  clear S2 R2 U2 S3' G3 HL
  go_wp2_with fail
  refine (drawOf_any k a len cap zs _ _ S3.out).mono ?_
  rintro e w4 ⟨p1, q1, r1, s1, rfl, S4', G4⟩
  have S4 := hid S4'
  have R4 := R3.gk G4 (by omega)
  have U4 := Gk.out U3 G4 (by omega)
  clear S3 R3 U3 S4' G4
  go_wp2_with fail
  refine (bad_any k a len cap zs _ _ _ _ _ S4.out).mono ?_
  rintro e w5 ⟨p, q, r, s, rfl, S5', G5⟩
  have R5 := R4.gk G5 (by omega)
  have U5 := Gk.out U4 G5 (by omega)
  have hk5 := S5'.lt
  have hR5 := R5.lt
  have X6 := Arr.new w5 p q r s 25
  have S6 := hid (S5'.alloc (.cells #[.int .i64 p, .int .i64 q, .int .i64 r, .int .i64 s] 25))
  have R6 := R5.alloc (.cells #[.int .i64 p, .int .i64 q, .int .i64 r, .int .i64 s] 25)
  have U6 := gr_alloc U5 (.cells #[.int .i64 p, .int .i64 q, .int .i64 r, .int .i64 s] 25)
  clear S4 R4 U4 S5' G5 R5 U5
  obtain ⟨j, hj⟩ : ∃ j, j = w5.heap.size := ⟨_, rfl⟩
  rw [← hj] at X6 hk5 hR5
  go_wp2_with fail
  rw [← hj]
  generalize w5.alloc (.cells #[.int .i64 p, .int .i64 q, .int .i64 r, .int .i64 s] 25) = W6 at X6 S6 R6 U6 ⊢
  clear hj
  refine (next_any k a len cap zs 16 _ S6.out).mono ?_
  rintro e w7 ⟨x7, rfl, _, _, S7', G7⟩
  have S7 := hid S7'
  have X7 := X6.gk G7 (by omega)
  have R7 := R6.gk G7 (by omega)
  have U7 := Gk.out U6 G7 (by omega)
  clear S6 R6 U6 X6 S7' G7
  have hbel : w.heap.size ≤ j := by omega
  go_upto_if 20 with (fail)
  go_cut [] (fun wx => Hid (Src wx k a len cap zs) ∧ Box wx j ∧ Arr wx w.heap.size 0 0 0 0 ∧ Below w.heap.size w wx)
  case first =>
    by_cases hx : x7 = 0
    · have hxb : (x7 == 0) = true := by simpa using hx
      clear hx
      go_wp2_with fail
      refine (spoil_any k a len cap zs _ S7.out).mono ?_
      rintro e w8 ⟨p', q', r', s', rfl, S8', G8⟩
      have X8 := X7.gk G8 (by omega)
      have R8 := R7.gk G8 (by omega)
      have U8 := Gk.out U7 G8 (by omega)
      have S9 := hid (S8'.up4 (j := j) (by omega) (.int .i64 p') (.int .i64 q') (.int .i64 r') (.int .i64 s'))
      have X9 : Arr _ j p' q' r' s' := Arr.store4 X8.box
      have R9 := R8.oth4 (i := j) (by omega) (x := .int .i64 p') (y := .int .i64 q') (z := .int .i64 r') (u := .int .i64 s')
      obtain ⟨_, x0, x1, x2, x3, f0, f1, f2, f3⟩ := id X8
      clear S7 X7 R7 U7 S8' G8
      go_wp2_with fail
      go_meet
      exact ⟨S9, X9.box, R9, by (repeat' (first | with_reducible exact Below.refl _ _ | with_reducible assumption | with_reducible refine gr_alloc ?_ _ | with_reducible refine gr_drew ?_ | with_reducible refine gr_drewN ?_ _ | with_reducible refine gr_trans ?_ (by assumption) | with_reducible refine gr_set ?_ ?_ _ | (simp; done) | omega | (simp; omega)))⟩
    · have hxb : (x7 == 0) = false := by simpa using hx
      clear hx
      go_wp2_with fail
      go_meet
      exact ⟨S7, X7.box, R7, U7⟩
  case rest =>
    obtain ⟨S8, ⟨p2, q2, r2, s2, X8⟩, R8, U8⟩ := hcut
    clear S7 X7 R7 U7
    go_wp2_with fail
    refine (part_any k a len cap zs _ _ S8.out).mono ?_
    rintro e w9 ⟨x9, rfl, S9', G9⟩
    have S9 := hid S9'
    have X9 := X8.gk G9 (by omega)
    have R9 := R8.gk G9 (by omega)
    have U9 := Gk.out U8 G9 (by omega)
    clear S8 X8 R8 U8 S9' G9
    go_wp2_with fail
    refine (part_any k a len cap zs _ _ S9.out).mono ?_
    rintro e w10 ⟨y10, rfl, S10', G10⟩
    have S10 := hid S10'
    have X10 := X9.gk G10 (by omega)
    have R10 := R9.gk G10 (by omega)
    have U10 := Gk.out U9 G10 (by omega)
    clear S9 X9 R9 U9 S10' G10
    go_wp2_with fail
    refine (next_any k a len cap zs 16 _ S10.out).mono ?_
    rintro e w11 ⟨x11, rfl, _, _, S11', G11⟩
    have S11 := hid S11'
    have X11 := X10.gk G11 (by omega)
    have R11 := R10.gk G11 (by omega)
    have U11 := Gk.out U10 G11 (by omega)
    have hk11 := S11'.lt
    clear S10 X10 R10 U10 S11' G11
    by_cases hx : x11 = 0
    · subst hx
      have HL := hid (lit_bx (heap_alloc_new w11 (.cells #[.int .i64 4, .int .i64 (-4)] 2)) [4, -4] 2 rfl rfl)
      have S12 := hid (S11.out.alloc (.cells #[.int .i64 4, .int .i64 (-4)] 2))
      have X12 := X11.alloc (.cells #[.int .i64 4, .int .i64 (-4)] 2)
      have R12 := R11.alloc (.cells #[.int .i64 4, .int .i64 (-4)] 2)
      have U12 := gr_alloc U11 (.cells #[.int .i64 4, .int .i64 (-4)] 2)
      clear S11 X11 R11 U11
      go_wp2_with fail
      refine (pick_any k a len cap zs _ 2 _ S12.out (by omega) (by omega) (by simp) (by omega) HL.out).mono ?_
      rintro e w13 ⟨y13, rfl, S13, G13⟩
      have R13 := R12.gk G13 (by omega)
      have X13 := X12.gk G13 (by omega)
      have U13 := Gk.out U12 G13 (by omega)
      clear S12 R12 X12 U12 G13 S13 HL
      obtain ⟨_, y0, y1, y2, y3, _⟩ := id X13
      obtain ⟨_, r0, r1, r2', r3, f0, f1, f2, f3⟩ := id R13
      go_wp2_with fail
      refine bodyPost_ret (res_FII (e := 2) rfl Try.underlying25 (by kernel_rfl) rfl rfl rfl (by (repeat (first | with_reducible assumption | with_reducible exact Arr.box (by assumption) | with_reducible exact Box.new _ _ _ _ _ _ | with_reducible exact Arr.new _ _ _ _ _ _ | with_reducible refine Arr.drew ?_ | with_reducible refine Arr.drewN ?_ _ | with_reducible refine Arr.store4 ?_ | with_reducible refine Arr.alloc ?_ _ | with_reducible refine Box.drew ?_ | with_reducible refine Box.drewN ?_ _ | with_reducible refine Box.alloc ?_ _ | with_reducible refine Arr.next ?_ (by assumption) | with_reducible refine Box.next ?_ (by assumption) | refine Arr.oth ?_ (by first | (simp; done) | omega | (simp; omega)) _ | refine Box.oth ?_ (by first | (simp; done) | omega | (simp; omega)) _ | with_reducible exact Arr3.box (by assumption) | with_reducible exact Box3.new _ _ _ _ _ | with_reducible exact Arr3.new _ _ _ _ _ | with_reducible refine Arr3.drew ?_ | with_reducible refine Arr3.drewN ?_ _ | with_reducible refine Arr3.store3 ?_ | with_reducible refine Arr3.alloc ?_ _ | with_reducible refine Box3.drew ?_ | with_reducible refine Box3.drewN ?_ _ | with_reducible refine Box3.alloc ?_ _ | with_reducible refine Arr3.next ?_ (by assumption) | with_reducible refine Box3.next ?_ (by assumption) | refine Arr3.oth ?_ (by first | (simp; done) | omega | (simp; omega)) _ | refine Box3.oth ?_ (by first | (simp; done) | omega | (simp; omega)) _)))) rfl ?_
      exact ⟨_, _, _, _, _, _, rfl, by (repeat' (first | with_reducible exact Below.refl _ _ | with_reducible assumption | with_reducible refine gr_alloc ?_ _ | with_reducible refine gr_drew ?_ | with_reducible refine gr_drewN ?_ _ | with_reducible refine gr_trans ?_ (by assumption) | with_reducible refine gr_set ?_ ?_ _ | (simp; done) | omega | (simp; omega)))⟩
    · have hxb : (x11 == 0) = false := by simpa using hx
      clear hx
      obtain ⟨_, y0, y1, y2, y3, _⟩ := id X11
      obtain ⟨_, r0, r1, r2', r3, f0, f1, f2, f3⟩ := id R11
      go_wp2_with fail
      refine bodyPost_ret (res_FII (e := 2) rfl Try.underlying25 (by kernel_rfl) rfl rfl rfl (by (repeat (first | with_reducible assumption | with_reducible exact Arr.box (by assumption) | with_reducible exact Box.new _ _ _ _ _ _ | with_reducible exact Arr.new _ _ _ _ _ _ | with_reducible refine Arr.drew ?_ | with_reducible refine Arr.drewN ?_ _ | with_reducible refine Arr.store4 ?_ | with_reducible refine Arr.alloc ?_ _ | with_reducible refine Box.drew ?_ | with_reducible refine Box.drewN ?_ _ | with_reducible refine Box.alloc ?_ _ | with_reducible refine Arr.next ?_ (by assumption) | with_reducible refine Box.next ?_ (by assumption) | refine Arr.oth ?_ (by first | (simp; done) | omega | (simp; omega)) _ | refine Box.oth ?_ (by first | (simp; done) | omega | (simp; omega)) _ | with_reducible exact Arr3.box (by assumption) | with_reducible exact Box3.new _ _ _ _ _ | with_reducible exact Arr3.new _ _ _ _ _ | with_reducible refine Arr3.drew ?_ | with_reducible refine Arr3.drewN ?_ _ | with_reducible refine Arr3.store3 ?_ | with_reducible refine Arr3.alloc ?_ _ | with_reducible refine Box3.drew ?_ | with_reducible refine Box3.drewN ?_ _ | with_reducible refine Box3.alloc ?_ _ | with_reducible refine Arr3.next ?_ (by assumption) | with_reducible refine Box3.next ?_ (by assumption) | refine Arr3.oth ?_ (by first | (simp; done) | omega | (simp; omega)) _ | refine Box3.oth ?_ (by first | (simp; done) | omega | (simp; omega)) _)))) rfl ?_
      exact ⟨_, _, _, _, _, _, rfl, by (repeat' (first | with_reducible exact Below.refl _ _ | with_reducible assumption | with_reducible refine gr_alloc ?_ _ | with_reducible refine gr_drew ?_ | with_reducible refine gr_drewN ?_ _ | with_reducible refine gr_trans ?_ (by assumption) | with_reducible refine gr_set ?_ ?_ _ | (simp; done) | omega | (simp; omega)))⟩


end Go.Proofs.Ytigbaelbeaobpaa
