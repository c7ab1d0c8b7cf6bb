/- Draws of chapter 3 for FnSyzygy: two forms. -/
import Derived.Test.YtigbaelbeaobpaaDraw14
import Derived.Deep.DeepCutAuto
namespace Go.Proofs.Ytigbaelbeaobpaa
open Go.ChangeShapes Go.WideShapes Go.ChangeAt Go.RowKit
set_option maxRecDepth 100000 in
set_option maxHeartbeats 4000000 in
theorem two_any (a : Option Addr) (len cap : Nat) (zs : List Int) (w : World) (hR : IsRow .u8 w a len cap zs) (hlen : len ≤ 9223372036854775807) :
    Calls Try.prog 56 #[.slice a len cap] w (TwoOut w) := by
  have R0 := (Arr.new w 0 0 0 0 25).alloc (.cells #[.int .i64 0, .int .i64 0, .int .i64 0, .int .i64 0] 25)
  have Q0 := Arr.new (w.alloc (.cells #[.int .i64 0, .int .i64 0, .int .i64 0, .int .i64 0] 25)) 0 0 0 0 25
  simp only [World.size_alloc] at Q0
  have U0 := gr_alloc (gr_alloc (Below.refl w.heap.size w) (.cells #[.int .i64 0, .int .i64 0, .int .i64 0, .int .i64 0] 25)) (.cells #[.int .i64 0, .int .i64 0, .int .i64 0, .int .i64 0] 25)
  have hR0 := row8_next hR (gr_alloc (gr_alloc (Below.refl w.heap.size w) (.cells #[.int .i64 0, .int .i64 0, .int .i64 0, .int .i64 0] 25)) (.cells #[.int .i64 0, .int .i64 0, .int .i64 0, .int .i64 0] 25))
  clear hR
  go_enter Try.func56, Try.ntmps56
  go_wp2_with fail
  refine (from_any a len cap zs _ hR0 hlen).mono ?_
  rintro e w1 ⟨rfl, S1', hb1⟩
  have R1 := R0.next hb1
  have Q1 := Q0.next hb1
  have U1 := gr_trans U0 hb1
  simp only [World.size_alloc] at S1' ⊢
  have S1 := hid S1'
  clear S1' hR0 R0 Q0 U0 hb1
  generalize hk : w.heap.size + 1 + 1 = k at S1 ⊢
  go_wp2_with fail
  refine (spoil_any _ a len cap zs _ S1.out).mono ?_
  rintro e w2 ⟨p, q, r, s, rfl, S2', G2⟩
  have R2 := R1.gk G2 (by omega)
  have Q2 := Q1.gk G2 (by omega)
  have U2 := Gk.out U1 G2 (by omega)
  have hk2 := S2'.lt
  have X3 := Arr.new w2 p q r s 25
  have S3 := hid (S2'.alloc (.cells #[.int .i64 p, .int .i64 q, .int .i64 r, .int .i64 s] 25))
  have R3 := R2.alloc (.cells #[.int .i64 p, .int .i64 q, .int .i64 r, .int .i64 s] 25)
  have Q3 := Q2.alloc (.cells #[.int .i64 p, .int .i64 q, .int .i64 r, .int .i64 s] 25)
  have U3 := gr_alloc U2 (.cells #[.int .i64 p, .int .i64 q, .int .i64 r, .int .i64 s] 25)
  clear S1 S2' R1 Q1 U1 G2 R2 Q2 U2
  obtain ⟨j, hj⟩ : ∃ j, j = w2.heap.size := ⟨_, rfl⟩
  rw [← hj] at X3 hk2
  go_wp2_with fail
  rw [← hj]
  generalize w2.alloc (.cells #[.int .i64 p, .int .i64 q, .int .i64 r, .int .i64 s] 25) = W3 at X3 S3 R3 Q3 U3 ⊢
  clear hj
  refine (spoil_any k a len cap zs _ S3.out).mono ?_
  rintro e w4 ⟨p', q', r', s', rfl, S4', G4⟩
  have R4 := R3.gk G4 (by omega)
  have Q4 := Q3.gk G4 (by omega)
  have X4 := X3.gk G4 (by omega)
  have U4 := Gk.out U3 G4 (by omega)
  have hk4 := S4'.lt
  have hX4 := X4.lt
  have Y5 := Arr.new w4 p' q' r' s' 25
  have S5 := hid (S4'.alloc (.cells #[.int .i64 p', .int .i64 q', .int .i64 r', .int .i64 s'] 25))
  have R5 := R4.alloc (.cells #[.int .i64 p', .int .i64 q', .int .i64 r', .int .i64 s'] 25)
  have Q5 := Q4.alloc (.cells #[.int .i64 p', .int .i64 q', .int .i64 r', .int .i64 s'] 25)
  have X5 := X4.alloc (.cells #[.int .i64 p', .int .i64 q', .int .i64 r', .int .i64 s'] 25)
  have U5 := gr_alloc U4 (.cells #[.int .i64 p', .int .i64 q', .int .i64 r', .int .i64 s'] 25)
  clear S3 S4' R3 Q3 X3 U3 G4 R4 Q4 X4 U4
  obtain ⟨i, hi⟩ : ∃ i, i = w4.heap.size := ⟨_, rfl⟩
  rw [← hi] at Y5 hk4 hX4
  go_wp2_with fail
  rw [← hi]
  generalize w4.alloc (.cells #[.int .i64 p', .int .i64 q', .int .i64 r', .int .i64 s'] 25) = W5 at X5 Y5 S5 R5 Q5 U5 ⊢
  clear hi
  refine (next_any k a len cap zs 8 _ S5.out).mono ?_
  rintro e w6 ⟨x6, rfl, _, _, S6', G6⟩
  have X6 := X5.gk G6 (by omega)
  have Y6 := Y5.gk G6 (by omega)
  have R6 := R5.gk G6 (by omega)
  have Q6 := Q5.gk G6 (by omega)
  have U6 := Gk.out U5 G6 (by omega)
  clear S5 X5 Y5 R5 Q5 U5 S6' G6
  go_upto_if 15 with (fail)
  go_cut [] (fun wx => Box wx i ∧ Arr wx j p q r s ∧ Arr wx w.heap.size 0 0 0 0 ∧ Arr wx (w.heap.size + 1) 0 0 0 0 ∧ Below w.heap.size w wx)
  case first =>
    by_cases hx : x6 = 0
    · have hxb : (x6 == 0) = true := by simpa using hx
      clear hx
      have Y9 : Arr _ i p q r s := Arr.store4 Y6.box
      have X9 := X6.oth4 (i := i) (by omega) (x := .int .i64 p) (y := .int .i64 q) (z := .int .i64 r) (u := .int .i64 s)
      have R9 := R6.oth4 (i := i) (by omega) (x := .int .i64 p) (y := .int .i64 q) (z := .int .i64 r) (u := .int .i64 s)
      have Q9 := Q6.oth4 (i := i) (by omega) (x := .int .i64 p) (y := .int .i64 q) (z := .int .i64 r) (u := .int .i64 s)
      have hbel : w.heap.size ≤ i := by omega
      obtain ⟨_, x0, x1, x2, x3, _⟩ := id X6
      obtain ⟨_, y0, y1, y2, y3, f0, f1, f2, f3⟩ := id Y6
      go_wp2_with fail
      go_meet
      exact ⟨Y9.box, X9, R9, Q9, by (repeat' (first | with_reducible exact Below.refl _ _ | with_reducible assumption | with_reducible refine gr_alloc ?_ _ | with_reducible refine gr_drew ?_ | with_reducible refine gr_drewN ?_ _ | with_reducible refine gr_trans ?_ (by assumption) | with_reducible refine gr_set ?_ ?_ _ | (simp; done) | omega | (simp; omega)))⟩
    · have hxb : (x6 == 0) = false := by simpa using hx
      clear hx
      go_wp2_with fail
      go_meet
      exact ⟨Y6.box, X6, R6, Q6, U6⟩
  case rest =>
    obtain ⟨⟨p2, q2, r2, s2, Y7⟩, X7, R7, Q7, U7⟩ := hcut
    clear X6 Y6 R6 Q6 U6
    obtain ⟨_, x0, x1, x2, x3, _⟩ := id X7
    obtain ⟨_, y0, y1, y2, y3, _⟩ := id Y7
    obtain ⟨_, r0, r1, r2', r3, f0, f1, f2, f3⟩ := id R7
    obtain ⟨_, q0, q1, q2', q3, g0, g1, g2, g3⟩ := id Q7
    go_upto_region 6 with fail
    have X8 := X7.drew; have Y8 := Y7.drew; have R8 := R7.drew; have Q8 := Q7.drew; have U8 := gr_drew U7
    go_region
    go_wp2_with fail
    have R9 : Arr _ w.heap.size p q r s := ((Arr.store4 R7.box).oth4 (i := w.heap.size + 1) (by omega) (x := .int .i64 p2) (y := .int .i64 q2) (z := .int .i64 r2) (u := .int .i64 s2)).drew
    have Q9 : Arr _ (w.heap.size + 1) p2 q2 r2 s2 := (Arr.store4 (Q7.oth4 (i := w.heap.size) (by omega) (x := .int .i64 p) (y := .int .i64 q) (z := .int .i64 r) (u := .int .i64 s)).box).drew
    refine bodyPost_ret (res_AA (e := 2) (e' := 2) rfl Try.underlying25 (by kernel_rfl) Try.underlying25 (by kernel_rfl) rfl rfl R9 Q9) rfl ?_
    exact ⟨_, _, _, _, _, _, _, _, rfl, by (repeat' (first | with_reducible exact Below.refl _ _ | with_reducible assumption | with_reducible refine gr_alloc ?_ _ | with_reducible refine gr_drew ?_ | with_reducible refine gr_drewN ?_ _ | with_reducible refine gr_trans ?_ (by assumption) | with_reducible refine gr_set ?_ ?_ _ | (simp; done) | omega | (simp; omega)))⟩

set_option maxHeartbeats 2000000 in
theorem drawPa_any (a : Option Addr) (len cap : Nat) (zs : List Int) (w : World) (hR : IsRow .u8 w a len cap zs) (hlen : len ≤ 9223372036854775807) :
    Calls Try.prog 15 #[.slice a len cap] w (TwoOut w) := by
  have R0 := (Arr.new w 0 0 0 0 25).alloc (.cells #[.int .i64 0, .int .i64 0, .int .i64 0, .int .i64 0] 25)
  have Q0 := Arr.new (w.alloc (.cells #[.int .i64 0, .int .i64 0, .int .i64 0, .int .i64 0] 25)) 0 0 0 0 25
  simp only [World.size_alloc] at Q0
  have U0 := gr_alloc (gr_alloc (Below.refl w.heap.size w) (.cells #[.int .i64 0, .int .i64 0, .int .i64 0, .int .i64 0] 25)) (.cells #[.int .i64 0, .int .i64 0, .int .i64 0, .int .i64 0] 25)
  have hR0 := row8_next hR (gr_alloc (gr_alloc (Below.refl w.heap.size w) (.cells #[.int .i64 0, .int .i64 0, .int .i64 0, .int .i64 0] 25)) (.cells #[.int .i64 0, .int .i64 0, .int .i64 0, .int .i64 0] 25))
  clear hR
  go_enter Try.func15, Try.ntmps15
  go_wp2_with fail
  refine (two_any a len cap zs _ hR0 hlen).mono ?_
  rintro e w1 ⟨p, q, r, s, p', q', r', s', rfl, hb1⟩
  have R2 := ((R0.next hb1).alloc (.cells #[.int .i64 p, .int .i64 q, .int .i64 r, .int .i64 s] 25)).alloc (.cells #[.int .i64 p', .int .i64 q', .int .i64 r', .int .i64 s'] 25)
  have Q2 := ((Q0.next hb1).alloc (.cells #[.int .i64 p, .int .i64 q, .int .i64 r, .int .i64 s] 25)).alloc (.cells #[.int .i64 p', .int .i64 q', .int .i64 r', .int .i64 s'] 25)
  have X2 := (Arr.new w1 p q r s 25).alloc (.cells #[.int .i64 p', .int .i64 q', .int .i64 r', .int .i64 s'] 25)
  have Y2 := Arr.new (w1.alloc (.cells #[.int .i64 p, .int .i64 q, .int .i64 r, .int .i64 s] 25)) p' q' r' s' 25
  simp only [World.size_alloc] at Y2
  have U2 := gr_alloc (gr_alloc (gr_trans U0 hb1) (.cells #[.int .i64 p, .int .i64 q, .int .i64 r, .int .i64 s] 25)) (.cells #[.int .i64 p', .int .i64 q', .int .i64 r', .int .i64 s'] 25)
  have hl := (Q0.next hb1).lt
  clear R0 Q0 U0 hR0 hb1
  go_upto_region 2 with fail
  generalize (w1.alloc (.cells #[.int .i64 p, .int .i64 q, .int .i64 r, .int .i64 s] 25)).alloc (.cells #[.int .i64 p', .int .i64 q', .int .i64 r', .int .i64 s'] 25) = W2 at R2 Q2 X2 Y2 U2 ⊢
  generalize w1.heap.size = j at hl X2 Y2 ⊢
  have X8 := X2.drew; have Y8 := Y2.drew; have R8 := R2.drew; have Q8 := Q2.drew; have U8 := gr_drew U2
  obtain ⟨_, x0, x1, x2, x3, _⟩ := id X2
  obtain ⟨_, y0, y1, y2, y3, _⟩ := id Y2
  obtain ⟨_, r0, r1, r2', r3, f0, f1, f2, f3⟩ := id R2
  obtain ⟨_, q0, q1, q2', q3, g0, g1, g2, g3⟩ := id Q2
  go_region
  go_wp2_with fail
  have R9 : Arr _ w.heap.size p q r s := ((Arr.store4 R2.box).oth4 (i := w.heap.size + 1) (by omega) (x := .int .i64 p') (y := .int .i64 q') (z := .int .i64 r') (u := .int .i64 s')).drew
  have Q9 : Arr _ (w.heap.size + 1) p' q' r' s' := (Arr.store4 (Q2.oth4 (i := w.heap.size) (by omega) (x := .int .i64 p) (y := .int .i64 q) (z := .int .i64 r) (u := .int .i64 s)).box).drew
  refine bodyPost_ret (res_AA (e := 2) (e' := 2) rfl Try.underlying25 (by kernel_rfl) Try.underlying25 (by kernel_rfl) rfl rfl R9 Q9) rfl ?_
  exact ⟨_, _, _, _, _, _, _, _, rfl, by (repeat' (first | with_reducible exact Below.refl _ _ | with_reducible assumption | with_reducible refine gr_alloc ?_ _ | with_reducible refine gr_drew ?_ | with_reducible refine gr_drewN ?_ _ | with_reducible refine gr_trans ?_ (by assumption) | with_reducible refine gr_set ?_ ?_ _ | (simp; done) | omega | (simp; omega)))⟩

set_option maxHeartbeats 2000000 in
theorem drawRe_any (a : Option Addr) (len cap : Nat) (zs : List Int) (w : World) (hR : IsRow .u8 w a len cap zs) (hlen : len ≤ 9223372036854775807) :
    Calls Try.prog 18 #[.slice a len cap] w (TwoOut w) := by
  have R0 := (Arr.new w 0 0 0 0 25).alloc (.cells #[.int .i64 0, .int .i64 0, .int .i64 0, .int .i64 0] 25)
  have Q0 := Arr.new (w.alloc (.cells #[.int .i64 0, .int .i64 0, .int .i64 0, .int .i64 0] 25)) 0 0 0 0 25
  simp only [World.size_alloc] at Q0
  have U0 := gr_alloc (gr_alloc (Below.refl w.heap.size w) (.cells #[.int .i64 0, .int .i64 0, .int .i64 0, .int .i64 0] 25)) (.cells #[.int .i64 0, .int .i64 0, .int .i64 0, .int .i64 0] 25)
  have hR0 := row8_next hR (gr_alloc (gr_alloc (Below.refl w.heap.size w) (.cells #[.int .i64 0, .int .i64 0, .int .i64 0, .int .i64 0] 25)) (.cells #[.int .i64 0, .int .i64 0, .int .i64 0, .int .i64 0] 25))
  clear hR
  go_enter Try.func18, Try.ntmps18
  go_wp2_with fail
  refine (two_any a len cap zs _ hR0 hlen).mono ?_
  rintro e w1 ⟨p, q, r, s, p', q', r', s', rfl, hb1⟩
  have R2 := ((R0.next hb1).alloc (.cells #[.int .i64 p, .int .i64 q, .int .i64 r, .int .i64 s] 25)).alloc (.cells #[.int .i64 p', .int .i64 q', .int .i64 r', .int .i64 s'] 25)
  have Q2 := ((Q0.next hb1).alloc (.cells #[.int .i64 p, .int .i64 q, .int .i64 r, .int .i64 s] 25)).alloc (.cells #[.int .i64 p', .int .i64 q', .int .i64 r', .int .i64 s'] 25)
  have X2 := (Arr.new w1 p q r s 25).alloc (.cells #[.int .i64 p', .int .i64 q', .int .i64 r', .int .i64 s'] 25)
  have Y2 := Arr.new (w1.alloc (.cells #[.int .i64 p, .int .i64 q, .int .i64 r, .int .i64 s] 25)) p' q' r' s' 25
  simp only [World.size_alloc] at Y2
  have U2 := gr_alloc (gr_alloc (gr_trans U0 hb1) (.cells #[.int .i64 p, .int .i64 q, .int .i64 r, .int .i64 s] 25)) (.cells #[.int .i64 p', .int .i64 q', .int .i64 r', .int .i64 s'] 25)
  have hl := (Q0.next hb1).lt
  clear R0 Q0 U0 hR0 hb1
  go_upto_region 2 with fail
  generalize (w1.alloc (.cells #[.int .i64 p, .int .i64 q, .int .i64 r, .int .i64 s] 25)).alloc (.cells #[.int .i64 p', .int .i64 q', .int .i64 r', .int .i64 s'] 25) = W2 at R2 Q2 X2 Y2 U2 ⊢
  generalize w1.heap.size = j at hl X2 Y2 ⊢
  have X8 := X2.drew; have Y8 := Y2.drew; have R8 := R2.drew; have Q8 := Q2.drew; have U8 := gr_drew U2
  obtain ⟨_, x0, x1, x2, x3, _⟩ := id X2
  obtain ⟨_, y0, y1, y2, y3, _⟩ := id Y2
  obtain ⟨_, r0, r1, r2', r3, f0, f1, f2, f3⟩ := id R2
  obtain ⟨_, q0, q1, q2', q3, g0, g1, g2, g3⟩ := id Q2
  go_region
  go_wp2_with fail
  have R9 : Arr _ w.heap.size p q r s := ((Arr.store4 R2.box).oth4 (i := w.heap.size + 1) (by omega) (x := .int .i64 p') (y := .int .i64 q') (z := .int .i64 r') (u := .int .i64 s')).drew
  have Q9 : Arr _ (w.heap.size + 1) p' q' r' s' := (Arr.store4 (Q2.oth4 (i := w.heap.size) (by omega) (x := .int .i64 p) (y := .int .i64 q) (z := .int .i64 r) (u := .int .i64 s)).box).drew
  refine bodyPost_ret (res_AA (e := 2) (e' := 2) rfl Try.underlying25 (by kernel_rfl) Try.underlying25 (by kernel_rfl) rfl rfl R9 Q9) rfl ?_
  exact ⟨_, _, _, _, _, _, _, _, rfl, by (repeat' (first | with_reducible exact Below.refl _ _ | with_reducible assumption | with_reducible refine gr_alloc ?_ _ | with_reducible refine gr_drew ?_ | with_reducible refine gr_drewN ?_ _ | with_reducible refine gr_trans ?_ (by assumption) | with_reducible refine gr_set ?_ ?_ _ | (simp; done) | omega | (simp; omega)))⟩


end Go.Proofs.Ytigbaelbeaobpaa
