/- Chapter 11: NewDesk, IsDesk, the program and the model. -/
import Derived.Test.YtmhlolimaeejfaaDk0
import Derived.Test.YtmhlolimaeejfaaE1
import Derived.Test.YtmhlolimaeejfaaC1k
import Derived.Test.YtmhlolimaeejfaaC1b
import Derived.Test.YtmhlolimaeejfaaZd
namespace Go.Proofs.Ytmhlolimaeejfaa
open Go.RowKit

set_option maxRecDepth 100000 in
set_option maxHeartbeats 2000000 in
theorem iNewDesk_any (w : World) : Calls Try.prog 19 #[] w fun e w' => e = .returned (.agg #[.int .i64 1, .int .i64 0, .int .i64 (-1), .int .i64 1, .int .i64 0, .int .i64 1, .int .i64 0, .int .i64 2, .int .i64 1, .int .i64 3]) ∧ Below w.heap.size w w' := by
  have R0 := Arr10.new w 0 0 0 0 0 0 0 0 0 0 28
  have U0 := gr_alloc (Below.refl w.heap.size w) (.cells #[.int .i64 0, .int .i64 0, .int .i64 0, .int .i64 0, .int .i64 0, .int .i64 0, .int .i64 0, .int .i64 0, .int .i64 0, .int .i64 0] 28)
  go_enter Try.func19, Try.ntmps19
  go_wp2_with fail
  refine bodyPost_ret (res_A10 (fs := _) rfl Try.underlying28 (by kernel_rfl) rfl (Arr10.new w 1 0 (-1) 1 0 1 0 2 1 3 28)) rfl ?_
  exact ⟨rfl, by (repeat' (first | with_reducible exact Below.refl _ _ | with_reducible assumption | with_reducible refine gr_alloc ?_ _ | with_reducible refine gr_drew ?_ | with_reducible refine gr_drewN ?_ _ | with_reducible refine gr_trans ?_ (by assumption) | with_reducible refine gr_set ?_ ?_ _ | (simp; done) | omega | (simp; omega)))⟩

set_option maxRecDepth 100000 in
set_option maxHeartbeats 2000000 in
theorem sl11New_any (w : World) : Calls Try.prog 59 #[] w fun e w' => e = .returned (.agg #[.int .i64 1, .int .i64 0, .int .i64 (-1), .int .i64 1, .int .i64 0, .int .i64 1, .int .i64 0, .int .i64 2, .int .i64 1, .int .i64 3]) ∧ Below w.heap.size w w' := by
  have R0 := Arr10.new w 0 0 0 0 0 0 0 0 0 0 28
  have U0 := gr_alloc (Below.refl w.heap.size w) (.cells #[.int .i64 0, .int .i64 0, .int .i64 0, .int .i64 0, .int .i64 0, .int .i64 0, .int .i64 0, .int .i64 0, .int .i64 0, .int .i64 0] 28)
  go_enter Try.func59, Try.ntmps59
  go_wp2_with fail
  refine bodyPost_ret (res_A10 (fs := _) rfl Try.underlying28 (by kernel_rfl) rfl (Arr10.new w 1 0 (-1) 1 0 1 0 2 1 3 28)) rfl ?_
  exact ⟨rfl, by (repeat' (first | with_reducible exact Below.refl _ _ | with_reducible assumption | with_reducible refine gr_alloc ?_ _ | with_reducible refine gr_drew ?_ | with_reducible refine gr_drewN ?_ _ | with_reducible refine gr_trans ?_ (by assumption) | with_reducible refine gr_set ?_ ?_ _ | (simp; done) | omega | (simp; omega)))⟩

set_option maxRecDepth 100000 in
set_option maxHeartbeats 2000000 in
theorem sNewDesk_any (w : World) : Calls Try.prog 18 #[] w fun e w' => e = .returned (.agg #[.int .i64 1, .int .i64 0, .int .i64 (-1), .int .i64 1, .int .i64 0, .int .i64 1, .int .i64 0, .int .i64 2, .int .i64 1, .int .i64 3]) ∧ Below w.heap.size w w' := by
  have R0 := Arr10.new w 0 0 0 0 0 0 0 0 0 0 28
  have U0 := gr_alloc (Below.refl w.heap.size w) (.cells #[.int .i64 0, .int .i64 0, .int .i64 0, .int .i64 0, .int .i64 0, .int .i64 0, .int .i64 0, .int .i64 0, .int .i64 0, .int .i64 0] 28)
  go_enter Try.func18, Try.ntmps18
  go_wp2_with fail
  refine (sl11New_any _).mono ?_
  rintro e w1 ⟨rfl, hb1⟩
  have R1 := R0.next hb1
  have U1 := gr_trans U0 hb1
  obtain ⟨_, c0, c1, c2, c3, c4, c5, c6, c7, c8, c9, f0, f1, f2, f3, f4, f5, f6, f7, f8, f9⟩ := id R1
  go_wp2_with fail
  refine bodyPost_ret (res_A10 (fs := _) rfl Try.underlying28 (by kernel_rfl) rfl (((((((((((R1.set0 1).set1 0).set2 (-1)).set3 1).set4 0).set5 1).set6 0).set7 2).set8 1).set9 3))) rfl ?_
  exact ⟨rfl, by (repeat' (first | with_reducible exact Below.refl _ _ | with_reducible assumption | with_reducible refine gr_alloc ?_ _ | with_reducible refine gr_drew ?_ | with_reducible refine gr_drewN ?_ _ | with_reducible refine gr_trans ?_ (by assumption) | with_reducible refine gr_set ?_ ?_ _ | (simp; done) | omega | (simp; omega)))⟩

set_option maxRecDepth 100000 in
set_option maxHeartbeats 2000000 in
theorem eqDesk_any (a b c d u v x p q r : Int) (w : World) : Calls Try.prog 20 #[.agg #[.int .i64 a, .int .i64 b, .int .i64 c, .int .i64 d, .int .i64 u, .int .i64 v, .int .i64 x, .int .i64 p, .int .i64 q, .int .i64 r], .agg #[.int .i64 a, .int .i64 b, .int .i64 c, .int .i64 d, .int .i64 u, .int .i64 v, .int .i64 x, .int .i64 p, .int .i64 q, .int .i64 r]] w fun e w' => e = .returned (.bool true) ∧ Below w.heap.size w w' := by
  have A0 := (Arr10.new w a b c d u v x p q r 28).alloc (.cells #[.int .i64 a, .int .i64 b, .int .i64 c, .int .i64 d, .int .i64 u, .int .i64 v, .int .i64 x, .int .i64 p, .int .i64 q, .int .i64 r] 28)
  have B0 := Arr10.new (w.alloc (.cells #[.int .i64 a, .int .i64 b, .int .i64 c, .int .i64 d, .int .i64 u, .int .i64 v, .int .i64 x, .int .i64 p, .int .i64 q, .int .i64 r] 28)) a b c d u v x p q r 28
  simp only [World.size_alloc] at B0
  have U0 := gr_alloc (gr_alloc (Below.refl w.heap.size w) (.cells #[.int .i64 a, .int .i64 b, .int .i64 c, .int .i64 d, .int .i64 u, .int .i64 v, .int .i64 x, .int .i64 p, .int .i64 q, .int .i64 r] 28)) (.cells #[.int .i64 a, .int .i64 b, .int .i64 c, .int .i64 d, .int .i64 u, .int .i64 v, .int .i64 x, .int .i64 p, .int .i64 q, .int .i64 r] 28)
  go_enter Try.func20, Try.ntmps20
  obtain ⟨_, c0, c1, c2, c3, c4, c5, c6, c7, c8, c9, _⟩ := id A0
  obtain ⟨_, d0, d1, d2, d3, d4, d5, d6, d7, d8, d9, _⟩ := id B0
  go_wp2_with fail
  refine (eqForm_same a b c d _).mono ?_
  rintro e w1 ⟨rfl, hb1⟩
  have A1 := A0.next hb1
  have B1 := B0.next hb1
  have U1 := gr_trans U0 hb1
  clear c0 c1 c2 c3 c4 c5 c6 c7 c8 c9 d0 d1 d2 d3 d4 d5 d6 d7 d8 d9 A0 B0 U0
  obtain ⟨_, c0, c1, c2, c3, c4, c5, c6, c7, c8, c9, _⟩ := id A1
  obtain ⟨_, d0, d1, d2, d3, d4, d5, d6, d7, d8, d9, _⟩ := id B1
  go_wp2_with fail
  refine (eqElem_same u v x _).mono ?_
  rintro e w2 ⟨rfl, hb2⟩
  have A2 := A1.next hb2
  have B2 := B1.next hb2
  have U2 := gr_trans U1 hb2
  clear c0 c1 c2 c3 c4 c5 c6 c7 c8 c9 d0 d1 d2 d3 d4 d5 d6 d7 d8 d9 A1 B1 U1
  obtain ⟨_, c0, c1, c2, c3, c4, c5, c6, c7, c8, c9, _⟩ := id A2
  obtain ⟨_, d0, d1, d2, d3, d4, d5, d6, d7, d8, d9, _⟩ := id B2
  go_wp2_with fail
  refine (eqQuadratic_same p q r _).mono ?_
  rintro e w3 ⟨rfl, hb3⟩
  have A3 := A2.next hb3
  have B3 := B2.next hb3
  have U3 := gr_trans U2 hb3
  clear c0 c1 c2 c3 c4 c5 c6 c7 c8 c9 d0 d1 d2 d3 d4 d5 d6 d7 d8 d9 A2 B2 U2
  go_wp2_with fail
  go_ret
  exact ⟨rfl, U3⟩

set_option maxRecDepth 100000 in
set_option maxHeartbeats 2000000 in
theorem toDesk_any (a b c d u v x p q r : Int) (w : World) : Calls Try.prog 22 #[.agg #[.int .i64 a, .int .i64 b, .int .i64 c, .int .i64 d, .int .i64 u, .int .i64 v, .int .i64 x, .int .i64 p, .int .i64 q, .int .i64 r]] w fun e w' => e = .returned (.agg #[.int .i64 a, .int .i64 b, .int .i64 c, .int .i64 d, .int .i64 u, .int .i64 v, .int .i64 x, .int .i64 p, .int .i64 q, .int .i64 r]) ∧ Below w.heap.size w w' := by
  have A0 := ((Arr10.new w a b c d u v x p q r 33).alloc (.cells #[.int .i64 0, .int .i64 0, .int .i64 0, .int .i64 0, .int .i64 0, .int .i64 0, .int .i64 0, .int .i64 0, .int .i64 0, .int .i64 0] 28)).alloc (.cells #[.int .i64 0, .int .i64 0, .int .i64 0, .int .i64 0, .int .i64 0, .int .i64 0, .int .i64 0, .int .i64 0, .int .i64 0, .int .i64 0] 28)
  have R0 := (Arr10.new (w.alloc (.cells #[.int .i64 a, .int .i64 b, .int .i64 c, .int .i64 d, .int .i64 u, .int .i64 v, .int .i64 x, .int .i64 p, .int .i64 q, .int .i64 r] 33)) 0 0 0 0 0 0 0 0 0 0 28).alloc (.cells #[.int .i64 0, .int .i64 0, .int .i64 0, .int .i64 0, .int .i64 0, .int .i64 0, .int .i64 0, .int .i64 0, .int .i64 0, .int .i64 0] 28)
  have X0 := Arr10.new ((w.alloc (.cells #[.int .i64 a, .int .i64 b, .int .i64 c, .int .i64 d, .int .i64 u, .int .i64 v, .int .i64 x, .int .i64 p, .int .i64 q, .int .i64 r] 33)).alloc (.cells #[.int .i64 0, .int .i64 0, .int .i64 0, .int .i64 0, .int .i64 0, .int .i64 0, .int .i64 0, .int .i64 0, .int .i64 0, .int .i64 0] 28)) 0 0 0 0 0 0 0 0 0 0 28
  simp only [World.size_alloc] at R0 X0
  have U0 := gr_alloc (gr_alloc (gr_alloc (Below.refl w.heap.size w) (.cells #[.int .i64 a, .int .i64 b, .int .i64 c, .int .i64 d, .int .i64 u, .int .i64 v, .int .i64 x, .int .i64 p, .int .i64 q, .int .i64 r] 33)) (.cells #[.int .i64 0, .int .i64 0, .int .i64 0, .int .i64 0, .int .i64 0, .int .i64 0, .int .i64 0, .int .i64 0, .int .i64 0, .int .i64 0] 28)) (.cells #[.int .i64 0, .int .i64 0, .int .i64 0, .int .i64 0, .int .i64 0, .int .i64 0, .int .i64 0, .int .i64 0, .int .i64 0, .int .i64 0] 28)
  go_enter Try.func22, Try.ntmps22
  obtain ⟨_, c0, c1, c2, c3, c4, c5, c6, c7, c8, c9, _⟩ := id A0
  go_wp2_with fail
  refine (toForm_any a b c d _).mono ?_
  rintro e w1 ⟨rfl, hb1⟩
  have A0' := A0.next hb1
  have R0' := R0.next hb1
  have X0' := X0.next hb1
  have U0' := gr_trans U0 hb1
  clear c0 c1 c2 c3 c4 c5 c6 c7 c8 c9 A0 R0 X0 U0 hb1
  have A1 := ((((A0'.oth (p := ⟨w.heap.size + 1 + 1, 0, none⟩) (by first | (simp; done) | (simp; omega)) (.int .i64 a)).oth (p := ⟨w.heap.size + 1 + 1, 1, none⟩) (by first | (simp; done) | (simp; omega)) (.int .i64 b)).oth (p := ⟨w.heap.size + 1 + 1, 2, none⟩) (by first | (simp; done) | (simp; omega)) (.int .i64 c)).oth (p := ⟨w.heap.size + 1 + 1, 3, none⟩) (by first | (simp; done) | (simp; omega)) (.int .i64 d))
  have R1 := ((((R0'.oth (p := ⟨w.heap.size + 1 + 1, 0, none⟩) (by first | (simp; done) | (simp; omega)) (.int .i64 a)).oth (p := ⟨w.heap.size + 1 + 1, 1, none⟩) (by first | (simp; done) | (simp; omega)) (.int .i64 b)).oth (p := ⟨w.heap.size + 1 + 1, 2, none⟩) (by first | (simp; done) | (simp; omega)) (.int .i64 c)).oth (p := ⟨w.heap.size + 1 + 1, 3, none⟩) (by first | (simp; done) | (simp; omega)) (.int .i64 d))
  have X1 := ((((X0'.set0 a).set1 b).set2 c).set3 d)
  have U1 := (gr_set (gr_set (gr_set (gr_set U0' (p := ⟨w.heap.size + 1 + 1, 0, none⟩) (by first | (simp; done) | (simp; omega)) (.int .i64 a)) (p := ⟨w.heap.size + 1 + 1, 1, none⟩) (by first | (simp; done) | (simp; omega)) (.int .i64 b)) (p := ⟨w.heap.size + 1 + 1, 2, none⟩) (by first | (simp; done) | (simp; omega)) (.int .i64 c)) (p := ⟨w.heap.size + 1 + 1, 3, none⟩) (by first | (simp; done) | (simp; omega)) (.int .i64 d))
  obtain ⟨_, e0, e1, e2, e3, e4, e5, e6, e7, e8, e9, f0, f1, f2, f3, f4, f5, f6, f7, f8, f9⟩ := id X0'
  go_upto_region 3 with fail
  clear e0 e1 e2 e3 e4 e5 e6 e7 e8 e9 f0 f1 f2 f3 f4 f5 f6 f7 f8 f9
  clear A0' R0' X0' U0'
  generalize (((w1.setCell ⟨w.heap.size + 1 + 1, 0, none⟩ (.int .i64 a)).setCell ⟨w.heap.size + 1 + 1, 1, none⟩ (.int .i64 b)).setCell ⟨w.heap.size + 1 + 1, 2, none⟩ (.int .i64 c)).setCell ⟨w.heap.size + 1 + 1, 3, none⟩ (.int .i64 d) = W1 at A1 R1 X1 U1 ⊢
  obtain ⟨_, c0, c1, c2, c3, c4, c5, c6, c7, c8, c9, _⟩ := id A1
  go_wp2_with fail
  refine (toElem_any u v x _).mono ?_
  rintro e w2 ⟨rfl, hb2⟩
  have A1' := A1.next hb2
  have R1' := R1.next hb2
  have X1' := X1.next hb2
  have U1' := gr_trans U1 hb2
  clear c0 c1 c2 c3 c4 c5 c6 c7 c8 c9 A1 R1 X1 U1 hb2
  have A2 := (((A1'.oth (p := ⟨w.heap.size + 1 + 1, 4, none⟩) (by first | (simp; done) | (simp; omega)) (.int .i64 u)).oth (p := ⟨w.heap.size + 1 + 1, 5, none⟩) (by first | (simp; done) | (simp; omega)) (.int .i64 v)).oth (p := ⟨w.heap.size + 1 + 1, 6, none⟩) (by first | (simp; done) | (simp; omega)) (.int .i64 x))
  have R2 := (((R1'.oth (p := ⟨w.heap.size + 1 + 1, 4, none⟩) (by first | (simp; done) | (simp; omega)) (.int .i64 u)).oth (p := ⟨w.heap.size + 1 + 1, 5, none⟩) (by first | (simp; done) | (simp; omega)) (.int .i64 v)).oth (p := ⟨w.heap.size + 1 + 1, 6, none⟩) (by first | (simp; done) | (simp; omega)) (.int .i64 x))
  have X2 := (((X1'.set4 u).set5 v).set6 x)
  have U2 := (gr_set (gr_set (gr_set U1' (p := ⟨w.heap.size + 1 + 1, 4, none⟩) (by first | (simp; done) | (simp; omega)) (.int .i64 u)) (p := ⟨w.heap.size + 1 + 1, 5, none⟩) (by first | (simp; done) | (simp; omega)) (.int .i64 v)) (p := ⟨w.heap.size + 1 + 1, 6, none⟩) (by first | (simp; done) | (simp; omega)) (.int .i64 x))
  obtain ⟨_, e0, e1, e2, e3, e4, e5, e6, e7, e8, e9, f0, f1, f2, f3, f4, f5, f6, f7, f8, f9⟩ := id X1'
  go_upto_region 4 with fail
  clear e0 e1 e2 e3 e4 e5 e6 e7 e8 e9 f0 f1 f2 f3 f4 f5 f6 f7 f8 f9
  clear A1' R1' X1' U1'
  generalize ((w2.setCell ⟨w.heap.size + 1 + 1, 4, none⟩ (.int .i64 u)).setCell ⟨w.heap.size + 1 + 1, 5, none⟩ (.int .i64 v)).setCell ⟨w.heap.size + 1 + 1, 6, none⟩ (.int .i64 x) = W2 at A2 R2 X2 U2 ⊢
  obtain ⟨_, c0, c1, c2, c3, c4, c5, c6, c7, c8, c9, _⟩ := id A2
  go_wp2_with fail
  refine (toQuadratic_any p q r _).mono ?_
  rintro e w3 ⟨rfl, hb3⟩
  have A2' := A2.next hb3
  have R2' := R2.next hb3
  have X2' := X2.next hb3
  have U2' := gr_trans U2 hb3
  clear c0 c1 c2 c3 c4 c5 c6 c7 c8 c9 A2 R2 X2 U2 hb3
  have A3 := (((A2'.oth (p := ⟨w.heap.size + 1 + 1, 7, none⟩) (by first | (simp; done) | (simp; omega)) (.int .i64 p)).oth (p := ⟨w.heap.size + 1 + 1, 8, none⟩) (by first | (simp; done) | (simp; omega)) (.int .i64 q)).oth (p := ⟨w.heap.size + 1 + 1, 9, none⟩) (by first | (simp; done) | (simp; omega)) (.int .i64 r))
  have R3 := (((R2'.oth (p := ⟨w.heap.size + 1 + 1, 7, none⟩) (by first | (simp; done) | (simp; omega)) (.int .i64 p)).oth (p := ⟨w.heap.size + 1 + 1, 8, none⟩) (by first | (simp; done) | (simp; omega)) (.int .i64 q)).oth (p := ⟨w.heap.size + 1 + 1, 9, none⟩) (by first | (simp; done) | (simp; omega)) (.int .i64 r))
  have X3 := (((X2'.set7 p).set8 q).set9 r)
  have U3 := (gr_set (gr_set (gr_set U2' (p := ⟨w.heap.size + 1 + 1, 7, none⟩) (by first | (simp; done) | (simp; omega)) (.int .i64 p)) (p := ⟨w.heap.size + 1 + 1, 8, none⟩) (by first | (simp; done) | (simp; omega)) (.int .i64 q)) (p := ⟨w.heap.size + 1 + 1, 9, none⟩) (by first | (simp; done) | (simp; omega)) (.int .i64 r))
  obtain ⟨_, e0, e1, e2, e3, e4, e5, e6, e7, e8, e9, f0, f1, f2, f3, f4, f5, f6, f7, f8, f9⟩ := id X2'
  go_upto_region 5 with fail
  clear e0 e1 e2 e3 e4 e5 e6 e7 e8 e9 f0 f1 f2 f3 f4 f5 f6 f7 f8 f9
  clear A2' R2' X2' U2'
  generalize ((w3.setCell ⟨w.heap.size + 1 + 1, 7, none⟩ (.int .i64 p)).setCell ⟨w.heap.size + 1 + 1, 8, none⟩ (.int .i64 q)).setCell ⟨w.heap.size + 1 + 1, 9, none⟩ (.int .i64 r) = W3 at A3 R3 X3 U3 ⊢
  obtain ⟨_, c0, c1, c2, c3, c4, c5, c6, c7, c8, c9, _⟩ := id X3
  obtain ⟨_, d0, d1, d2, d3, d4, d5, d6, d7, d8, d9, f0, f1, f2, f3, f4, f5, f6, f7, f8, f9⟩ := id R3
  go_wp2_with fail
  refine bodyPost_ret (res_A10 (fs := _) rfl Try.underlying28 (by kernel_rfl) rfl (((((((((((R3.set0 a).set1 b).set2 c).set3 d).set4 u).set5 v).set6 x).set7 p).set8 q).set9 r))) rfl ?_
  exact ⟨rfl, by (repeat' (first | with_reducible exact Below.refl _ _ | with_reducible assumption | with_reducible refine gr_alloc ?_ _ | with_reducible refine gr_drew ?_ | with_reducible refine gr_drewN ?_ _ | with_reducible refine gr_trans ?_ (by assumption) | with_reducible refine gr_set ?_ ?_ _ | (simp; done) | omega | (simp; omega)))⟩

/-- Is this a desk? -/
def dsk (a b c d u v x p q r : Int) : Bool := isF a b c d && isE u v x && df10 p q r
theorem df10_isQ {p q r : Int} (h : df10 p q r = true) : isQ p q r = true := by
  have hm : isM p q r = true := by
    cases hm : isM p q r with
    | true => rfl
    | false => simp [df10, hm] at h
  obtain ⟨ha, hb, hc⟩ := isM_t hm
  simp only [isQ, Bool.and_eq_true]
  exact ⟨⟨rng_mk (by omega) (by omega), rng_mk (by omega) (by omega)⟩, rng_mk (by omega) (by omega)⟩

set_option maxRecDepth 100000 in
set_option maxHeartbeats 2000000 in
theorem iIsDesk_any (a b c d u v x p q r : Int) (w : World) : Calls Try.prog 23 #[.agg #[.int .i64 a, .int .i64 b, .int .i64 c, .int .i64 d, .int .i64 u, .int .i64 v, .int .i64 x, .int .i64 p, .int .i64 q, .int .i64 r]] w fun e w' => e = .returned (.bool (dsk a b c d u v x p q r)) ∧ Below w.heap.size w w' := by
  have A0 := Arr10.new w a b c d u v x p q r 28
  have U0 := gr_alloc (Below.refl w.heap.size w) (.cells #[.int .i64 a, .int .i64 b, .int .i64 c, .int .i64 d, .int .i64 u, .int .i64 v, .int .i64 x, .int .i64 p, .int .i64 q, .int .i64 r] 28)
  have hd : dsk a b c d u v x p q r = (isF a b c d && isE u v x && df10 p q r) := rfl
  generalize dsk a b c d u v x p q r = g at hd ⊢
  have hq := @df10_isQ p q r
  go_enter Try.func23, Try.ntmps23
  obtain ⟨_, c0, c1, c2, c3, c4, c5, c6, c7, c8, c9, _⟩ := id A0
  go_wp2_with fail
  refine (iIsForm_any a b c d _).mono ?_
  rintro e w1 ⟨rfl, hb1⟩
  have A1 := A0.next hb1
  have U1 := gr_trans U0 hb1
  clear c0 c1 c2 c3 c4 c5 c6 c7 c8 c9 A0 U0 hb1
  cases hv0 : isF a b c d with
  | false =>
    have HD := hid hd
    have HQ := hid hq
    clear hd hq
    go_wp2_with fail
    go_ret
    exact ⟨ret_bool (by rw [HD.out]; have := HQ.out; simp_all), U1⟩
  | true =>
    obtain ⟨_, c0, c1, c2, c3, c4, c5, c6, c7, c8, c9, _⟩ := id A1
    go_wp2_with fail
    refine (iIsE_any u v x _).mono ?_
    rintro e w2 ⟨rfl, hb2⟩
    have A2 := A1.next hb2
    have U2 := gr_trans U1 hb2
    clear c0 c1 c2 c3 c4 c5 c6 c7 c8 c9 A1 U1 hb2
    cases hv1 : isE u v x with
    | false =>
      have HD := hid hd
      have HQ := hid hq
      clear hd hq
      go_wp2_with fail
      go_ret
      exact ⟨ret_bool (by rw [HD.out]; have := HQ.out; simp_all), U2⟩
    | true =>
      obtain ⟨_, c0, c1, c2, c3, c4, c5, c6, c7, c8, c9, _⟩ := id A2
      go_wp2_with fail
      refine (isDef0_any p q r _).mono ?_
      rintro e w3 ⟨rfl, hb3⟩
      have A3 := A2.next hb3
      have U3 := gr_trans U2 hb3
      clear c0 c1 c2 c3 c4 c5 c6 c7 c8 c9 A2 U2 hb3
      cases hv2 : df10 p q r with
      | false =>
        have HD := hid hd
        have HQ := hid hq
        clear hd hq
        go_wp2_with fail
        go_ret
        exact ⟨ret_bool (by rw [HD.out]; have := HQ.out; simp_all), U3⟩
      | true =>
        have HD := hid hd
        have HQ := hid hq
        clear hd hq
        go_wp2_with fail
        go_ret
        exact ⟨ret_bool (by rw [HD.out]; have := HQ.out; simp_all), U3⟩

set_option maxRecDepth 100000 in
set_option maxHeartbeats 2000000 in
theorem sIsDesk_any (a b c d u v x p q r : Int) (w : World) : Calls Try.prog 21 #[.agg #[.int .i64 a, .int .i64 b, .int .i64 c, .int .i64 d, .int .i64 u, .int .i64 v, .int .i64 x, .int .i64 p, .int .i64 q, .int .i64 r]] w fun e w' => e = .returned (.bool (dsk a b c d u v x p q r)) ∧ Below w.heap.size w w' := by
  have A0 := Arr10.new w a b c d u v x p q r 28
  have U0 := gr_alloc (Below.refl w.heap.size w) (.cells #[.int .i64 a, .int .i64 b, .int .i64 c, .int .i64 d, .int .i64 u, .int .i64 v, .int .i64 x, .int .i64 p, .int .i64 q, .int .i64 r] 28)
  have hd : dsk a b c d u v x p q r = (isF a b c d && isE u v x && df10 p q r) := rfl
  generalize dsk a b c d u v x p q r = g at hd ⊢
  have hq := @df10_isQ p q r
  go_enter Try.func21, Try.ntmps21
  obtain ⟨_, c0, c1, c2, c3, c4, c5, c6, c7, c8, c9, _⟩ := id A0
  go_wp2_with fail
  refine (l01Is_any a b c d _).mono ?_
  rintro e w1 ⟨rfl, hb1⟩
  have A1 := A0.next hb1
  have U1 := gr_trans U0 hb1
  clear c0 c1 c2 c3 c4 c5 c6 c7 c8 c9 A0 U0 hb1
  cases hv0 : isF a b c d with
  | false =>
    have HD := hid hd
    have HQ := hid hq
    clear hd hq
    go_wp2_with fail
    go_ret
    exact ⟨ret_bool (by rw [HD.out]; have := HQ.out; simp_all), U1⟩
  | true =>
    obtain ⟨_, c0, c1, c2, c3, c4, c5, c6, c7, c8, c9, _⟩ := id A1
    go_wp2_with fail
    refine (sIsE0_any u v x _).mono ?_
    rintro e w2 ⟨rfl, hb2⟩
    have A2 := A1.next hb2
    have U2 := gr_trans U1 hb2
    clear c0 c1 c2 c3 c4 c5 c6 c7 c8 c9 A1 U1 hb2
    cases hv1 : isE u v x with
    | false =>
      have HD := hid hd
      have HQ := hid hq
      clear hd hq
      go_wp2_with fail
      go_ret
      exact ⟨ret_bool (by rw [HD.out]; have := HQ.out; simp_all), U2⟩
    | true =>
      obtain ⟨_, c0, c1, c2, c3, c4, c5, c6, c7, c8, c9, _⟩ := id A2
      go_wp2_with fail
      refine (sIsQ0_any p q r _).mono ?_
      rintro e w3 ⟨rfl, hb3⟩
      have A3 := A2.next hb3
      have U3 := gr_trans U2 hb3
      clear c0 c1 c2 c3 c4 c5 c6 c7 c8 c9 A2 U2 hb3
      cases hv2 : isQ p q r with
      | false =>
        have HD := hid hd
        have HQ := hid hq
        clear hd hq
        go_wp2_with fail
        go_ret
        exact ⟨ret_bool (by rw [HD.out]; have := HQ.out; simp_all), U3⟩
      | true =>
        obtain ⟨_, c0, c1, c2, c3, c4, c5, c6, c7, c8, c9, _⟩ := id A3
        go_wp2_with fail
        refine (sDef0_any p q r _).mono ?_
        rintro e w4 ⟨rfl, hb4⟩
        have A4 := A3.next hb4
        have U4 := gr_trans U3 hb4
        clear c0 c1 c2 c3 c4 c5 c6 c7 c8 c9 A3 U3 hb4
        cases hv3 : df10 p q r with
        | false =>
          have HD := hid hd
          have HQ := hid hq
          clear hd hq
          go_wp2_with fail
          go_ret
          exact ⟨ret_bool (by rw [HD.out]; have := HQ.out; simp_all), U4⟩
        | true =>
          have HD := hid hd
          have HQ := hid hq
          clear hd hq
          go_wp2_with fail
          go_ret
          exact ⟨ret_bool (by rw [HD.out]; have := HQ.out; simp_all), U4⟩


end Go.Proofs.Ytmhlolimaeejfaa
