/- Several texts in one: XIv, XOpenU. -/
import Derived.Test.YtdogkkmdccieiaaDoorZ13
import Derived.Test.YtdogkkmdccieiaaDoorZ6
import Derived.Test.YtdogkkmdccieiaaDoorZ15
import Derived.Test.YtdogkkmdccieiaaDoorZ1
import Derived.Test.YtdogkkmdccieiaaDoorTie
import Derived.Test.YtdogkkmdccieiaaDoorCards
import Derived.Stop.LaidErr
import Derived.LaidMore
import Derived.Stop.Joined
import Derived.SevenTiedAt

/- Chapter 4: inverses of units, the program's; what is no unit is a panic. -/
namespace Go.Proofs.YtdogkkmdccieiaaDoor
open Go.RowKit

/-- The package's error for what is no unit is laid. -/
def SenU (w : World) (pv : Value) : Prop := w.cell? ⟨0, 0, none⟩ = some (.iface 154 pv) ∧ 0 < w.heap.size
theorem SenU.next {w w' : World} {pv : Value} (h : SenU w pv) (hb : Below w.heap.size w w') : SenU w' pv := ⟨(hb.cell (p := ⟨0, 0, none⟩) h.2).trans h.1, Nat.lt_of_lt_of_le h.2 hb.size⟩
theorem SenU.alloc {w : World} {pv : Value} (h : SenU w pv) (o : Obj) : SenU (w.alloc o) pv := h.next ((Below.refl _ w).alloc (Nat.le_refl _) o)
theorem SenU.drew {w : World} {pv : Value} (h : SenU w pv) : SenU w.drew pv := h.next (Below.refl _ w).drew
/-- A number of the inverse. -/
def ivn (N S P1 u P2 e : Int) : Int := wrap64 (N * (S + P1 * u + P2 * e))
theorem ivn_p (N S P1 u P2 e : Int) : wrap64 (0 + N * wrap64 (wrap64 (S + P1 * u) + P2 * e)) = ivn N S P1 u P2 e := by
  simp only [ivn, Int.zero_add, wr_mr, wr_al]
/-- A panic with the error. -/
def PanU (pv : Value) (w : World) (e : Ending) (w' : World) : Prop := e = .panicked [{ v := .iface 154 pv, recovered := false }] ∧ Below w.heap.size w w'

set_option maxRecDepth 100000 in
set_option maxHeartbeats 4000000 in
theorem inverse_ok (p0 p1 p2 p3 p4 p5 p6 p7 p8 u v x y1 y2 y3 N : Int) (w : World) (hm : ∀ W, Calls Tryd.prog 61 #[.agg #[.int .i64 p0, .int .i64 p1, .int .i64 p2, .int .i64 p3, .int .i64 p4, .int .i64 p5, .int .i64 p6, .int .i64 p7, .int .i64 p8], .agg #[.int .i64 u, .int .i64 v, .int .i64 x]] W fun e w' => e = .returned (.agg #[.int .i64 1, .int .i64 y1, .int .i64 y2, .int .i64 y3]) ∧ Below W.heap.size W w')
    (hN : wrap64 (-y3) = N) (hu : N = 1 ∨ N = -1) :
    Calls Tryd.prog 53 #[.agg #[.int .i64 p0, .int .i64 p1, .int .i64 p2, .int .i64 p3, .int .i64 p4, .int .i64 p5, .int .i64 p6, .int .i64 p7, .int .i64 p8], .agg #[.int .i64 u, .int .i64 v, .int .i64 x]] w fun e w' =>
      e = .returned (.agg #[.int .i64 (ivn N (m0 p0 p3 p6 u v x u v x) y1 u y2 1), .int .i64 (ivn N (m1 p1 p4 p7 u v x u v x) y1 v y2 0), .int .i64 (ivn N (m2 p2 p5 p8 u v x u v x) y1 x y2 0)]) ∧ Below w.heap.size w w' := by
  have hmu := fun W => iMul_any p0 p1 p2 p3 p4 p5 p6 p7 p8 u v x u v x W
  generalize m0 p0 p3 p6 u v x u v x = S0 at hmu ⊢
  generalize m1 p1 p4 p7 u v x u v x = S1 at hmu ⊢
  generalize m2 p2 p5 p8 u v x u v x = S2 at hmu ⊢
  have HM := hid hm; have HMU := hid hmu
  clear hm hmu
  have P0 := ((Arr9.new w p0 p1 p2 p3 p4 p5 p6 p7 p8 73).alloc (.cells #[.int .i64 u, .int .i64 v, .int .i64 x] 27)).alloc (.cells #[.int .i64 0, .int .i64 0, .int .i64 0] 27)
  have X0 := (Arr3.new (w.alloc (.cells #[.int .i64 p0, .int .i64 p1, .int .i64 p2, .int .i64 p3, .int .i64 p4, .int .i64 p5, .int .i64 p6, .int .i64 p7, .int .i64 p8] 73)) u v x 27).alloc (.cells #[.int .i64 0, .int .i64 0, .int .i64 0] 27)
  have R0 := Arr3.new ((w.alloc (.cells #[.int .i64 p0, .int .i64 p1, .int .i64 p2, .int .i64 p3, .int .i64 p4, .int .i64 p5, .int .i64 p6, .int .i64 p7, .int .i64 p8] 73)).alloc (.cells #[.int .i64 u, .int .i64 v, .int .i64 x] 27)) 0 0 0 27
  have U0 := gr_alloc (gr_alloc (gr_alloc (Below.refl w.heap.size w) (.cells #[.int .i64 p0, .int .i64 p1, .int .i64 p2, .int .i64 p3, .int .i64 p4, .int .i64 p5, .int .i64 p6, .int .i64 p7, .int .i64 p8] 73)) (.cells #[.int .i64 u, .int .i64 v, .int .i64 x] 27)) (.cells #[.int .i64 0, .int .i64 0, .int .i64 0] 27)
  simp only [World.size_alloc] at X0 R0
  have e0 : (N != 1) = decide (N ≠ 1) := by by_cases h : N = 1 <;> simp [h]
  have e1 : (N != -1) = decide (N ≠ -1) := by by_cases h : N = -1 <;> simp [h]
  have hcase : ((N != 1) = false) ∨ ((N != 1) = true ∧ (N != -1) = false) := by
    rcases hu with h | h
    · exact .inl (by simp [h])
    · exact .inr ⟨by simp [h], by simp [h]⟩
  clear e0 e1 hu
  go_enter Tryd.func53, Tryd.ntmps53
  go_wp2_with fail
  refine (HM.out _).mono ?_
  rintro e w1 ⟨rfl, hb1⟩
  have P1 := (P0.next hb1).alloc (.cells #[.int .i64 1, .int .i64 y1, .int .i64 y2, .int .i64 y3] 25)
  have X1 := (X0.next hb1).alloc (.cells #[.int .i64 1, .int .i64 y1, .int .i64 y2, .int .i64 y3] 25)
  have R1 := (R0.next hb1).alloc (.cells #[.int .i64 1, .int .i64 y1, .int .i64 y2, .int .i64 y3] 25)
  have U1 := gr_alloc (gr_trans U0 hb1) (.cells #[.int .i64 1, .int .i64 y1, .int .i64 y2, .int .i64 y3] 25)
  have Q1 := Arr.new w1 1 y1 y2 y3 25
  have hz1 := hb1.size
  simp only [World.size_alloc] at hz1
  clear P0 X0 R0 U0
  obtain ⟨_, a0, a1, a2, a3, a4, a5, a6, a7, a8⟩ := id P1
  obtain ⟨_, x0, x1, x2, _⟩ := id X1
  have fin : Calls Tryd.prog 74 #[.agg #[.int .i64 p0, .int .i64 p1, .int .i64 p2, .int .i64 p3, .int .i64 p4, .int .i64 p5, .int .i64 p6, .int .i64 p7, .int .i64 p8], .agg #[.int .i64 u, .int .i64 v, .int .i64 x], .agg #[.int .i64 u, .int .i64 v, .int .i64 x]] (w1.alloc (.cells #[.int .i64 1, .int .i64 y1, .int .i64 y2, .int .i64 y3] 25)) fun e w' => e = .returned (.agg #[.int .i64 S0, .int .i64 S1, .int .i64 S2]) ∧ Below (w1.alloc (.cells #[.int .i64 1, .int .i64 y1, .int .i64 y2, .int .i64 y3] 25)).heap.size (w1.alloc (.cells #[.int .i64 1, .int .i64 y1, .int .i64 y2, .int .i64 y3] 25)) w' := HMU.out _
  have FIN := hid fin
  clear fin
  rcases hcase with hc | ⟨hc, hc'⟩
  all_goals
    go_wp2_with fail
    refine FIN.out.mono ?_
    rintro e w2 ⟨rfl, hb2⟩
    have X2 := (X1.next hb2).alloc (.cells #[.int .i64 S0, .int .i64 S1, .int .i64 S2] 27)
    have R2 := (R1.next hb2).alloc (.cells #[.int .i64 S0, .int .i64 S1, .int .i64 S2] 27)
    have Q2 := (Q1.next hb2).alloc (.cells #[.int .i64 S0, .int .i64 S1, .int .i64 S2] 27)
    have U2 := gr_alloc (gr_trans U1 hb2) (.cells #[.int .i64 S0, .int .i64 S1, .int .i64 S2] 27)
    have T2 := Arr3.new w2 S0 S1 S2 27
    have hz2 := hb2.size
    simp only [World.size_alloc] at hz2
    clear P1 X1 R1 Q1 U1 a0 a1 a2 a3 a4 a5 a6 a7 a8 x0 x1 x2
    obtain ⟨_, x0, x1, x2, _⟩ := id X2
    obtain ⟨_, q0, q1, q2, q3, _⟩ := id Q2
    obtain ⟨_, t0, t1, t2, _⟩ := id T2
    go_wp2_with fail
    refine (addM_any S0 S1 S2 u v x y1 _).mono ?_
    rintro e w3 ⟨rfl, hb3⟩
    have R3 := R2.next hb3
    have Q3 := Q2.next hb3
    have T3 := T2.next hb3
    have U3 := gr_trans U2 hb3
    have hz3 := hb3.size
    simp only [World.size_alloc] at hz3
    clear X2 R2 Q2 U2 T2 x0 x1 x2 q0 q1 q2 q3 t0 t1 t2
    generalize hz0' : wrap64 (S0 + y1 * u) = z0
    generalize hz1' : wrap64 (S1 + y1 * v) = z1
    generalize hz2' : wrap64 (S2 + y1 * x) = z2
    have HZ := hid (And.intro hz0' (And.intro hz1' hz2'))
    clear hz0' hz1' hz2'
    obtain ⟨_, t0, t1, t2, f0, f1, f2⟩ := id T3
    obtain ⟨_, q0, q1, q2, q3, _⟩ := id Q3
    go_wp2_with fail
    have T4 := Arr3.store3 T3.box (x := z0) (y := z1) (z := z2)
    have R4 := R3.oth3 (i := w2.heap.size) (by omega) (x := .int .i64 z0) (y := .int .i64 z1) (z := .int .i64 z2)
    have Q4 := Q3.oth3 (i := w2.heap.size) (by omega) (x := .int .i64 z0) (y := .int .i64 z1) (z := .int .i64 z2)
    have U4 := gr_set (gr_set (gr_set U3 (p := ⟨w2.heap.size, 0, none⟩) (by show _ ≤ w2.heap.size; omega) (.int .i64 z0)) (p := ⟨w2.heap.size, 1, none⟩) (by show _ ≤ w2.heap.size; omega) (.int .i64 z1)) (p := ⟨w2.heap.size, 2, none⟩) (by show _ ≤ w2.heap.size; omega) (.int .i64 z2)
    clear R3 Q3 T3 U3 t0 t1 t2 f0 f1 f2 q0 q1 q2 q3
    have hs4 : (((w3.setCell ⟨w2.heap.size, 0, none⟩ (.int .i64 z0)).setCell ⟨w2.heap.size, 1, none⟩ (.int .i64 z1)).setCell ⟨w2.heap.size, 2, none⟩ (.int .i64 z2)).heap.size = w3.heap.size := by simp only [World.size_setCell]
    generalize ((w3.setCell ⟨w2.heap.size, 0, none⟩ (.int .i64 z0)).setCell ⟨w2.heap.size, 1, none⟩ (.int .i64 z1)).setCell ⟨w2.heap.size, 2, none⟩ (.int .i64 z2) = w4 at T4 R4 Q4 U4 hs4 ⊢
    refine (addM_any z0 z1 z2 1 0 0 y2 _).mono ?_
    rintro e w5 ⟨rfl, hb5⟩
    have T5 := T4.next hb5
    have R5 := R4.next hb5
    have U5 := gr_trans U4 hb5
    have hz5 := hb5.size
    clear T4 R4 Q4 U4
    generalize hv0 : wrap64 (z0 + y2 * 1) = v0
    generalize hv1 : wrap64 (z1 + y2 * 0) = v1
    generalize hv2 : wrap64 (z2 + y2 * 0) = v2
    have HV := hid (And.intro hv0 (And.intro hv1 hv2))
    clear hv0 hv1 hv2
    obtain ⟨_, t0, t1, t2, f0, f1, f2⟩ := id T5
    go_wp2_with fail
    have T6 := Arr3.store3 T5.box (x := v0) (y := v1) (z := v2)
    have R6 := R5.oth3 (i := w2.heap.size) (by omega) (x := .int .i64 v0) (y := .int .i64 v1) (z := .int .i64 v2)
    have U6 := gr_set (gr_set (gr_set U5 (p := ⟨w2.heap.size, 0, none⟩) (by show _ ≤ w2.heap.size; omega) (.int .i64 v0)) (p := ⟨w2.heap.size, 1, none⟩) (by show _ ≤ w2.heap.size; omega) (.int .i64 v1)) (p := ⟨w2.heap.size, 2, none⟩) (by show _ ≤ w2.heap.size; omega) (.int .i64 v2)
    clear R5 T5 U5 t0 t1 t2 f0 f1 f2 T6
    generalize ((w5.setCell ⟨w2.heap.size, 0, none⟩ (.int .i64 v0)).setCell ⟨w2.heap.size, 1, none⟩ (.int .i64 v1)).setCell ⟨w2.heap.size, 2, none⟩ (.int .i64 v2) = w6 at R6 U6 ⊢
    refine (addM_any 0 0 0 v0 v1 v2 N _).mono ?_
    rintro e w7 ⟨rfl, hb7⟩
    have R7 := R6.next hb7
    have U7 := gr_trans U6 hb7
    clear R6 U6
    generalize hr0 : wrap64 (0 + N * v0) = r0
    generalize hr1 : wrap64 (0 + N * v1) = r1
    generalize hr2 : wrap64 (0 + N * v2) = r2
    have HR := hid (And.intro hr0 (And.intro hr1 hr2))
    clear hr0 hr1 hr2
    obtain ⟨_, t0, t1, t2, f0, f1, f2⟩ := id R7
    go_wp2_with fail
    refine bodyPost_ret (res_A31 (e := 2) rfl Tryd.underlying27 (by kernel_rfl) rfl (by (repeat (first | with_reducible assumption | with_reducible exact Arr3.box (by assumption) | with_reducible exact Arr3.new _ _ _ _ _ | with_reducible refine Arr3.drew ?_ | with_reducible refine Arr3.drewN ?_ _ | with_reducible refine Arr3.store3 ?_ | with_reducible refine Arr3.alloc ?_ _ | with_reducible refine Arr3.next ?_ (by assumption) | refine Arr3.oth ?_ (by first | (simp; done) | omega | (simp; omega)) _ )))) rfl ?_
    exact ⟨ret_F3 (by rw [← HR.out.1, ← HV.out.1, ← HZ.out.1, ivn_p]) (by rw [← HR.out.2.1, ← HV.out.2.1, ← HZ.out.2.1, ivn_p]) (by rw [← HR.out.2.2, ← HV.out.2.2, ← HZ.out.2.2, ivn_p]), by (repeat' (first | with_reducible exact Below.refl _ _ | with_reducible assumption | with_reducible refine gr_alloc ?_ _ | with_reducible refine gr_drew ?_ | with_reducible refine gr_drewN ?_ _ | with_reducible refine gr_trans ?_ (by assumption) | with_reducible refine gr_set ?_ ?_ _ | (simp; done) | omega | (simp; omega)))⟩


end Go.Proofs.YtdogkkmdccieiaaDoor

/- What the door's condition gives a walk: the package's error for what is no unit is laid. -/
namespace Go.Proofs.YtdogkkmdccieiaaDoor
open Go.ChangeShapes Go.WideShapes Go.ChangeAt Go.RowKit

theorem nuG : Tryd.prog.globalNamed "loop.example/g01342/impl.errNoUnit" = some 0 := by kernel_rfl
theorem nuT : (Tryd.prog.globals[0]?).map (·.type) = some 69 := by kernel_rfl
theorem esStar : "*" ++ "errors.errorString" = "*errors.errorString" := by decide
theorem esRow (u : TypeId) (h : Tryd.prog.typeName? 3 u = some "*errors.errorString") : u = 154 :=
  typeName_ptr_named (nm := "errors.errorString") (by rw [esStar]; kernel_rfl) (by kernel_rfl) (by decide) u (by rw [esStar]; exact h)
theorem esCells : Tryd.prog.cellsOf 172 = 1 := by kernel_rfl
theorem strCells : Tryd.prog.cellsOf 9 = 1 := by kernel_rfl
theorem var_below {P : Program} {W W' : World} {n : String} {cs : Array Value} (h : W.var? P n = some cs) (hb : Below W.heap.size W W') : W'.var? P n = some cs := by
  unfold World.var? at h ⊢
  cases hg : P.globalNamed n with
  | none => simp [hg] at h
  | some g =>
    simp only [hg, Option.bind_some] at h ⊢
    have hlt : g < W.heap.size := by
      rcases Nat.lt_or_ge g W.heap.size with h' | h'
      · exact h'
      · simp [Array.getElem?_eq_none h'] at h
    rw [hb.block g hlt]; exact h
def nuLaid : List (String × DataW Unit) := [("loop.example/g01342/impl.errNoUnit", .iface "*errors.errorString" (.ptr (.agg [.lit (.string [116, 104, 101, 32, 101, 108, 101, 109, 101, 110, 116, 32, 105, 115, 32, 110, 111, 32, 117, 110, 105, 116])])))]
theorem nu_laid {W : World} (h : laidMetH Tryd.prog nuLaid W) : ∃ x0, W.var? Tryd.prog "loop.example/g01342/impl.errNoUnit" = some #[.iface 154 x0] ∧ SenU W x0 := by
  have h' : laidMet Tryd.prog nuLaid W := h
  obtain ⟨a, s, hv, _⟩ := laid_sentinel h' nuG nuT Tryd.underlying69 esRow Tryd.underlying154 Tryd.underlying172 rfl rfl Tryd.underlying9 esCells strCells
  have hc : W.cell? ⟨0, 0, none⟩ = some (.iface 154 (.pointer (some a))) := by simpa using World.var?_cell nuG hv 0
  exact ⟨_, hv, hc, World.block_lt_of_cell? W _ hc⟩
theorem nu_door (os : Os) (args : Array Value) : laidMetH Tryd.prog nuLaid ((World.doorLaid Tryd.prog 400 os).forCall (fun _ _ => 0) ⟨#[], args, []⟩).memory :=
  laidMetH_of_parts3 (fuel := 8) (laidMet_of_run' 8 (by kernel_rfl) (by kernel_rfl)) (by kernel_rfl) (by kernel_rfl)


end Go.Proofs.YtdogkkmdccieiaaDoor
