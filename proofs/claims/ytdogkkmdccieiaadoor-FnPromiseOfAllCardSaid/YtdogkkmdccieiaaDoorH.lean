/- Chapter 3: Hessians of the program and of the model. -/
import Derived.Test.YtdogkkmdccieiaaDoorHs
import Derived.Test.YtdogkkmdccieiaaDoorC1b
import Derived.Test.YtdogkkmdccieiaaDoorZ7
import Derived.Test.YtdogkkmdccieiaaDoorQ
namespace Go.Proofs.YtdogkkmdccieiaaDoor
open Go.RowKit

/-- The numbers of the Hessian, as int64 has them; of no form: 0. -/
def h1 (a b c : Int) : Int := wrap64 (hs1 a b c)
def h2 (a b c d : Int) : Int := wrap64 (hs2 a b c d)
def h3 (b c d : Int) : Int := wrap64 (hs3 b c d)

set_option maxHeartbeats 1000000 in
theorem sHess0_any (a b c d : Int) (w : World) :
    Calls Tryd.prog 86 #[.agg #[.int .i64 a, .int .i64 b, .int .i64 c, .int .i64 d]] w fun e w' => e = .returned (.agg #[.int .i64 (h1 a b c), .int .i64 (h2 a b c d), .int .i64 (h3 b c d)]) ∧ Below w.heap.size w w' := by
  have e1 : h1 a b c = wrap64 (wrap64 (b * b) - wrap64 (wrap64 (3 * a) * c)) := by simp only [h1, hs1, wr_sl, wr_sr, wr_ml]
  have e2 : h2 a b c d = wrap64 (wrap64 (b * c) - wrap64 (wrap64 (9 * a) * d)) := by simp only [h2, hs2, wr_sl, wr_sr, wr_ml]
  have e3 : h3 b c d = wrap64 (wrap64 (c * c) - wrap64 (wrap64 (3 * b) * d)) := by simp only [h3, hs3, wr_sl, wr_sr, wr_ml]
  rw [e1, e2, e3]
  clear e1 e2 e3
  have A0 := (Arr.new w a b c d 25).alloc (.cells #[.int .i64 0, .int .i64 0, .int .i64 0] 52)
  have R0 := Arr3.new (w.alloc (.cells #[.int .i64 a, .int .i64 b, .int .i64 c, .int .i64 d] 25)) 0 0 0 52
  have U0 := gr_alloc (gr_alloc (Below.refl w.heap.size w) (.cells #[.int .i64 a, .int .i64 b, .int .i64 c, .int .i64 d] 25)) (.cells #[.int .i64 0, .int .i64 0, .int .i64 0] 52)
  simp only [World.size_alloc] at R0
  go_enter Tryd.func86, Tryd.ntmps86
  go_upto_region 1 with fail
  generalize (w.alloc (.cells #[.int .i64 a, .int .i64 b, .int .i64 c, .int .i64 d] 25)).alloc (.cells #[.int .i64 0, .int .i64 0, .int .i64 0] 52) = W0 at A0 R0 U0 ⊢
  obtain ⟨_, a0, a1, a2, a3, _⟩ := id A0
  obtain ⟨_, r0, r1, r2, f0, f1, f2⟩ := id R0
  go_quiet (fail)
  go_wp2
  refine bodyPost_ret (res_A31 (e := 2) rfl Tryd.underlying52 (by kernel_rfl) rfl (by (repeat (first | with_reducible assumption | with_reducible exact Arr.box (by assumption) | with_reducible exact Box.new _ _ _ _ _ _ | with_reducible exact Arr.new _ _ _ _ _ _ | with_reducible refine Arr.drew ?_ | with_reducible refine Arr.drewN ?_ _ | with_reducible refine Arr.store4 ?_ | with_reducible refine Arr.alloc ?_ _ | with_reducible refine Box.drew ?_ | with_reducible refine Box.drewN ?_ _ | with_reducible refine Box.alloc ?_ _ | with_reducible refine Arr.next ?_ (by assumption) | with_reducible refine Box.next ?_ (by assumption) | refine Arr.oth ?_ (by first | (simp; done) | omega | (simp; omega)) _ | refine Box.oth ?_ (by first | (simp; done) | omega | (simp; omega)) _ | with_reducible exact Arr3.box (by assumption) | with_reducible exact Box3.new _ _ _ _ _ | with_reducible exact Arr3.new _ _ _ _ _ | with_reducible refine Arr3.drew ?_ | with_reducible refine Arr3.drewN ?_ _ | with_reducible refine Arr3.store3 ?_ | with_reducible refine Arr3.alloc ?_ _ | with_reducible refine Box3.drew ?_ | with_reducible refine Box3.drewN ?_ _ | with_reducible refine Box3.alloc ?_ _ | with_reducible refine Arr3.next ?_ (by assumption) | with_reducible refine Box3.next ?_ (by assumption) | refine Arr3.oth ?_ (by first | (simp; done) | omega | (simp; omega)) _ | refine Box3.oth ?_ (by first | (simp; done) | omega | (simp; omega)) _)))) rfl ?_
  exact ⟨rfl, by (repeat' (first | with_reducible exact Below.refl _ _ | with_reducible assumption | with_reducible refine gr_alloc ?_ _ | with_reducible refine gr_drew ?_ | with_reducible refine gr_drewN ?_ _ | with_reducible refine gr_trans ?_ (by assumption) | with_reducible refine gr_set ?_ ?_ _ | (simp; done) | omega | (simp; omega)))⟩

set_option maxHeartbeats 400000 in
theorem iHessForm_any (a b c d : Int) (w : World) :
    Calls Tryd.prog 82 #[.agg #[.int .i64 a, .int .i64 b, .int .i64 c, .int .i64 d]] w fun e w' => e = .returned (.agg #[.int .i64 (h1 a b c), .int .i64 (h2 a b c d), .int .i64 (h3 b c d)]) ∧ Below w.heap.size w w' := by
  have hc := fun W => iHess_any a b c d W
  simp only [h1, h2, h3]
  generalize wrap64 (hs1 a b c) = x at hc ⊢
  generalize wrap64 (hs2 a b c d) = y at hc ⊢
  generalize wrap64 (hs3 b c d) = z at hc ⊢
  have HC := hid hc
  clear hc
  have R0 := Arr3.new (w.alloc (.cells #[.int .i64 a, .int .i64 b, .int .i64 c, .int .i64 d] 25)) 0 0 0 52
  simp only [World.size_alloc] at R0
  go_enter Tryd.func82, Tryd.ntmps82
  go_wp2_with fail
  refine (HC.out _).mono ?_
  rintro e w1 ⟨rfl, hb1⟩
  have R1 := R0.next hb1
  obtain ⟨_, r0, r1, r2, f0, f1, f2⟩ := id R1
  go_wp2
  refine bodyPost_ret (res_A31 (e := 2) rfl Tryd.underlying52 (by kernel_rfl) rfl (by (repeat (first | with_reducible assumption | with_reducible exact Arr.box (by assumption) | with_reducible exact Box.new _ _ _ _ _ _ | with_reducible exact Arr.new _ _ _ _ _ _ | with_reducible refine Arr.drew ?_ | with_reducible refine Arr.drewN ?_ _ | with_reducible refine Arr.store4 ?_ | with_reducible refine Arr.alloc ?_ _ | with_reducible refine Box.drew ?_ | with_reducible refine Box.drewN ?_ _ | with_reducible refine Box.alloc ?_ _ | with_reducible refine Arr.next ?_ (by assumption) | with_reducible refine Box.next ?_ (by assumption) | refine Arr.oth ?_ (by first | (simp; done) | omega | (simp; omega)) _ | refine Box.oth ?_ (by first | (simp; done) | omega | (simp; omega)) _ | with_reducible exact Arr3.box (by assumption) | with_reducible exact Box3.new _ _ _ _ _ | with_reducible exact Arr3.new _ _ _ _ _ | with_reducible refine Arr3.drew ?_ | with_reducible refine Arr3.drewN ?_ _ | with_reducible refine Arr3.store3 ?_ | with_reducible refine Arr3.alloc ?_ _ | with_reducible refine Box3.drew ?_ | with_reducible refine Box3.drewN ?_ _ | with_reducible refine Box3.alloc ?_ _ | with_reducible refine Arr3.next ?_ (by assumption) | with_reducible refine Box3.next ?_ (by assumption) | refine Arr3.oth ?_ (by first | (simp; done) | omega | (simp; omega)) _ | refine Box3.oth ?_ (by first | (simp; done) | omega | (simp; omega)) _)))) rfl ?_
  exact ⟨rfl, by (repeat' (first | with_reducible exact Below.refl _ _ | with_reducible assumption | with_reducible refine gr_alloc ?_ _ | with_reducible refine gr_drew ?_ | with_reducible refine gr_drewN ?_ _ | with_reducible refine gr_trans ?_ (by assumption) | with_reducible refine gr_set ?_ ?_ _ | (simp; done) | omega | (simp; omega)))⟩

set_option maxHeartbeats 400000 in
theorem iHessianOf_any (a b c d : Int) (w : World) :
    Calls Tryd.prog 31 #[.agg #[.int .i64 a, .int .i64 b, .int .i64 c, .int .i64 d]] w fun e w' => e = .returned (.tuple #[.agg #[.int .i64 (ifF a b c d (h1 a b c)), .int .i64 (ifF a b c d (h2 a b c d)), .int .i64 (ifF a b c d (h3 b c d))], .int .i64 (cif a b c d)]) ∧ Below w.heap.size w w' := by
  have hc := fun W => iHessForm_any a b c d W
  generalize h1 a b c = x at hc ⊢
  generalize h2 a b c d = y at hc ⊢
  generalize h3 b c d = z at hc ⊢
  have HC := hid hc
  clear hc
  go_enter Tryd.func31, Tryd.ntmps31
  go_wp2_with fail
  refine (iIsForm_any a b c d _).mono ?_
  rintro e w1 ⟨rfl, hb1⟩
  obtain ⟨_, c0, c1, c2, c3, _⟩ := ((Arr.new w a b c d 25).alloc (.cells #[.int .i64 0, .int .i64 0, .int .i64 0] 52)).next hb1
  have R1 := (Arr3.new (w.alloc (.cells #[.int .i64 a, .int .i64 b, .int .i64 c, .int .i64 d] 25)) 0 0 0 52).next hb1
  simp only [World.size_alloc] at R1
  by_cases hm : isF a b c d = true
  · go_wp2_with fail
    refine (HC.out _).mono ?_
    rintro e w2 ⟨rfl, hb2⟩
    have R2 := R1.next hb2
    obtain ⟨_, r0, r1, r2, f0, f1, f2⟩ := id R2
    go_wp2
    refine bodyPost_ret (res_A3 (e := 2) rfl Tryd.underlying52 (by kernel_rfl) rfl (by (repeat (first | with_reducible assumption | with_reducible exact Arr3.box (by assumption) | with_reducible exact Arr3.new _ _ _ _ _ | with_reducible refine Arr3.drew ?_ | with_reducible refine Arr3.drewN ?_ _ | with_reducible refine Arr3.store3 ?_ | with_reducible refine Arr3.alloc ?_ _ | with_reducible refine Arr3.next ?_ (by assumption) | refine Arr3.oth ?_ (by first | (simp; done) | omega | (simp; omega)) _ )))) rfl ?_
    exact ⟨ret_q (by simp [ifF, hm]) (by simp [ifF, hm]) (by simp [ifF, hm]) (by simp [cif, hm]), by (repeat' (first | with_reducible exact Below.refl _ _ | with_reducible assumption | with_reducible refine gr_alloc ?_ _ | with_reducible refine gr_drew ?_ | with_reducible refine gr_drewN ?_ _ | with_reducible refine gr_trans ?_ (by assumption) | with_reducible refine gr_set ?_ ?_ _ | (simp; done) | omega | (simp; omega)))⟩
  · have hm' : isF a b c d = false := by simpa using hm
    clear hm
    obtain ⟨_, r0, r1, r2, f0, f1, f2⟩ := id R1
    go_wp2
    refine bodyPost_ret (res_A3 (e := 2) rfl Tryd.underlying52 (by kernel_rfl) rfl (by (repeat (first | with_reducible assumption | with_reducible exact Arr3.box (by assumption) | with_reducible exact Arr3.new _ _ _ _ _ | with_reducible refine Arr3.drew ?_ | with_reducible refine Arr3.drewN ?_ _ | with_reducible refine Arr3.store3 ?_ | with_reducible refine Arr3.alloc ?_ _ | with_reducible refine Arr3.next ?_ (by assumption) | refine Arr3.oth ?_ (by first | (simp; done) | omega | (simp; omega)) _ )))) rfl ?_
    exact ⟨ret_q (by simp [ifF, hm']) (by simp [ifF, hm']) (by simp [ifF, hm']) (by simp [cif, hm']), by (repeat' (first | with_reducible exact Below.refl _ _ | with_reducible assumption | with_reducible refine gr_alloc ?_ _ | with_reducible refine gr_drew ?_ | with_reducible refine gr_drewN ?_ _ | with_reducible refine gr_trans ?_ (by assumption) | with_reducible refine gr_set ?_ ?_ _ | (simp; done) | omega | (simp; omega)))⟩

set_option maxHeartbeats 400000 in
theorem sHessianOf_any (a b c d : Int) (w : World) :
    Calls Tryd.prog 35 #[.agg #[.int .i64 a, .int .i64 b, .int .i64 c, .int .i64 d]] w fun e w' => e = .returned (.tuple #[.agg #[.int .i64 (ifF a b c d (h1 a b c)), .int .i64 (ifF a b c d (h2 a b c d)), .int .i64 (ifF a b c d (h3 b c d))], .int .i64 (cif a b c d)]) ∧ Below w.heap.size w w' := by
  have hc := fun W => sHess0_any a b c d W
  generalize h1 a b c = x at hc ⊢
  generalize h2 a b c d = y at hc ⊢
  generalize h3 b c d = z at hc ⊢
  have HC := hid hc
  clear hc
  go_enter Tryd.func35, Tryd.ntmps35
  go_wp2_with fail
  refine (l01Is_any a b c d _).mono ?_
  rintro e w1 ⟨rfl, hb1⟩
  obtain ⟨_, c0, c1, c2, c3, _⟩ := ((Arr.new w a b c d 25).alloc (.cells #[.int .i64 0, .int .i64 0, .int .i64 0] 52)).next hb1
  have R1 := (Arr3.new (w.alloc (.cells #[.int .i64 a, .int .i64 b, .int .i64 c, .int .i64 d] 25)) 0 0 0 52).next hb1
  simp only [World.size_alloc] at R1
  by_cases hm : isF a b c d = true
  · go_wp2_with fail
    refine (HC.out _).mono ?_
    rintro e w2 ⟨rfl, hb2⟩
    have R2 := R1.next hb2
    obtain ⟨_, r0, r1, r2, f0, f1, f2⟩ := id R2
    go_wp2
    refine bodyPost_ret (res_A3 (e := 2) rfl Tryd.underlying52 (by kernel_rfl) rfl (by (repeat (first | with_reducible assumption | with_reducible exact Arr3.box (by assumption) | with_reducible exact Arr3.new _ _ _ _ _ | with_reducible refine Arr3.drew ?_ | with_reducible refine Arr3.drewN ?_ _ | with_reducible refine Arr3.store3 ?_ | with_reducible refine Arr3.alloc ?_ _ | with_reducible refine Arr3.next ?_ (by assumption) | refine Arr3.oth ?_ (by first | (simp; done) | omega | (simp; omega)) _ )))) rfl ?_
    exact ⟨ret_q (by simp [ifF, hm]) (by simp [ifF, hm]) (by simp [ifF, hm]) (by simp [cif, hm]), by (repeat' (first | with_reducible exact Below.refl _ _ | with_reducible assumption | with_reducible refine gr_alloc ?_ _ | with_reducible refine gr_drew ?_ | with_reducible refine gr_drewN ?_ _ | with_reducible refine gr_trans ?_ (by assumption) | with_reducible refine gr_set ?_ ?_ _ | (simp; done) | omega | (simp; omega)))⟩
  · have hm' : isF a b c d = false := by simpa using hm
    clear hm
    obtain ⟨_, r0, r1, r2, f0, f1, f2⟩ := id R1
    go_wp2
    refine bodyPost_ret (res_A3 (e := 2) rfl Tryd.underlying52 (by kernel_rfl) rfl (by (repeat (first | with_reducible assumption | with_reducible exact Arr3.box (by assumption) | with_reducible exact Arr3.new _ _ _ _ _ | with_reducible refine Arr3.drew ?_ | with_reducible refine Arr3.drewN ?_ _ | with_reducible refine Arr3.store3 ?_ | with_reducible refine Arr3.alloc ?_ _ | with_reducible refine Arr3.next ?_ (by assumption) | refine Arr3.oth ?_ (by first | (simp; done) | omega | (simp; omega)) _ )))) rfl ?_
    exact ⟨ret_q (by simp [ifF, hm']) (by simp [ifF, hm']) (by simp [ifF, hm']) (by simp [cif, hm']), by (repeat' (first | with_reducible exact Below.refl _ _ | with_reducible assumption | with_reducible refine gr_alloc ?_ _ | with_reducible refine gr_drew ?_ | with_reducible refine gr_drewN ?_ _ | with_reducible refine gr_trans ?_ (by assumption) | with_reducible refine gr_set ?_ ?_ _ | (simp; done) | omega | (simp; omega)))⟩

theorem h_bd {a b c d : Int} (h : isF a b c d = true) : (-100000000 ≤ h1 a b c ∧ h1 a b c ≤ 100000000) ∧ (-100000000 ≤ h2 a b c d ∧ h2 a b c d ≤ 100000000) ∧ (-100000000 ≤ h3 b c d ∧ h3 b c d ≤ 100000000) := by
  obtain ⟨ha, hb, hc, hd⟩ := isF_t h
  have bb := mulb hb hb; have ac := mulb (mulb (show -3 ≤ (3 : Int) ∧ (3 : Int) ≤ 3 by omega) ha) hc; have bc := mulb hb hc
  have ad := mulb (mulb (show -9 ≤ (9 : Int) ∧ (9 : Int) ≤ 9 by omega) ha) hd; have cc := mulb hc hc; have bd := mulb (mulb (show -3 ≤ (3 : Int) ∧ (3 : Int) ≤ 3 by omega) hb) hd
  simp only [Int.reduceMul] at bb ac bc ad cc bd
  have e1 : h1 a b c = hs1 a b c := wr_in (by unfold hs1; omega)
  have e2 : h2 a b c d = hs2 a b c d := wr_in (by unfold hs2; omega)
  have e3 : h3 b c d = hs3 b c d := wr_in (by unfold hs3; omega)
  rw [e1, e2, e3]
  unfold hs1 hs2 hs3
  omega
/-- The content of the Hessian. -/
def hcn (a b c d : Int) : Int := ifF a b c d (cnt3 (h1 a b c) (h2 a b c d) (h3 b c d))
theorem hcn_eq (a b c d : Int) : cnt3 (ifF a b c d (h1 a b c)) (ifF a b c d (h2 a b c d)) (ifF a b c d (h3 b c d)) = hcn a b c d := by
  unfold hcn ifF; split <;> simp [cnt3]





end Go.Proofs.YtdogkkmdccieiaaDoor
