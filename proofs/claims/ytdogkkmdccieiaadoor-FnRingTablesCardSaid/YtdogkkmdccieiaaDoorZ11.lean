/- Several texts in one: XEN, XC1c, XC1d. -/
import Derived.Test.YtdogkkmdccieiaaDoorEM
import Derived.Test.YtdogkkmdccieiaaDoorZ5

/- Plain mathematics: discriminants of elements. -/
namespace Go.Proofs.YtdogkkmdccieiaaDoor
open Go.RowKit

/-- The discriminant of z^3 - t z^2 + m z - n does not change with z. -/
theorem dx_shift (t m n u : Int) : dx 1 (-(t + 3 * u)) (m + 2 * u * t + 3 * u * u) (-(n + u * m + u * u * t + u * u * u)) = dx 1 (-t) m (-n) := by
  unfold dx; grind
/-- Trace, minors, norm of v s + x t. -/
def tE (b c v x : Int) : Int := b * v - c * x
def mE (a b c d v x : Int) : Int := a * c * v * v + (3 * a * d - b * c) * v * x + b * d * x * x
def nE (a b c d v x : Int) : Int := a * a * d * v * v * v + (2 * a * b * d - a * c * c) * v * v * x + (b * b * d - 2 * a * c * d) * v * x * x - a * d * d * x * x * x
set_option maxHeartbeats 2000000 in
theorem sh_t (b c u v x : Int) : tr9 u (u + b * v) (u - c * x) = tE b c v x + 3 * u := by unfold tr9 tE; omega
set_option maxHeartbeats 2000000 in
theorem sh_m (a b c d u v x : Int) : mi9 u v x (-(a * c) * v - a * d * x) (u + b * v) (-a * v) (-(a * d) * v - b * d * x) (d * x) (u - c * x) = mE a b c d v x + 2 * u * tE b c v x + 3 * u * u := by
  unfold mi9 mE tE; grind
set_option maxHeartbeats 2000000 in
theorem sh_n (a b c d u v x : Int) : de9 u v x (-(a * c) * v - a * d * x) (u + b * v) (-a * v) (-(a * d) * v - b * d * x) (d * x) (u - c * x) = nE a b c d v x + u * mE a b c d v x + u * u * tE b c v x + u * u * u := by
  unfold de9 mE tE nE; grind
set_option maxHeartbeats 4000000 in
theorem disc_el (a b c d v x : Int) : dx 1 (-tE b c v x) (mE a b c d v x) (-nE a b c d v x) = dx a b c d * vx a b c d v x * vx a b c d v x := by
  unfold dx mE tE nE vx; grind
/-- The discriminant of an element, as a whole number. -/
def dve (a b c d v x : Int) : Int := dx a b c d * vx a b c d v x * vx a b c d v x
theorem dx_bd {a b c d A : Int} (ha : -A ≤ a ∧ a ≤ A) (hb : -A ≤ b ∧ b ≤ A) (hc : -A ≤ c ∧ c ≤ A) (hd : -A ≤ d ∧ d ≤ A) : -(54 * (A * A * A * A)) ≤ dx a b c d ∧ dx a b c d ≤ 54 * (A * A * A * A) := by
  have h1 := mulb4 hb hb hc hc
  have h2 := mulb4 ha hc hc hc
  have h3 := mulb4 hb hb hb hd
  have h4 := mulb4 ha ha hd hd
  have h5 := mulb4 ha hb hc hd
  have e2 : 4 * a * c * c * c = 4 * (a * c * c * c) := by grind
  have e3 : 4 * b * b * b * d = 4 * (b * b * b * d) := by grind
  have e4 : 27 * a * a * d * d = 27 * (a * a * d * d) := by grind
  have e5 : 18 * a * b * c * d = 18 * (a * b * c * d) := by grind
  unfold dx
  rw [e2, e3, e4, e5]
  omega
theorem dve_bd {a b c d u v x : Int} (h4 : is4 10 a b c d = true) (h3 : is3 10 u v x = true) : -1000000000000000 ≤ dve a b c d v x ∧ dve a b c d v x ≤ 1000000000000000 := by
  obtain ⟨ha, hb, hc, hd⟩ := is4_t h4
  obtain ⟨_, hv, hx⟩ := is3_t h3
  have h1 := dx_bd ha hb hc hd
  have h2 := vx_bd ha hb hc hd hv hx
  have h5 := mulb (mulb h1 h2) h2
  unfold dve
  omega
set_option maxHeartbeats 1000000 in
theorem disc_prog {a b c d u v x : Int} (hf : isE u v x = true) (h4 : is4 10 a b c d = true) (h3 : is3 10 u v x = true) :
    dsc 1 (wrap64 (-tr3 (mtf a b c d u v x))) (wrap64 (mi3 (mtf a b c d u v x))) (wrap64 (-de3 (mtf a b c d u v x))) = dve a b c d v x := by
  have hbd := dve_bd h4 h3
  rw [tr_mtf hf, mi_mtf hf, de_mtf hf]
  obtain ⟨ha, hb, hc, hd⟩ := is4_t h4
  obtain ⟨hu, hv, hx⟩ := is3_t h3
  have E := ent (A := 10) (by omega) (by omega) ha hb hc hd (u := u) (v := v) (x := x) (by omega) (by omega) (by omega)
  have c0 := mulb (mulb ha hc) hv
  have c1 := mulb (mulb ha hd) hx
  have c2 := mulb (mulb ha hd) hv
  have c3 := mulb (mulb hb hd) hx
  have c5 := mulb hb hv
  have c6 := mulb ha hv
  have c7 := mulb hd hx
  have c8 := mulb hc hx
  have e0 : -(a * c) * v = -(a * c * v) := Int.neg_mul _ _
  have e1 : -(a * d) * v = -(a * d * v) := Int.neg_mul _ _
  have e2 : -a * v = -(a * v) := Int.neg_mul _ _
  have s0 : -2000 ≤ -(a * c) * v - a * d * x ∧ -(a * c) * v - a * d * x ≤ 2000 := by omega
  have s1 : -110 ≤ u + b * v ∧ u + b * v ≤ 110 := by omega
  have s2 : -100 ≤ -a * v ∧ -a * v ≤ 100 := by omega
  have t0 : -2000 ≤ -(a * d) * v - b * d * x ∧ -(a * d) * v - b * d * x ≤ 2000 := by omega
  have t1 : -100 ≤ d * x ∧ d * x ≤ 100 := by omega
  have t2 : -110 ≤ u - c * x ∧ u - c * x ≤ 110 := by omega
  have kt := sh_t b c u v x
  have km := sh_m a b c d u v x
  have kn := sh_n a b c d u v x
  have ks := dx_shift (tE b c v x) (mE a b c d v x) (nE a b c d v x) u
  have kd := disc_el a b c d v x
  unfold trm mim dem
  rw [E.s0, E.s1, E.s2, E.t0, E.t1, E.t2]
  clear c0 c1 c2 c3 c5 c6 c7 c8 e0 e1 e2 E
  generalize -(a * c) * v - a * d * x = S0 at s0 km kn ⊢
  generalize u + b * v = S1 at s1 kt km kn ⊢
  generalize -a * v = S2 at s2 km kn ⊢
  generalize -(a * d) * v - b * d * x = T0 at t0 km kn ⊢
  generalize d * x = T1 at t1 km kn ⊢
  generalize u - c * x = T2 at t2 kt km kn ⊢
  have q1 := mulb s1 hu
  have q2 := mulb s0 hv
  have q3 := mulb t2 hu
  have q4 := mulb t0 hx
  have q5 := mulb t2 s1
  have q6 := mulb t1 s2
  have g1 := mulb s1 t2
  have g2 := mulb s2 t1
  have g3 := mulb s0 t2
  have g4 := mulb s2 t0
  have g5 := mulb s0 t1
  have g6 := mulb s1 t0
  have w1 := mulb hu (y := S1 * T2 - S2 * T1) (B := 50000) (by omega)
  have w2 := mulb hv (y := S0 * T2 - S2 * T0) (B := 500000) (by omega)
  have w3 := mulb hx (y := S0 * T1 - S1 * T0) (B := 500000) (by omega)
  have bt : -1000 ≤ tr9 u S1 T2 ∧ tr9 u S1 T2 ≤ 1000 := by unfold tr9; omega
  have bm : -10000000 ≤ mi9 u v x S0 S1 S2 T0 T1 T2 ∧ mi9 u v x S0 S1 S2 T0 T1 T2 ≤ 10000000 := by unfold mi9; omega
  have bn : -100000000 ≤ de9 u v x S0 S1 S2 T0 T1 T2 ∧ de9 u v x S0 S1 S2 T0 T1 T2 ≤ 100000000 := by unfold de9; omega
  rw [wr_in (x := -tr9 u S1 T2) (by omega), wr_in (x := mi9 u v x S0 S1 S2 T0 T1 T2) (by omega), wr_in (x := -de9 u v x S0 S1 S2 T0 T1 T2) (by omega), dsc_wr, kt, km, kn]
  rw [ks, kd]
  exact wr_in (by unfold dve at hbd; omega)

end Go.Proofs.YtdogkkmdccieiaaDoor

/- Chapter 1: values, slopes, discriminants, determinants, products, reversed forms. -/
namespace Go.Proofs.YtdogkkmdccieiaaDoor
open Go.RowKit

set_option maxHeartbeats 400000 in
theorem sIsMatrix_any (a b c d : Int) (w : World) :
    Calls Tryd.prog 79 #[.agg #[.int .i64 a, .int .i64 b, .int .i64 c, .int .i64 d]] w fun e w' => e = .returned (.bool (isF a b c d)) ∧ Below w.heap.size w w' := by
  go_enter Tryd.func79, Tryd.ntmps79
  go_wp2_with fail
  refine (l01Is_any a b c d _).mono ?_
  rintro e w1 ⟨rfl, hb1⟩
  go_wp2
  go_ret
  exact ⟨rfl, by (repeat' (first | with_reducible exact Below.refl _ _ | with_reducible assumption | with_reducible refine gr_alloc ?_ _ | with_reducible refine gr_drew ?_ | with_reducible refine gr_drewN ?_ _ | with_reducible refine gr_trans ?_ (by assumption) | with_reducible refine gr_set ?_ ?_ _ | (simp; done) | omega | (simp; omega)))⟩

set_option maxHeartbeats 400000 in
theorem iPlaceN_any (a b c d x y L : Int) (w : World) (h0 : 0 ≤ L) (h1 : L ≤ 1000000000000) :
    Calls Tryd.prog 75 #[.agg #[.int .i64 a, .int .i64 b, .int .i64 c, .int .i64 d], .int .i64 x, .int .i64 y, .int .i64 L] w fun e w' => e = .returned (.int .i64 (plcn L a b c d x y)) ∧ Below w.heap.size w w' := by
  go_enter Tryd.func75, Tryd.ntmps75
  go_wp2_with (first | (go_at_call 38; refine (iIsForm_any a b c d _).mono ?_; rintro e w1 ⟨rfl, hb1⟩) | (go_at_call 103; refine (isWithin_any _ _ _ (by omega) (by omega)).mono ?_; rintro e w1 ⟨rfl, rfl⟩))
  all_goals (go_ret; exact ⟨ret_int (by go_light; simp_all [plcn]), by (repeat' (first | with_reducible exact Below.refl _ _ | with_reducible assumption | with_reducible refine gr_alloc ?_ _ | with_reducible refine gr_drew ?_ | with_reducible refine gr_drewN ?_ _ | with_reducible refine gr_trans ?_ (by assumption) | with_reducible refine gr_set ?_ ?_ _ | (simp; done) | omega | (simp; omega)))⟩)

theorem iPlace_any (a b c d x y : Int) (w : World) :
    Calls Tryd.prog 75 #[.agg #[.int .i64 a, .int .i64 b, .int .i64 c, .int .i64 d], .int .i64 x, .int .i64 y, .int .i64 10000] w fun e w' => e = .returned (.int .i64 (plc a b c d x y)) ∧ Below w.heap.size w w' := iPlaceN_any a b c d x y 10000 w (by omega) (by omega)



set_option maxHeartbeats 400000 in
theorem iFormValue_any (a b c d x y : Int) (w : World) :
    Calls Tryd.prog 40 #[.agg #[.int .i64 a, .int .i64 b, .int .i64 c, .int .i64 d], .int .i64 x, .int .i64 y] w fun e w' => e = .returned (.int .i64 (vl a b c d x y)) ∧ Below w.heap.size w w' := by
  go_enter Tryd.func40, Tryd.ntmps40
  go_wp2
  go_ret
  exact ⟨rfl, by (repeat' (first | with_reducible exact Below.refl _ _ | with_reducible assumption | with_reducible refine gr_alloc ?_ _ | with_reducible refine gr_drew ?_ | with_reducible refine gr_drewN ?_ _ | with_reducible refine gr_trans ?_ (by assumption) | with_reducible refine gr_set ?_ ?_ _ | (simp; done) | omega | (simp; omega)))⟩

set_option maxHeartbeats 400000 in
theorem sValue_any (a b c d x y : Int) (w : World) :
    Calls Tryd.prog 42 #[.agg #[.int .i64 a, .int .i64 b, .int .i64 c, .int .i64 d], .int .i64 x, .int .i64 y] w fun e w' => e = .returned (.int .i64 (vl a b c d x y)) ∧ Below w.heap.size w w' := by
  go_enter Tryd.func42, Tryd.ntmps42
  go_wp2
  go_ret
  exact ⟨rfl, by (repeat' (first | with_reducible exact Below.refl _ _ | with_reducible assumption | with_reducible refine gr_alloc ?_ _ | with_reducible refine gr_drew ?_ | with_reducible refine gr_drewN ?_ _ | with_reducible refine gr_trans ?_ (by assumption) | with_reducible refine gr_set ?_ ?_ _ | (simp; done) | omega | (simp; omega)))⟩

set_option maxHeartbeats 400000 in
theorem iValueAt_any (a b c d x y : Int) (w : World) :
    Calls Tryd.prog 27 #[.agg #[.int .i64 a, .int .i64 b, .int .i64 c, .int .i64 d], .int .i64 x, .int .i64 y] w fun e w' => e = .returned (.tuple #[.int .i64 (va0 a b c d x y), .int .i64 (plc a b c d x y)]) ∧ Below w.heap.size w w' := by
  go_enter Tryd.func27, Tryd.ntmps27
  go_wp2_with fail
  refine (iPlace_any a b c d x y _).mono ?_
  rintro e w1 ⟨rfl, hb1⟩
  obtain ⟨_, c0, c1, c2, c3, _⟩ := (Arr.new w a b c d 25).next hb1
  go_wp2_with (go_at_call 40; refine (iFormValue_any a b c d x y _).mono ?_; rintro e w2 ⟨rfl, hb2⟩)
  all_goals (go_ret2; exact ⟨ret_tup2 (by go_light; simp_all [va0]) (by go_light; simp_all), by (repeat' (first | with_reducible exact Below.refl _ _ | with_reducible assumption | with_reducible refine gr_alloc ?_ _ | with_reducible refine gr_drew ?_ | with_reducible refine gr_drewN ?_ _ | with_reducible refine gr_trans ?_ (by assumption) | with_reducible refine gr_set ?_ ?_ _ | (simp; done) | omega | (simp; omega)))⟩)




end Go.Proofs.YtdogkkmdccieiaaDoor

/- Chapter 1: slopes, discriminants, determinants. -/
namespace Go.Proofs.YtdogkkmdccieiaaDoor
open Go.RowKit





set_option maxHeartbeats 400000 in
theorem sDisc0_any (a b c d : Int) (w : World) :
    Calls Tryd.prog 62 #[.agg #[.int .i64 a, .int .i64 b, .int .i64 c, .int .i64 d]] w fun e w' => e = .returned (.int .i64 (dsc a b c d)) ∧ Below w.heap.size w w' := by
  go_enter Tryd.func62, Tryd.ntmps62
  go_wp2
  go_quiet (fail)
  go_wp2
  go_ret
  exact ⟨rfl, by (repeat' (first | with_reducible exact Below.refl _ _ | with_reducible assumption | with_reducible refine gr_alloc ?_ _ | with_reducible refine gr_drew ?_ | with_reducible refine gr_drewN ?_ _ | with_reducible refine gr_trans ?_ (by assumption) | with_reducible refine gr_set ?_ ?_ _ | (simp; done) | omega | (simp; omega)))⟩

set_option maxHeartbeats 400000 in
theorem sDisc_any (a b c d : Int) (w : World) :
    Calls Tryd.prog 33 #[.agg #[.int .i64 a, .int .i64 b, .int .i64 c, .int .i64 d]] w fun e w' => e = .returned (.tuple #[.int .i64 (dsc0 a b c d), .int .i64 (cif a b c d)]) ∧ Below w.heap.size w w' := by
  go_enter Tryd.func33, Tryd.ntmps33
  go_wp2_with fail
  refine (l01Is_any a b c d _).mono ?_
  rintro e w1 ⟨rfl, hb1⟩
  obtain ⟨_, c0, c1, c2, c3, _⟩ := (Arr.new w a b c d 25).next hb1
  go_wp2_with (go_at_call 62; refine (sDisc0_any a b c d _).mono ?_; rintro e w2 ⟨rfl, hb2⟩)
  all_goals (go_ret2; exact ⟨ret_tup2 (by go_light; simp_all [dsc0]) (by go_light; simp_all [cif]), by (repeat' (first | with_reducible exact Below.refl _ _ | with_reducible assumption | with_reducible refine gr_alloc ?_ _ | with_reducible refine gr_drew ?_ | with_reducible refine gr_drewN ?_ _ | with_reducible refine gr_trans ?_ (by assumption) | with_reducible refine gr_set ?_ ?_ _ | (simp; done) | omega | (simp; omega)))⟩)

set_option maxHeartbeats 400000 in
theorem iDisc0_any (a b c d : Int) (w : World) :
    Calls Tryd.prog 60 #[.agg #[.int .i64 a, .int .i64 b, .int .i64 c, .int .i64 d]] w fun e w' => e = .returned (.int .i64 (dsc a b c d)) ∧ Below w.heap.size w w' := by
  go_enter Tryd.func60, Tryd.ntmps60
  go_wp2
  go_quiet (fail)
  go_wp2
  go_ret
  exact ⟨rfl, by (repeat' (first | with_reducible exact Below.refl _ _ | with_reducible assumption | with_reducible refine gr_alloc ?_ _ | with_reducible refine gr_drew ?_ | with_reducible refine gr_drewN ?_ _ | with_reducible refine gr_trans ?_ (by assumption) | with_reducible refine gr_set ?_ ?_ _ | (simp; done) | omega | (simp; omega)))⟩

set_option maxHeartbeats 400000 in
theorem iDisc_any (a b c d : Int) (w : World) :
    Calls Tryd.prog 25 #[.agg #[.int .i64 a, .int .i64 b, .int .i64 c, .int .i64 d]] w fun e w' => e = .returned (.tuple #[.int .i64 (dsc0 a b c d), .int .i64 (cif a b c d)]) ∧ Below w.heap.size w w' := by
  go_enter Tryd.func25, Tryd.ntmps25
  go_wp2_with fail
  refine (iIsForm_any a b c d _).mono ?_
  rintro e w1 ⟨rfl, hb1⟩
  obtain ⟨_, c0, c1, c2, c3, _⟩ := (Arr.new w a b c d 25).next hb1
  go_wp2_with (go_at_call 60; refine (iDisc0_any a b c d _).mono ?_; rintro e w2 ⟨rfl, hb2⟩)
  all_goals (go_ret2; exact ⟨ret_tup2 (by go_light; simp_all [dsc0]) (by go_light; simp_all [cif]), by (repeat' (first | with_reducible exact Below.refl _ _ | with_reducible assumption | with_reducible refine gr_alloc ?_ _ | with_reducible refine gr_drew ?_ | with_reducible refine gr_drewN ?_ _ | with_reducible refine gr_trans ?_ (by assumption) | with_reducible refine gr_set ?_ ?_ _ | (simp; done) | omega | (simp; omega)))⟩)








end Go.Proofs.YtdogkkmdccieiaaDoor
