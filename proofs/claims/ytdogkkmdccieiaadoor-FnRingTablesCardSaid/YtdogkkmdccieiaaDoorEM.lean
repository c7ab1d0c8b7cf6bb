/- Plain mathematics: matrices, norms, discriminants of elements as whole numbers. -/
import Derived.Test.YtdogkkmdccieiaaDoorZ9
import Derived.Test.YtdogkkmdccieiaaDoorZ10
namespace Go.Proofs.YtdogkkmdccieiaaDoor
open Go.RowKit

theorem isE_t {a b c : Int} (h : isE a b c = true) : (-10000 ≤ a ∧ a ≤ 10000) ∧ (-10000 ≤ b ∧ b ≤ 10000) ∧ (-10000 ≤ c ∧ c ≤ 10000) := is3_t h
theorem mtx_00 {p0 p1 p2 p3 p4 p5 p6 p7 p8 u v x : Int} (h : isE u v x = true) : mtx p0 p1 p2 p3 p4 p5 p6 p7 p8 u v x 0 0 = u ∧ mtx p0 p1 p2 p3 p4 p5 p6 p7 p8 u v x 0 1 = v ∧ mtx p0 p1 p2 p3 p4 p5 p6 p7 p8 u v x 0 2 = x := by
  obtain ⟨h0, h1, h2⟩ := isE_t h
  refine ⟨?_, ?_, ?_⟩
  · show m0 p0 p3 p6 u v x 1 0 0 = u
    simp only [m0, mm, Int.mul_one, Int.mul_zero, Int.zero_mul, Int.add_zero]
    exact wr_in (by omega)
  · show m1 p1 p4 p7 u v x 1 0 0 = v
    simp only [m1, mm, Int.mul_one, Int.mul_zero, Int.zero_mul, Int.add_zero, Int.zero_add]
    exact wr_in (by omega)
  · show m2 p2 p5 p8 u v x 1 0 0 = x
    simp only [m2, mm, Int.mul_one, Int.mul_zero, Int.zero_mul, Int.add_zero, Int.zero_add]
    exact wr_in (by omega)
/-- The matrix of an element in the ring of a form. -/
abbrev mtf (a b c d u v x : Int) : Nat → Nat → Int := mtx (np a c) b (ng a) (np a d) 0 0 (np b d) d (ng c) u v x
abbrev trm (a b c d u v x : Int) : Int := tr9 u (m1 b 0 d u v x 0 1 0) (m2 (ng a) 0 (ng c) u v x 0 0 1)
abbrev mim (a b c d u v x : Int) : Int := mi9 u v x
  (m0 (np a c) (np a d) (np b d) u v x 0 1 0) (m1 b 0 d u v x 0 1 0) (m2 (ng a) 0 (ng c) u v x 0 1 0)
  (m0 (np a c) (np a d) (np b d) u v x 0 0 1) (m1 b 0 d u v x 0 0 1) (m2 (ng a) 0 (ng c) u v x 0 0 1)
abbrev dem (a b c d u v x : Int) : Int := de9 u v x
  (m0 (np a c) (np a d) (np b d) u v x 0 1 0) (m1 b 0 d u v x 0 1 0) (m2 (ng a) 0 (ng c) u v x 0 1 0)
  (m0 (np a c) (np a d) (np b d) u v x 0 0 1) (m1 b 0 d u v x 0 0 1) (m2 (ng a) 0 (ng c) u v x 0 0 1)
theorem tr_mtf {a b c d u v x : Int} (h : isE u v x = true) : tr3 (mtf a b c d u v x) = trm a b c d u v x := by
  unfold tr3 mtf trm tr9; rw [(mtx_00 h).1]; rfl
theorem mi_mtf {a b c d u v x : Int} (h : isE u v x = true) : mi3 (mtf a b c d u v x) = mim a b c d u v x := by
  unfold mi3 mtf mim mi9; rw [(mtx_00 h).1, (mtx_00 h).2.1, (mtx_00 h).2.2]; rfl
theorem de_mtf {a b c d u v x : Int} (h : isE u v x = true) : de3 (mtf a b c d u v x) = dem a b c d u v x := by
  unfold de3 mtf dem de9; rw [(mtx_00 h).1, (mtx_00 h).2.1, (mtx_00 h).2.2]; rfl

/-- The numbers of the second and the third row. -/
structure Ent (a b c d u v x s0 s1 s2 t0 t1 t2 : Int) : Prop where
  s0 : m0 (np a c) (np a d) (np b d) u v x 0 1 0 = s0
  s1 : m1 b 0 d u v x 0 1 0 = s1
  s2 : m2 (ng a) 0 (ng c) u v x 0 1 0 = s2
  t0 : m0 (np a c) (np a d) (np b d) u v x 0 0 1 = t0
  t1 : m1 b 0 d u v x 0 0 1 = t1
  t2 : m2 (ng a) 0 (ng c) u v x 0 0 1 = t2
theorem np_eq {x y A : Int} (hx : -A ≤ x ∧ x ≤ A) (hy : -A ≤ y ∧ y ≤ A) (hA : A ≤ 10000) : np x y = -(x * y) ∧ -(A * A) ≤ x * y ∧ x * y ≤ A * A := by
  have h := mulb hx hy
  have hh := mulb (A := 10000) (B := 10000) (x := x) (y := y) (by omega) (by omega)
  refine ⟨?_, h⟩
  unfold np
  rw [Int.neg_mul]
  exact wr_in (by omega)
theorem ng_eq {x : Int} (hx : -10000 ≤ x ∧ x ≤ 10000) : ng x = -x := wr_in (by omega)

theorem ent {a b c d u v x A : Int} (hA : 0 ≤ A) (hA' : A ≤ 1000) (ha : -A ≤ a ∧ a ≤ A) (hb : -A ≤ b ∧ b ≤ A) (hc : -A ≤ c ∧ c ≤ A) (hd : -A ≤ d ∧ d ≤ A) (hu : -10000 ≤ u ∧ u ≤ 10000) (hv : -10000 ≤ v ∧ v ≤ 10000) (hx : -10000 ≤ x ∧ x ≤ 10000) :
    Ent a b c d u v x (-(a * c) * v - a * d * x) (u + b * v) (-a * v) (-(a * d) * v - b * d * x) (d * x) (u - c * x) := by
  obtain ⟨e1, b1⟩ := np_eq ha hc (by omega)
  obtain ⟨e2, b2⟩ := np_eq ha hd (by omega)
  obtain ⟨e3, b3⟩ := np_eq hb hd (by omega)
  have e4 := ng_eq (x := a) (by omega)
  have e5 := ng_eq (x := c) (by omega)
  have hAA := mulb (A := 1000) (B := 1000) (x := A) (y := A) (by omega) (by omega)
  generalize a * c = ac at e1 b1 ⊢
  generalize a * d = ad at e2 b2 ⊢
  generalize b * d = bd at e3 b3 ⊢
  have c1 := mulb (A := 1000000) (B := 10000) (x := ac) (y := v) (by omega) hv
  have c2 := mulb (A := 1000000) (B := 10000) (x := ad) (y := x) (by omega) hx
  have c3 := mulb (A := 1000000) (B := 10000) (x := ad) (y := v) (by omega) hv
  have c4 := mulb (A := 1000000) (B := 10000) (x := bd) (y := x) (by omega) hx
  have c5 := mulb (A := 1000) (B := 10000) (x := b) (y := v) (by omega) hv
  have c6 := mulb (A := 1000) (B := 10000) (x := a) (y := v) (by omega) hv
  have c7 := mulb (A := 1000) (B := 10000) (x := d) (y := x) (by omega) hx
  have c8 := mulb (A := 1000) (B := 10000) (x := c) (y := x) (by omega) hx
  have f1 : v * -ac = -(ac * v) := by rw [Int.mul_neg, Int.mul_comm]
  have f2 : x * -ad = -(ad * x) := by rw [Int.mul_neg, Int.mul_comm]
  have f3 : v * -ad = -(ad * v) := by rw [Int.mul_neg, Int.mul_comm]
  have f4 : x * -bd = -(bd * x) := by rw [Int.mul_neg, Int.mul_comm]
  have f5 : v * b = b * v := Int.mul_comm _ _
  have f6 : v * -a = -(a * v) := by rw [Int.mul_neg, Int.mul_comm]
  have f7 : x * d = d * x := Int.mul_comm _ _
  have f8 : x * -c = -(c * x) := by rw [Int.mul_neg, Int.mul_comm]
  constructor
  all_goals (simp only [e1, e2, e3, e4, e5, m0, m1, m2, mm, Int.mul_one, Int.mul_zero, Int.zero_mul, Int.add_zero, Int.zero_add, f1, f2, f3, f4, f5, f6, f7, f8, Int.neg_mul]; rw [wr_in (by omega)]; try omega)

theorem mtf_bd {a b c d u v x : Int} (hf : isF a b c d = true) (he : isE u v x = true) (i j : Nat) : -1000000000000 ≤ mtf a b c d u v x i j ∧ mtf a b c d u v x i j ≤ 1000000000000 := by
  obtain ⟨ha, hb, hc, hd⟩ := isF_t hf
  obtain ⟨hu, hv, hx⟩ := isE_t he
  have E := ent (A := 1000) (by omega) (by omega) ha hb hc hd hu hv hx
  obtain ⟨r0, r1, r2⟩ := mtx_00 (p0 := np a c) (p1 := b) (p2 := ng a) (p3 := np a d) (p4 := 0) (p5 := 0) (p6 := np b d) (p7 := d) (p8 := ng c) he
  have c0 := mulb4 ha hc hv (u := 1) (D := 1) (by omega)
  have c1 := mulb4 ha hd hx (u := 1) (D := 1) (by omega)
  have c2 := mulb4 ha hd hv (u := 1) (D := 1) (by omega)
  have c3 := mulb4 hb hd hx (u := 1) (D := 1) (by omega)
  have c5 := mulb hb hv
  have c6 := mulb ha hv
  have c7 := mulb hd hx
  have c8 := mulb hc hx
  simp only [Int.mul_one] at c0 c1 c2 c3
  have e0 : -(a * c) * v = -(a * c * v) := Int.neg_mul _ _
  have e1 : -(a * d) * v = -(a * d * v) := Int.neg_mul _ _
  have e2 : -a * v = -(a * v) := Int.neg_mul _ _
  unfold mtf mtx
  split
  · have h : m0 (np a c) (np a d) (np b d) u v x 1 0 0 = u := r0
    omega
  · have h : m1 b 0 d u v x 1 0 0 = v := r1
    omega
  · have h : m2 (ng a) 0 (ng c) u v x 1 0 0 = x := r2
    omega
  · rw [E.s0]; omega
  · rw [E.s1]; omega
  · rw [E.s2]; omega
  · rw [E.t0]; omega
  · rw [E.t1]; omega
  · rw [E.t2]; omega
  · omega

/-- The norm is not great. -/
theorem dem_bd {a b c d u v x : Int} (h4 : is4 100 a b c d = true) (h3 : is3 100 u v x = true) : -1000000000000000 ≤ dem a b c d u v x ∧ dem a b c d u v x ≤ 1000000000000000 := by
  obtain ⟨ha, hb, hc, hd⟩ := is4_t h4
  obtain ⟨hu, hv, hx⟩ := is3_t h3
  have E := ent (A := 100) (by omega) (by omega) ha hb hc hd (u := u) (v := v) (x := x) (by omega) (by omega) (by omega)
  have c0 := mulb (mulb ha hc) hv
  have c1 := mulb (mulb ha hd) hx
  have c2 := mulb (mulb ha hd) hv
  have c3 := mulb (mulb hb hd) hx
  have c5 := mulb hb hv
  have c6 := mulb ha hv
  have c7 := mulb hd hx
  have c8 := mulb hc hx
  have e0 : -(a * c) * v = -(a * c * v) := Int.neg_mul _ _
  have e1 : -(a * d) * v = -(a * d * v) := Int.neg_mul _ _
  have e2 : -a * v = -(a * v) := Int.neg_mul _ _
  unfold dem de9
  rw [E.s0, E.s1, E.s2, E.t0, E.t1, E.t2]
  have s0 : -2000000 ≤ -(a * c) * v - a * d * x ∧ -(a * c) * v - a * d * x ≤ 2000000 := by omega
  have s1 : -10100 ≤ u + b * v ∧ u + b * v ≤ 10100 := by omega
  have s2 : -10000 ≤ -a * v ∧ -a * v ≤ 10000 := by omega
  have t0 : -2000000 ≤ -(a * d) * v - b * d * x ∧ -(a * d) * v - b * d * x ≤ 2000000 := by omega
  have t1 : -10000 ≤ d * x ∧ d * x ≤ 10000 := by omega
  have t2 : -10100 ≤ u - c * x ∧ u - c * x ≤ 10100 := by omega
  generalize -(a * c) * v - a * d * x = S0 at s0 ⊢
  generalize u + b * v = S1 at s1 ⊢
  generalize -a * v = S2 at s2 ⊢
  generalize -(a * d) * v - b * d * x = T0 at t0 ⊢
  generalize d * x = T1 at t1 ⊢
  generalize u - c * x = T2 at t2 ⊢
  have g1 := mulb s1 t2
  have g2 := mulb s2 t1
  have g3 := mulb s0 t2
  have g4 := mulb s2 t0
  have g5 := mulb s0 t1
  have g6 := mulb s1 t0
  have k1 := mulb hu (y := S1 * T2 - S2 * T1) (B := 300000000) (by omega)
  have k2 := mulb hv (y := S0 * T2 - S2 * T0) (B := 50000000000) (by omega)
  have k3 := mulb hx (y := S0 * T1 - S1 * T0) (B := 50000000000) (by omega)
  omega

end Go.Proofs.YtdogkkmdccieiaaDoor
