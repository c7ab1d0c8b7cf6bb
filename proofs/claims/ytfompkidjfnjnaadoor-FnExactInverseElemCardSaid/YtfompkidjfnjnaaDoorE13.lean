/- Chapter 4: PolynomialOf. -/
import Derived.Test.YtfompkidjfnjnaaDoorE11
import Derived.Test.YtfompkidjfnjnaaDoorList2
namespace Go.Proofs.YtfompkidjfnjnaaDoor
open Go.RowKit

theorem pol_bd {a b c d u v x : Int} (h4 : is4 100 a b c d = true) (h3 : is3 100 u v x = true) :
    (-1000000000000000 ≤ trm a b c d u v x ∧ trm a b c d u v x ≤ 1000000000000000) ∧ (-1000000000000000 ≤ mim a b c d u v x ∧ mim a b c d u v x ≤ 1000000000000000) := by
  obtain ⟨ha, hb, hc, hd⟩ := is4_t h4
  obtain ⟨hu, hv, hx⟩ := is3_t h3
  have E := ent (A := 100) (by omega) (by omega) ha hb hc hd (u := u) (v := v) (x := x) (by omega) (by omega) (by omega)
  have c0 := mulb (mulb ha hc) hv
  have c1 := mulb (mulb ha hd) hx
  have c2 := mulb (mulb ha hd) hv
  have c3 := mulb (mulb hb hd) hx
  have c5 := mulb hb hv
  have c6 := mulb ha hv
  have c7 := mulb hd hx
  have c8 := mulb hc hx
  have e0 : -(a * c) * v = -(a * c * v) := Int.neg_mul _ _
  have e1 : -(a * d) * v = -(a * d * v) := Int.neg_mul _ _
  have e2 : -a * v = -(a * v) := Int.neg_mul _ _
  unfold trm mim tr9 mi9
  rw [E.s0, E.s1, E.s2, E.t0, E.t1, E.t2]
  have s0 : -2000000 ≤ -(a * c) * v - a * d * x ∧ -(a * c) * v - a * d * x ≤ 2000000 := by omega
  have s1 : -10100 ≤ u + b * v ∧ u + b * v ≤ 10100 := by omega
  have s2 : -10000 ≤ -a * v ∧ -a * v ≤ 10000 := by omega
  have t0 : -2000000 ≤ -(a * d) * v - b * d * x ∧ -(a * d) * v - b * d * x ≤ 2000000 := by omega
  have t1 : -10000 ≤ d * x ∧ d * x ≤ 10000 := by omega
  have t2 : -10100 ≤ u - c * x ∧ u - c * x ≤ 10100 := by omega
  generalize -(a * c) * v - a * d * x = S0 at s0 ⊢
  generalize u + b * v = S1 at s1 ⊢
  generalize -a * v = S2 at s2 ⊢
  generalize -(a * d) * v - b * d * x = T0 at t0 ⊢
  generalize d * x = T1 at t1 ⊢
  generalize u - c * x = T2 at t2 ⊢
  have g1 := mulb s1 hu
  have g2 := mulb s0 hv
  have g3 := mulb t2 hu
  have g4 := mulb t0 hx
  have g5 := mulb t2 s1
  have g6 := mulb t1 s2
  exact ⟨by omega, by omega⟩
theorem few_bad {L a b c d u v x : Int} (h : ¬ few L a b c d u v x = 0) : (if few L a b c d u v x = 0 then 4 else 0) = 0 := if_neg h





end Go.Proofs.YtfompkidjfnjnaaDoor