/- Chapter 4: PolynomialOf. -/
import Derived.Test.YtambbhldhhlfgaaE11
import Derived.Test.YtambbhldhhlfgaaZ5
namespace Go.Proofs.Ytambbhldhhlfgaa
open Go.RowKit

theorem pol_bd {a b c d u v x : Int} (h4 : is4 100 a b c d = true) (h3 : is3 100 u v x = true) :
    (-1000000000000000 ≤ trm a b c d u v x ∧ trm a b c d u v x ≤ 1000000000000000) ∧ (-1000000000000000 ≤ mim a b c d u v x ∧ mim a b c d u v x ≤ 1000000000000000) := by
  obtain ⟨ha, hb, hc, hd⟩ := is4_t h4
  obtain ⟨hu, hv, hx⟩ := is3_t h3
  have E := ent (A := 100) (by omega) (by omega) ha hb hc hd (u := u) (v := v) (x := x) (by omega) (by omega) (by omega)
  have c0 := mulb (mulb ha hc) hv
  have c1 := mulb (mulb ha hd) hx
  have c2 := mulb (mulb ha hd) hv
  have c3 := mulb (mulb hb hd) hx
  have c5 := mulb hb hv
  have c6 := mulb ha hv
  have c7 := mulb hd hx
  have c8 := mulb hc hx
  have e0 : -(a * c) * v = -(a * c * v) := Int.neg_mul _ _
  have e1 : -(a * d) * v = -(a * d * v) := Int.neg_mul _ _
  have e2 : -a * v = -(a * v) := Int.neg_mul _ _
  unfold trm mim tr9 mi9
  rw [E.s0, E.s1, E.s2, E.t0, E.t1, E.t2]
  have s0 : -2000000 ≤ -(a * c) * v - a * d * x ∧ -(a * c) * v - a * d * x ≤ 2000000 := by omega
  have s1 : -10100 ≤ u + b * v ∧ u + b * v ≤ 10100 := by omega
  have s2 : -10000 ≤ -a * v ∧ -a * v ≤ 10000 := by omega
  have t0 : -2000000 ≤ -(a * d) * v - b * d * x ∧ -(a * d) * v - b * d * x ≤ 2000000 := by omega
  have t1 : -10000 ≤ d * x ∧ d * x ≤ 10000 := by omega
  have t2 : -10100 ≤ u - c * x ∧ u - c * x ≤ 10100 := by omega
  generalize -(a * c) * v - a * d * x = S0 at s0 ⊢
  generalize u + b * v = S1 at s1 ⊢
  generalize -a * v = S2 at s2 ⊢
  generalize -(a * d) * v - b * d * x = T0 at t0 ⊢
  generalize d * x = T1 at t1 ⊢
  generalize u - c * x = T2 at t2 ⊢
  have g1 := mulb s1 hu
  have g2 := mulb s0 hv
  have g3 := mulb t2 hu
  have g4 := mulb t0 hx
  have g5 := mulb t2 s1
  have g6 := mulb t1 s2
  exact ⟨by omega, by omega⟩
theorem few_bad {L a b c d u v x : Int} (h : ¬ few L a b c d u v x = 0) : (if few L a b c d u v x = 0 then 4 else 0) = 0 := if_neg h

set_option maxRecDepth 100000 in
set_option maxHeartbeats 2000000 in
theorem iPolyE_any (a b c d u v x : Int) (w : World) :
    Calls Try.prog 17 #[.agg #[.int .i64 a, .int .i64 b, .int .i64 c, .int .i64 d], .agg #[.int .i64 u, .int .i64 v, .int .i64 x]] w (LstOut (few 100 a b c d u v x) 4 (q4 1 (wrap64 (-tr3 (mtf a b c d u v x))) (wrap64 (mi3 (mtf a b c d u v x))) (wrap64 (-de3 (mtf a b c d u v x)))) w) := by
  have hp := fun W => iProducts_any a b c d W
  have hm : few 100 a b c d u v x = 0 → ∀ W, Calls Try.prog 73 #[.agg #[.int .i64 (np a c), .int .i64 b, .int .i64 (ng a), .int .i64 (np a d), .int .i64 0, .int .i64 0, .int .i64 (np b d), .int .i64 d, .int .i64 (ng c)], .agg #[.int .i64 u, .int .i64 v, .int .i64 x]] W fun e w' =>
      e = .returned (.agg #[.int .i64 1, .int .i64 (wrap64 (-tr3 (mtf a b c d u v x))), .int .i64 (wrap64 (mi3 (mtf a b c d u v x))), .int .i64 (wrap64 (-de3 (mtf a b c d u v x)))]) ∧ Below W.heap.size W w' := fun h W => iPoly_any (np a c) b (ng a) (np a d) 0 0 (np b d) d (ng c) u v x W (mtf_bd (few_t h).1 (few_t h).2.1)
  have hc := fun W => iWithinFE_any 100 a b c d u v x W (by omega) (by omega)
  generalize wrap64 (-tr3 (mtf a b c d u v x)) = y1 at hm ⊢
  generalize wrap64 (mi3 (mtf a b c d u v x)) = y2 at hm ⊢
  generalize wrap64 (-de3 (mtf a b c d u v x)) = y3 at hm ⊢
  generalize np a c = t0 at hp hm
  generalize ng a = t2 at hp hm
  generalize np a d = t3 at hp hm
  generalize np b d = t6 at hp hm
  generalize ng c = t8 at hp hm
  generalize few 100 a b c d u v x = k at hc hm ⊢
  have HP := hid hp; have HM := hid hm; have HC := hid hc
  clear hp hm hc
  have F0 := (Arr.new w a b c d 25).alloc (.cells #[.int .i64 u, .int .i64 v, .int .i64 x] 27)
  have X0 := Arr3.new (w.alloc (.cells #[.int .i64 a, .int .i64 b, .int .i64 c, .int .i64 d] 25)) u v x 27
  have U0 := gr_alloc (gr_alloc (Below.refl w.heap.size w) (.cells #[.int .i64 a, .int .i64 b, .int .i64 c, .int .i64 d] 25)) (.cells #[.int .i64 u, .int .i64 v, .int .i64 x] 27)
  simp only [World.size_alloc] at X0
  go_enter Try.func17, Try.ntmps17
  go_wp2_with fail
  refine (HC.out _).mono ?_
  rintro e w1 ⟨rfl, hb1⟩
  have F1 := F0.next hb1
  have X1 := X0.next hb1
  have U1 := gr_trans U0 hb1
  clear F0 X0 U0
  by_cases hk : ¬ k = 0
  · have hk' : (k == 0) = false := by simpa using hk
    have HK := hid hk
    clear hk
    go_wp2_with fail
    go_ret2
    exact ⟨_, rfl, .inl ⟨rfl, by simp [HK.out]⟩, by (repeat' (first | with_reducible exact Below.refl _ _ | with_reducible assumption | with_reducible refine gr_alloc ?_ _ | with_reducible refine gr_drew ?_ | with_reducible refine gr_drewN ?_ _ | with_reducible refine gr_trans ?_ (by assumption) | with_reducible refine gr_set ?_ ?_ _ | (simp; done) | omega | (simp; omega)))⟩
  have hk0 : k = 0 := by omega
  subst hk0
  clear hk
  obtain ⟨_, a0, a1, a2, a3, _⟩ := id F1
  obtain ⟨_, x0, x1, x2, _⟩ := id X1
  go_upto_region 4 with fail
  have hz := U1.size
  go_cut [7] (fun s7 wx => ∃ g : Nat, s7 = .pointer (some ⟨g, 0, none⟩) ∧ w.heap.size ≤ g ∧ Arr wx g 1 y1 y2 y3 ∧ Below w.heap.size w wx)
  case first =>
    go_region_held3 (fun W => W.cell? ⟨w.heap.size + 1, 0, none⟩ = some (.int .i64 u) ∧ W.cell? ⟨w.heap.size + 1, 1, none⟩ = some (.int .i64 v) ∧ W.cell? ⟨w.heap.size + 1, 2, none⟩ = some (.int .i64 x) ∧ W.cell? ⟨w.heap.size, 0, none⟩ = some (.int .i64 a) ∧ W.cell? ⟨w.heap.size, 1, none⟩ = some (.int .i64 b) ∧ W.cell? ⟨w.heap.size, 2, none⟩ = some (.int .i64 c) ∧ W.cell? ⟨w.heap.size, 3, none⟩ = some (.int .i64 d)) (refine cells43 ?_ ?_ <;> (repeat (first | with_reducible assumption | with_reducible exact Arr.box (by assumption) | with_reducible exact Box.new _ _ _ _ _ _ | with_reducible exact Arr.new _ _ _ _ _ _ | with_reducible refine Arr.drew ?_ | with_reducible refine Arr.drewN ?_ _ | with_reducible refine Arr.store4 ?_ | with_reducible refine Arr.alloc ?_ _ | with_reducible refine Box.drew ?_ | with_reducible refine Box.drewN ?_ _ | with_reducible refine Box.alloc ?_ _ | with_reducible refine Arr.next ?_ (by assumption) | with_reducible refine Box.next ?_ (by assumption) | refine Arr.oth ?_ (by first | (simp; done) | omega | (simp; omega)) _ | refine Box.oth ?_ (by first | (simp; done) | omega | (simp; omega)) _ | with_reducible exact Arr3.box (by assumption) | with_reducible exact Box3.new _ _ _ _ _ | with_reducible exact Arr3.new _ _ _ _ _ | with_reducible refine Arr3.drew ?_ | with_reducible refine Arr3.drewN ?_ _ | with_reducible refine Arr3.store3 ?_ | with_reducible refine Arr3.alloc ?_ _ | with_reducible refine Box3.drew ?_ | with_reducible refine Box3.drewN ?_ _ | with_reducible refine Box3.alloc ?_ _ | with_reducible refine Arr3.next ?_ (by assumption) | with_reducible refine Box3.next ?_ (by assumption) | refine Arr3.oth ?_ (by first | (simp; done) | omega | (simp; omega)) _ | refine Box3.oth ?_ (by first | (simp; done) | omega | (simp; omega)) _))) (first | (go_at_call 54; refine (HP.out _).mono ?_; rintro e w3 ⟨rfl, hbw3⟩; have hzw3 := hbw3.size; (try simp at hzw3)) | (go_at_call 73; refine (HM.out (by first | rfl | trivial) _).mono ?_; rintro e w4 ⟨rfl, hbw4⟩; have hzw4 := hbw4.size; (try simp at hzw4); (first | (refine Box.elim (w := w4) (k := w1.heap.size) ?_ ?_; (repeat (first | with_reducible assumption | with_reducible exact Arr.box (by assumption) | with_reducible exact Box.new _ _ _ _ _ _ | with_reducible exact Arr.new _ _ _ _ _ _ | with_reducible refine Arr.drew ?_ | with_reducible refine Arr.drewN ?_ _ | with_reducible refine Arr.store4 ?_ | with_reducible refine Arr.alloc ?_ _ | with_reducible refine Box.drew ?_ | with_reducible refine Box.drewN ?_ _ | with_reducible refine Box.alloc ?_ _ | with_reducible refine Arr.next ?_ (by assumption) | with_reducible refine Box.next ?_ (by assumption) | refine Arr.oth ?_ (by first | (simp; done) | omega | (simp; omega)) _ | refine Box.oth ?_ (by first | (simp; done) | omega | (simp; omega)) _ | with_reducible exact Arr3.box (by assumption) | with_reducible exact Box3.new _ _ _ _ _ | with_reducible exact Arr3.new _ _ _ _ _ | with_reducible refine Arr3.drew ?_ | with_reducible refine Arr3.drewN ?_ _ | with_reducible refine Arr3.store3 ?_ | with_reducible refine Arr3.alloc ?_ _ | with_reducible refine Box3.drew ?_ | with_reducible refine Box3.drewN ?_ _ | with_reducible refine Box3.alloc ?_ _ | with_reducible refine Arr3.next ?_ (by assumption) | with_reducible refine Box3.next ?_ (by assumption) | refine Arr3.oth ?_ (by first | (simp; done) | omega | (simp; omega)) _ | refine Box3.oth ?_ (by first | (simp; done) | omega | (simp; omega)) _)); intro y0 y1 y2 y3 hR; obtain ⟨_, v0, v1, v2, v3, g0, g1, g2, g3⟩ := id hR) | (refine Box.elim (w := w4) (k := w3.heap.size) ?_ ?_; (repeat (first | with_reducible assumption | with_reducible exact Arr.box (by assumption) | with_reducible exact Box.new _ _ _ _ _ _ | with_reducible exact Arr.new _ _ _ _ _ _ | with_reducible refine Arr.drew ?_ | with_reducible refine Arr.drewN ?_ _ | with_reducible refine Arr.store4 ?_ | with_reducible refine Arr.alloc ?_ _ | with_reducible refine Box.drew ?_ | with_reducible refine Box.drewN ?_ _ | with_reducible refine Box.alloc ?_ _ | with_reducible refine Arr.next ?_ (by assumption) | with_reducible refine Box.next ?_ (by assumption) | refine Arr.oth ?_ (by first | (simp; done) | omega | (simp; omega)) _ | refine Box.oth ?_ (by first | (simp; done) | omega | (simp; omega)) _ | with_reducible exact Arr3.box (by assumption) | with_reducible exact Box3.new _ _ _ _ _ | with_reducible exact Arr3.new _ _ _ _ _ | with_reducible refine Arr3.drew ?_ | with_reducible refine Arr3.drewN ?_ _ | with_reducible refine Arr3.store3 ?_ | with_reducible refine Arr3.alloc ?_ _ | with_reducible refine Box3.drew ?_ | with_reducible refine Box3.drewN ?_ _ | with_reducible refine Box3.alloc ?_ _ | with_reducible refine Arr3.next ?_ (by assumption) | with_reducible refine Box3.next ?_ (by assumption) | refine Arr3.oth ?_ (by first | (simp; done) | omega | (simp; omega)) _ | refine Box3.oth ?_ (by first | (simp; done) | omega | (simp; omega)) _)); intro y0 y1 y2 y3 hR; obtain ⟨_, v0, v1, v2, v3, g0, g1, g2, g3⟩ := id hR) | skip)))
    all_goals (go_wp2_with fail; go_meet; exact ⟨_, rfl, by first | omega | (simp; omega), by (repeat (first | with_reducible assumption | with_reducible exact Arr.box (by assumption) | with_reducible exact Box.new _ _ _ _ _ _ | with_reducible exact Arr.new _ _ _ _ _ _ | with_reducible refine Arr.drew ?_ | with_reducible refine Arr.drewN ?_ _ | with_reducible refine Arr.store4 ?_ | with_reducible refine Arr.alloc ?_ _ | with_reducible refine Box.drew ?_ | with_reducible refine Box.drewN ?_ _ | with_reducible refine Box.alloc ?_ _ | with_reducible refine Arr.next ?_ (by assumption) | with_reducible refine Box.next ?_ (by assumption) | refine Arr.oth ?_ (by first | (simp; done) | omega | (simp; omega)) _ | refine Box.oth ?_ (by first | (simp; done) | omega | (simp; omega)) _ | with_reducible exact Arr3.box (by assumption) | with_reducible exact Box3.new _ _ _ _ _ | with_reducible exact Arr3.new _ _ _ _ _ | with_reducible refine Arr3.drew ?_ | with_reducible refine Arr3.drewN ?_ _ | with_reducible refine Arr3.store3 ?_ | with_reducible refine Arr3.alloc ?_ _ | with_reducible refine Box3.drew ?_ | with_reducible refine Box3.drewN ?_ _ | with_reducible refine Box3.alloc ?_ _ | with_reducible refine Arr3.next ?_ (by assumption) | with_reducible refine Box3.next ?_ (by assumption) | refine Arr3.oth ?_ (by first | (simp; done) | omega | (simp; omega)) _ | refine Box3.oth ?_ (by first | (simp; done) | omega | (simp; omega)) _)), by (repeat' (first | with_reducible exact Below.refl _ _ | with_reducible assumption | with_reducible refine gr_alloc ?_ _ | with_reducible refine gr_drew ?_ | with_reducible refine gr_drewN ?_ _ | with_reducible refine gr_trans ?_ (by assumption) | with_reducible refine gr_set ?_ ?_ _ | (simp; done) | omega | (simp; omega)))⟩)
  case rest =>
    obtain ⟨g, rfl, hg, hG, hU⟩ := hcut
    go_wp2_with fail
    go_ret2
    exact ⟨_, rfl, OwnV.arr hG hg, by (repeat' (first | with_reducible exact Below.refl _ _ | with_reducible assumption | with_reducible refine gr_alloc ?_ _ | with_reducible refine gr_drew ?_ | with_reducible refine gr_drewN ?_ _ | with_reducible refine gr_trans ?_ (by assumption) | with_reducible refine gr_set ?_ ?_ _ | (simp; done) | omega | (simp; omega)))⟩

set_option maxRecDepth 100000 in
set_option maxHeartbeats 2000000 in
theorem sPolyE_any (a b c d u v x : Int) (w : World) :
    Calls Try.prog 18 #[.agg #[.int .i64 a, .int .i64 b, .int .i64 c, .int .i64 d], .agg #[.int .i64 u, .int .i64 v, .int .i64 x]] w (LstOut (few 100 a b c d u v x) 4 (q4 1 (wrap64 (-tr3 (mtf a b c d u v x))) (wrap64 (mi3 (mtf a b c d u v x))) (wrap64 (-de3 (mtf a b c d u v x)))) w) := by
  have hn : ∀ W, Calls Try.prog 74 #[.agg #[.int .i64 a, .int .i64 b, .int .i64 c, .int .i64 d], .agg #[.int .i64 u, .int .i64 v, .int .i64 x]] W (PolOut (wrap64 (-trm a b c d u v x)) (wrap64 (mim a b c d u v x)) (wrap64 (-dem a b c d u v x)) W) := fun W => sPoly_any a b c d u v x W
  have hc := fun W => sWithin_any 100 a b c d u v x W (by omega) (by omega)
  have hv : few 100 a b c d u v x = 0 → (wrap64 (-tr3 (mtf a b c d u v x)) = wrap64 (-trm a b c d u v x) ∧ wrap64 (mi3 (mtf a b c d u v x)) = wrap64 (mim a b c d u v x) ∧ wrap64 (-de3 (mtf a b c d u v x)) = wrap64 (-dem a b c d u v x)) ∧ rng (-1000000000000000) 1000000000000000 (wrap64 (-trm a b c d u v x)) = true ∧ rng (-1000000000000000) 1000000000000000 (wrap64 (mim a b c d u v x)) = true ∧ rng (-1000000000000000) 1000000000000000 (wrap64 (-dem a b c d u v x)) = true := fun h => by
    have hb := dem_bd (few_t h).2.2.1 (few_t h).2.2.2
    obtain ⟨hb1, hb2⟩ := pol_bd (few_t h).2.2.1 (few_t h).2.2.2
    refine ⟨⟨by rw [tr_mtf (few_t h).2.1], by rw [mi_mtf (few_t h).2.1], by rw [de_mtf (few_t h).2.1]⟩, ?_, ?_, ?_⟩
    · rw [wr_in (by omega)]; exact rng_mk (by omega) (by omega)
    · rw [wr_in (by omega)]; exact rng_mk (by omega) (by omega)
    · rw [wr_in (by omega)]; exact rng_mk (by omega) (by omega)
  generalize wrap64 (-tr3 (mtf a b c d u v x)) = T1 at hv ⊢
  generalize wrap64 (mi3 (mtf a b c d u v x)) = T2 at hv ⊢
  generalize wrap64 (-de3 (mtf a b c d u v x)) = T3 at hv ⊢
  generalize wrap64 (-trm a b c d u v x) = y1 at hn hv
  generalize wrap64 (mim a b c d u v x) = y2 at hn hv
  generalize wrap64 (-dem a b c d u v x) = y3 at hn hv
  generalize few 100 a b c d u v x = k at hc hv ⊢
  have HN := hid hn; have HC := hid hc; have HV := hid hv
  clear hn hc hv
  have F0 := (Arr.new w a b c d 25).alloc (.cells #[.int .i64 u, .int .i64 v, .int .i64 x] 27)
  have X0 := Arr3.new (w.alloc (.cells #[.int .i64 a, .int .i64 b, .int .i64 c, .int .i64 d] 25)) u v x 27
  have U0 := gr_alloc (gr_alloc (Below.refl w.heap.size w) (.cells #[.int .i64 a, .int .i64 b, .int .i64 c, .int .i64 d] 25)) (.cells #[.int .i64 u, .int .i64 v, .int .i64 x] 27)
  simp only [World.size_alloc] at X0
  go_enter Try.func18, Try.ntmps18
  go_wp2_with fail
  refine (HC.out _).mono ?_
  rintro e w1 ⟨rfl, hb1⟩
  have F1 := F0.next hb1
  have X1 := X0.next hb1
  have U1 := gr_trans U0 hb1
  clear F0 X0 U0
  by_cases hk : ¬ k = 0
  · have hk' : (k == 0) = false := by simpa using hk
    have HK := hid hk
    clear hk
    go_wp2_with fail
    go_ret2
    exact ⟨_, rfl, .inl ⟨rfl, by simp [HK.out]⟩, by (repeat' (first | with_reducible exact Below.refl _ _ | with_reducible assumption | with_reducible refine gr_alloc ?_ _ | with_reducible refine gr_drew ?_ | with_reducible refine gr_drewN ?_ _ | with_reducible refine gr_trans ?_ (by assumption) | with_reducible refine gr_set ?_ ?_ _ | (simp; done) | omega | (simp; omega)))⟩
  have hk0 : k = 0 := by omega
  subst hk0
  clear hk
  obtain ⟨_, a0, a1, a2, a3, _⟩ := id F1
  obtain ⟨_, x0, x1, x2, _⟩ := id X1
  obtain ⟨⟨rfl, rfl, rfl⟩, hr1, hr2, hr3⟩ := HV.out (by first | rfl | trivial)
  have hr0 : rng (-1000000000000000) 1000000000000000 1 = true := rfl
  have hz := U1.size
  go_wp2_with fail
  refine (HN.out _).mono ?_
  rintro e w2 ⟨kk, rfl, hkk, hG, hb2⟩
  obtain ⟨_, q0, q1, q2, q3, _⟩ := id hG
  have HKK := hid hkk
  clear hkk a0 a1 a2 a3 x0 x1 x2
  go_wp2_with fail
  refine wp_loop_rounds 5 ?_
  rw [rounds_succ]; go_wp2_with fail
  refine (l01In_any _ _ _ _).mono ?_
  rintro e z1 ⟨rfl, rfl⟩
  go_wp2_with fail
  rw [rounds_succ]; go_wp2_with fail
  refine (l01In_any _ _ _ _).mono ?_
  rintro e z1 ⟨rfl, rfl⟩
  go_wp2_with fail
  rw [rounds_succ]; go_wp2_with fail
  refine (l01In_any _ _ _ _).mono ?_
  rintro e z1 ⟨rfl, rfl⟩
  go_wp2_with fail
  rw [rounds_succ]; go_wp2_with fail
  refine (l01In_any _ _ _ _).mono ?_
  rintro e z1 ⟨rfl, rfl⟩
  go_wp2_with fail
  rw [rounds_succ]; go_wp2_with fail
  go_ret2
  exact ⟨_, rfl, OwnV.arr hG (by have := HKK.out; omega), by (repeat' (first | with_reducible exact Below.refl _ _ | with_reducible assumption | with_reducible refine gr_alloc ?_ _ | with_reducible refine gr_drew ?_ | with_reducible refine gr_drewN ?_ _ | with_reducible refine gr_trans ?_ (by assumption) | with_reducible refine gr_set ?_ ?_ _ | (simp; done) | omega | (simp; omega)))⟩

end Go.Proofs.Ytambbhldhhlfgaa
