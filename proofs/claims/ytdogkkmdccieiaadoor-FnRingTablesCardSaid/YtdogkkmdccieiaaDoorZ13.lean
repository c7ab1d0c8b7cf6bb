/- Several texts in one: XE13, XPm. -/
import Derived.Test.YtdogkkmdccieiaaDoorZ12
import Derived.Test.YtdogkkmdccieiaaDoorZ1

/- Chapter 4: PolynomialOf. -/
namespace Go.Proofs.YtdogkkmdccieiaaDoor
open Go.RowKit

theorem pol_bd {a b c d u v x : Int} (h4 : is4 100 a b c d = true) (h3 : is3 100 u v x = true) :
    (-1000000000000000 ≤ trm a b c d u v x ∧ trm a b c d u v x ≤ 1000000000000000) ∧ (-1000000000000000 ≤ mim a b c d u v x ∧ mim a b c d u v x ≤ 1000000000000000) := by
  obtain ⟨ha, hb, hc, hd⟩ := is4_t h4
  obtain ⟨hu, hv, hx⟩ := is3_t h3
  have E := ent (A := 100) (by omega) (by omega) ha hb hc hd (u := u) (v := v) (x := x) (by omega) (by omega) (by omega)
  have c0 := mulb (mulb ha hc) hv
  have c1 := mulb (mulb ha hd) hx
  have c2 := mulb (mulb ha hd) hv
  have c3 := mulb (mulb hb hd) hx
  have c5 := mulb hb hv
  have c6 := mulb ha hv
  have c7 := mulb hd hx
  have c8 := mulb hc hx
  have e0 : -(a * c) * v = -(a * c * v) := Int.neg_mul _ _
  have e1 : -(a * d) * v = -(a * d * v) := Int.neg_mul _ _
  have e2 : -a * v = -(a * v) := Int.neg_mul _ _
  unfold trm mim tr9 mi9
  rw [E.s0, E.s1, E.s2, E.t0, E.t1, E.t2]
  have s0 : -2000000 ≤ -(a * c) * v - a * d * x ∧ -(a * c) * v - a * d * x ≤ 2000000 := by omega
  have s1 : -10100 ≤ u + b * v ∧ u + b * v ≤ 10100 := by omega
  have s2 : -10000 ≤ -a * v ∧ -a * v ≤ 10000 := by omega
  have t0 : -2000000 ≤ -(a * d) * v - b * d * x ∧ -(a * d) * v - b * d * x ≤ 2000000 := by omega
  have t1 : -10000 ≤ d * x ∧ d * x ≤ 10000 := by omega
  have t2 : -10100 ≤ u - c * x ∧ u - c * x ≤ 10100 := by omega
  generalize -(a * c) * v - a * d * x = S0 at s0 ⊢
  generalize u + b * v = S1 at s1 ⊢
  generalize -a * v = S2 at s2 ⊢
  generalize -(a * d) * v - b * d * x = T0 at t0 ⊢
  generalize d * x = T1 at t1 ⊢
  generalize u - c * x = T2 at t2 ⊢
  have g1 := mulb s1 hu
  have g2 := mulb s0 hv
  have g3 := mulb t2 hu
  have g4 := mulb t0 hx
  have g5 := mulb t2 s1
  have g6 := mulb t1 s2
  exact ⟨by omega, by omega⟩
theorem few_bad {L a b c d u v x : Int} (h : ¬ few L a b c d u v x = 0) : (if few L a b c d u v x = 0 then 4 else 0) = 0 := if_neg h

set_option maxRecDepth 100000 in
set_option maxHeartbeats 2000000 in
theorem iPolyE_any (a b c d u v x : Int) (w : World) :
    Calls Tryd.prog 24 #[.agg #[.int .i64 a, .int .i64 b, .int .i64 c, .int .i64 d], .agg #[.int .i64 u, .int .i64 v, .int .i64 x]] w (LstOut (few 100 a b c d u v x) 4 (q4 1 (wrap64 (-tr3 (mtf a b c d u v x))) (wrap64 (mi3 (mtf a b c d u v x))) (wrap64 (-de3 (mtf a b c d u v x)))) w) := by
  have hp := fun W => iProducts_any a b c d W
  have hm : few 100 a b c d u v x = 0 → ∀ W, Calls Tryd.prog 61 #[.agg #[.int .i64 (np a c), .int .i64 b, .int .i64 (ng a), .int .i64 (np a d), .int .i64 0, .int .i64 0, .int .i64 (np b d), .int .i64 d, .int .i64 (ng c)], .agg #[.int .i64 u, .int .i64 v, .int .i64 x]] W fun e w' =>
      e = .returned (.agg #[.int .i64 1, .int .i64 (wrap64 (-tr3 (mtf a b c d u v x))), .int .i64 (wrap64 (mi3 (mtf a b c d u v x))), .int .i64 (wrap64 (-de3 (mtf a b c d u v x)))]) ∧ Below W.heap.size W w' := fun h W => iPoly_any (np a c) b (ng a) (np a d) 0 0 (np b d) d (ng c) u v x W (mtf_bd (few_t h).1 (few_t h).2.1)
  have hc := fun W => iWithinFE_any 100 a b c d u v x W (by omega) (by omega)
  generalize wrap64 (-tr3 (mtf a b c d u v x)) = y1 at hm ⊢
  generalize wrap64 (mi3 (mtf a b c d u v x)) = y2 at hm ⊢
  generalize wrap64 (-de3 (mtf a b c d u v x)) = y3 at hm ⊢
  generalize np a c = t0 at hp hm
  generalize ng a = t2 at hp hm
  generalize np a d = t3 at hp hm
  generalize np b d = t6 at hp hm
  generalize ng c = t8 at hp hm
  generalize few 100 a b c d u v x = k at hc hm ⊢
  have HP := hid hp; have HM := hid hm; have HC := hid hc
  clear hp hm hc
  have F0 := (Arr.new w a b c d 25).alloc (.cells #[.int .i64 u, .int .i64 v, .int .i64 x] 27)
  have X0 := Arr3.new (w.alloc (.cells #[.int .i64 a, .int .i64 b, .int .i64 c, .int .i64 d] 25)) u v x 27
  have U0 := gr_alloc (gr_alloc (Below.refl w.heap.size w) (.cells #[.int .i64 a, .int .i64 b, .int .i64 c, .int .i64 d] 25)) (.cells #[.int .i64 u, .int .i64 v, .int .i64 x] 27)
  simp only [World.size_alloc] at X0
  go_enter Tryd.func24, Tryd.ntmps24
  go_wp2_with fail
  refine (HC.out _).mono ?_
  rintro e w1 ⟨rfl, hb1⟩
  have F1 := F0.next hb1
  have X1 := X0.next hb1
  have U1 := gr_trans U0 hb1
  clear F0 X0 U0
  by_cases hk : ¬ k = 0
  · have hk' : (k == 0) = false := by simpa using hk
    have HK := hid hk
    clear hk
    go_wp2_with fail
    go_ret2
    exact ⟨_, rfl, .inl ⟨rfl, by simp [HK.out]⟩, by (repeat' (first | with_reducible exact Below.refl _ _ | with_reducible assumption | with_reducible refine gr_alloc ?_ _ | with_reducible refine gr_drew ?_ | with_reducible refine gr_drewN ?_ _ | with_reducible refine gr_trans ?_ (by assumption) | with_reducible refine gr_set ?_ ?_ _ | (simp; done) | omega | (simp; omega)))⟩
  have hk0 : k = 0 := by omega
  subst hk0
  clear hk
  obtain ⟨_, a0, a1, a2, a3, _⟩ := id F1
  obtain ⟨_, x0, x1, x2, _⟩ := id X1
  go_upto_region 4 with fail
  have hz := U1.size
  go_cut [7] (fun s7 wx => ∃ g : Nat, s7 = .pointer (some ⟨g, 0, none⟩) ∧ w.heap.size ≤ g ∧ Arr wx g 1 y1 y2 y3 ∧ Below w.heap.size w wx)
  case first =>
    go_region_held3 (fun W => W.cell? ⟨w.heap.size + 1, 0, none⟩ = some (.int .i64 u) ∧ W.cell? ⟨w.heap.size + 1, 1, none⟩ = some (.int .i64 v) ∧ W.cell? ⟨w.heap.size + 1, 2, none⟩ = some (.int .i64 x) ∧ W.cell? ⟨w.heap.size, 0, none⟩ = some (.int .i64 a) ∧ W.cell? ⟨w.heap.size, 1, none⟩ = some (.int .i64 b) ∧ W.cell? ⟨w.heap.size, 2, none⟩ = some (.int .i64 c) ∧ W.cell? ⟨w.heap.size, 3, none⟩ = some (.int .i64 d)) (refine cells43 ?_ ?_ <;> (repeat (first | with_reducible assumption | with_reducible exact Arr.box (by assumption) | with_reducible exact Box.new _ _ _ _ _ _ | with_reducible exact Arr.new _ _ _ _ _ _ | with_reducible refine Arr.drew ?_ | with_reducible refine Arr.drewN ?_ _ | with_reducible refine Arr.store4 ?_ | with_reducible refine Arr.alloc ?_ _ | with_reducible refine Box.drew ?_ | with_reducible refine Box.drewN ?_ _ | with_reducible refine Box.alloc ?_ _ | with_reducible refine Arr.next ?_ (by assumption) | with_reducible refine Box.next ?_ (by assumption) | refine Arr.oth ?_ (by first | (simp; done) | omega | (simp; omega)) _ | refine Box.oth ?_ (by first | (simp; done) | omega | (simp; omega)) _ | with_reducible exact Arr3.box (by assumption) | with_reducible exact Box3.new _ _ _ _ _ | with_reducible exact Arr3.new _ _ _ _ _ | with_reducible refine Arr3.drew ?_ | with_reducible refine Arr3.drewN ?_ _ | with_reducible refine Arr3.store3 ?_ | with_reducible refine Arr3.alloc ?_ _ | with_reducible refine Box3.drew ?_ | with_reducible refine Box3.drewN ?_ _ | with_reducible refine Box3.alloc ?_ _ | with_reducible refine Arr3.next ?_ (by assumption) | with_reducible refine Box3.next ?_ (by assumption) | refine Arr3.oth ?_ (by first | (simp; done) | omega | (simp; omega)) _ | refine Box3.oth ?_ (by first | (simp; done) | omega | (simp; omega)) _))) (first | (go_at_call 52; refine (HP.out _).mono ?_; rintro e w3 ⟨rfl, hbw3⟩; have hzw3 := hbw3.size; (try simp at hzw3)) | (go_at_call 61; refine (HM.out (by first | rfl | trivial) _).mono ?_; rintro e w4 ⟨rfl, hbw4⟩; have hzw4 := hbw4.size; (try simp at hzw4); (first | (refine Box.elim (w := w4) (k := w1.heap.size) ?_ ?_; (repeat (first | with_reducible assumption | with_reducible exact Arr.box (by assumption) | with_reducible exact Box.new _ _ _ _ _ _ | with_reducible exact Arr.new _ _ _ _ _ _ | with_reducible refine Arr.drew ?_ | with_reducible refine Arr.drewN ?_ _ | with_reducible refine Arr.store4 ?_ | with_reducible refine Arr.alloc ?_ _ | with_reducible refine Box.drew ?_ | with_reducible refine Box.drewN ?_ _ | with_reducible refine Box.alloc ?_ _ | with_reducible refine Arr.next ?_ (by assumption) | with_reducible refine Box.next ?_ (by assumption) | refine Arr.oth ?_ (by first | (simp; done) | omega | (simp; omega)) _ | refine Box.oth ?_ (by first | (simp; done) | omega | (simp; omega)) _ | with_reducible exact Arr3.box (by assumption) | with_reducible exact Box3.new _ _ _ _ _ | with_reducible exact Arr3.new _ _ _ _ _ | with_reducible refine Arr3.drew ?_ | with_reducible refine Arr3.drewN ?_ _ | with_reducible refine Arr3.store3 ?_ | with_reducible refine Arr3.alloc ?_ _ | with_reducible refine Box3.drew ?_ | with_reducible refine Box3.drewN ?_ _ | with_reducible refine Box3.alloc ?_ _ | with_reducible refine Arr3.next ?_ (by assumption) | with_reducible refine Box3.next ?_ (by assumption) | refine Arr3.oth ?_ (by first | (simp; done) | omega | (simp; omega)) _ | refine Box3.oth ?_ (by first | (simp; done) | omega | (simp; omega)) _)); intro y0 y1 y2 y3 hR; obtain ⟨_, v0, v1, v2, v3, g0, g1, g2, g3⟩ := id hR) | (refine Box.elim (w := w4) (k := w3.heap.size) ?_ ?_; (repeat (first | with_reducible assumption | with_reducible exact Arr.box (by assumption) | with_reducible exact Box.new _ _ _ _ _ _ | with_reducible exact Arr.new _ _ _ _ _ _ | with_reducible refine Arr.drew ?_ | with_reducible refine Arr.drewN ?_ _ | with_reducible refine Arr.store4 ?_ | with_reducible refine Arr.alloc ?_ _ | with_reducible refine Box.drew ?_ | with_reducible refine Box.drewN ?_ _ | with_reducible refine Box.alloc ?_ _ | with_reducible refine Arr.next ?_ (by assumption) | with_reducible refine Box.next ?_ (by assumption) | refine Arr.oth ?_ (by first | (simp; done) | omega | (simp; omega)) _ | refine Box.oth ?_ (by first | (simp; done) | omega | (simp; omega)) _ | with_reducible exact Arr3.box (by assumption) | with_reducible exact Box3.new _ _ _ _ _ | with_reducible exact Arr3.new _ _ _ _ _ | with_reducible refine Arr3.drew ?_ | with_reducible refine Arr3.drewN ?_ _ | with_reducible refine Arr3.store3 ?_ | with_reducible refine Arr3.alloc ?_ _ | with_reducible refine Box3.drew ?_ | with_reducible refine Box3.drewN ?_ _ | with_reducible refine Box3.alloc ?_ _ | with_reducible refine Arr3.next ?_ (by assumption) | with_reducible refine Box3.next ?_ (by assumption) | refine Arr3.oth ?_ (by first | (simp; done) | omega | (simp; omega)) _ | refine Box3.oth ?_ (by first | (simp; done) | omega | (simp; omega)) _)); intro y0 y1 y2 y3 hR; obtain ⟨_, v0, v1, v2, v3, g0, g1, g2, g3⟩ := id hR) | skip)))
    all_goals (go_wp2_with fail; go_meet; exact ⟨_, rfl, by first | omega | (simp; omega), by (repeat (first | with_reducible assumption | with_reducible exact Arr.box (by assumption) | with_reducible exact Box.new _ _ _ _ _ _ | with_reducible exact Arr.new _ _ _ _ _ _ | with_reducible refine Arr.drew ?_ | with_reducible refine Arr.drewN ?_ _ | with_reducible refine Arr.store4 ?_ | with_reducible refine Arr.alloc ?_ _ | with_reducible refine Box.drew ?_ | with_reducible refine Box.drewN ?_ _ | with_reducible refine Box.alloc ?_ _ | with_reducible refine Arr.next ?_ (by assumption) | with_reducible refine Box.next ?_ (by assumption) | refine Arr.oth ?_ (by first | (simp; done) | omega | (simp; omega)) _ | refine Box.oth ?_ (by first | (simp; done) | omega | (simp; omega)) _ | with_reducible exact Arr3.box (by assumption) | with_reducible exact Box3.new _ _ _ _ _ | with_reducible exact Arr3.new _ _ _ _ _ | with_reducible refine Arr3.drew ?_ | with_reducible refine Arr3.drewN ?_ _ | with_reducible refine Arr3.store3 ?_ | with_reducible refine Arr3.alloc ?_ _ | with_reducible refine Box3.drew ?_ | with_reducible refine Box3.drewN ?_ _ | with_reducible refine Box3.alloc ?_ _ | with_reducible refine Arr3.next ?_ (by assumption) | with_reducible refine Box3.next ?_ (by assumption) | refine Arr3.oth ?_ (by first | (simp; done) | omega | (simp; omega)) _ | refine Box3.oth ?_ (by first | (simp; done) | omega | (simp; omega)) _)), by (repeat' (first | with_reducible exact Below.refl _ _ | with_reducible assumption | with_reducible refine gr_alloc ?_ _ | with_reducible refine gr_drew ?_ | with_reducible refine gr_drewN ?_ _ | with_reducible refine gr_trans ?_ (by assumption) | with_reducible refine gr_set ?_ ?_ _ | (simp; done) | omega | (simp; omega)))⟩)
  case rest =>
    obtain ⟨g, rfl, hg, hG, hU⟩ := hcut
    go_wp2_with fail
    go_ret2
    exact ⟨_, rfl, OwnV.arr hG hg, by (repeat' (first | with_reducible exact Below.refl _ _ | with_reducible assumption | with_reducible refine gr_alloc ?_ _ | with_reducible refine gr_drew ?_ | with_reducible refine gr_drewN ?_ _ | with_reducible refine gr_trans ?_ (by assumption) | with_reducible refine gr_set ?_ ?_ _ | (simp; done) | omega | (simp; omega)))⟩



end Go.Proofs.YtdogkkmdccieiaaDoor

/- Primes of at most 97: what both sides ask. No Go function in sight. -/
namespace Go.Proofs.YtdogkkmdccieiaaDoor
open Go.RowKit

/-- Is n a prime of at most 97? -/
def prmN (n : Nat) : Bool := decide (2 ≤ n) && decide (n ≤ 97) && (List.range 98).all fun k => decide (k < 2) || decide (n ≤ k) || decide (n % k ≠ 0)
def prm (p : Int) : Bool := decide (0 ≤ p) && prmN p.toNat
theorem prm_rng {p : Int} (h : prm p = true) : 2 ≤ p ∧ p ≤ 97 := by
  simp only [prm, prmN, Bool.and_eq_true, decide_eq_true_eq] at h
  omega
theorem prm_div {p : Int} (h : prm p = true) (k : Nat) (h2 : 2 ≤ k) (hk : (k : Int) < p) : p % (k : Int) ≠ 0 := by
  have hr := prm_rng h
  simp only [prm, prmN, Bool.and_eq_true, decide_eq_true_eq, List.all_eq_true, Bool.or_eq_true] at h
  obtain ⟨n, rfl⟩ : ∃ n : Nat, p = n := ⟨p.toNat, by omega⟩
  have h' := h.2.2 k (List.mem_range.2 (by omega))
  simp only [Int.toNat_natCast] at h'
  rcases h' with (h' | h') | h'
  · omega
  · omega
  · exact fun e => h' (by exact_mod_cast e)
theorem prm_mk {p : Int} (h2 : 2 ≤ p) (h : p ≤ 97) (hd : ∀ k : Nat, 2 ≤ k → (k : Int) < p → p % (k : Int) ≠ 0) : prm p = true := by
  obtain ⟨n, rfl⟩ : ∃ n : Nat, p = n := ⟨p.toNat, by omega⟩
  simp only [prm, prmN, Bool.and_eq_true, decide_eq_true_eq, List.all_eq_true, Bool.or_eq_true, Int.toNat_natCast]
  refine ⟨by omega, ⟨by omega, by omega⟩, fun k _ => ?_⟩
  by_cases h0 : k < 2
  · exact .inl (.inl h0)
  by_cases h1 : n ≤ k
  · exact .inl (.inr h1)
  · refine .inr fun e => hd k (by omega) (by omega) (by exact_mod_cast e)
/-- Is n a prime of at most 499? -/
def prqN (n : Nat) : Bool := decide (2 ≤ n) && decide (n ≤ 499) && (List.range 500).all fun k => decide (k < 2) || decide (n ≤ k) || decide (n % k ≠ 0)
def prq (p : Int) : Bool := decide (0 ≤ p) && prqN p.toNat
theorem prq_rng {p : Int} (h : prq p = true) : 2 ≤ p ∧ p ≤ 499 := by
  simp only [prq, prqN, Bool.and_eq_true, decide_eq_true_eq] at h
  omega
theorem prq_div {p : Int} (h : prq p = true) (k : Nat) (h2 : 2 ≤ k) (hk : (k : Int) < p) : p % (k : Int) ≠ 0 := by
  have hr := prq_rng h
  simp only [prq, prqN, Bool.and_eq_true, decide_eq_true_eq, List.all_eq_true, Bool.or_eq_true] at h
  obtain ⟨n, rfl⟩ : ∃ n : Nat, p = n := ⟨p.toNat, by omega⟩
  have h' := h.2.2 k (List.mem_range.2 (by omega))
  simp only [Int.toNat_natCast] at h'
  rcases h' with (h' | h') | h'
  · omega
  · omega
  · exact fun e => h' (by exact_mod_cast e)
theorem prq_mk {p : Int} (h2 : 2 ≤ p) (h : p ≤ 499) (hd : ∀ k : Nat, 2 ≤ k → (k : Int) < p → p % (k : Int) ≠ 0) : prq p = true := by
  obtain ⟨n, rfl⟩ : ∃ n : Nat, p = n := ⟨p.toNat, by omega⟩
  simp only [prq, prqN, Bool.and_eq_true, decide_eq_true_eq, List.all_eq_true, Bool.or_eq_true, Int.toNat_natCast]
  refine ⟨by omega, ⟨by omega, by omega⟩, fun k _ => ?_⟩
  by_cases h0 : k < 2
  · exact .inl (.inl h0)
  by_cases h1 : n ≤ k
  · exact .inl (.inr h1)
  · refine .inr fun e => hd k (by omega) (by omega) (by exact_mod_cast e)
theorem prm_prq {p : Int} (h : prm p = true) : prq p = true := by
  obtain ⟨h2, h9⟩ := prm_rng h
  exact prq_mk h2 (by omega) fun k a b => prm_div h k a b
theorem prm_small : ∀ n : Nat, n < 98 → 2 ≤ n → ((List.range 10).all fun k => decide (k < 2) || decide (n < k * k) || decide (n % k ≠ 0)) = true → prmN n = true := by decide +kernel
/-- It is enough to ask the divisors whose square is not greater. -/
theorem prm_sq {p : Int} (h2 : 2 ≤ p) (h : p ≤ 97) (hd : ∀ k : Nat, 2 ≤ k → ((k * k : Nat) : Int) ≤ p → p % (k : Int) ≠ 0) : prm p = true := by
  obtain ⟨n, rfl⟩ : ∃ n : Nat, p = n := ⟨p.toNat, by omega⟩
  simp only [prm, Bool.and_eq_true, decide_eq_true_eq, Int.toNat_natCast]
  refine ⟨by omega, prm_small n (by omega) (by omega) ?_⟩
  simp only [List.all_eq_true, Bool.or_eq_true, decide_eq_true_eq]
  intro k _
  by_cases h0 : k < 2
  · exact .inl (.inl h0)
  by_cases h1 : n < k * k
  · exact .inl (.inr h1)
  · refine .inr fun e => hd k (by omega) (by omega) (by exact_mod_cast e)
theorem prm_f {p : Int} {k : Nat} (h2 : 2 ≤ k) (hk : (k : Int) < p) (h : p % (k : Int) = 0) : prm p = false := by
  cases hp : prm p with
  | false => rfl
  | true => exact absurd h (prm_div hp k h2 hk)
theorem prm_out {p : Int} (h : ¬ (2 ≤ p ∧ p ≤ 97)) : prm p = false := by
  cases hp : prm p with
  | false => rfl
  | true => exact absurd (prm_rng hp) h
theorem sq_lt {k : Nat} {p : Int} (h2 : 2 ≤ k) (h : (k : Int) * k ≤ p) : (k : Int) < p := by
  have : (k : Int) * 2 ≤ k * k := Int.mul_le_mul_of_nonneg_left (by omega) (by omega)
  omega
theorem sq_bd {k : Nat} (h : k ≤ 10) : (0 : Int) ≤ (k : Int) * k ∧ (k : Int) * k ≤ 100 := by
  have h1 : (k : Int) * k ≤ k * 10 := Int.mul_le_mul_of_nonneg_left (by omega) (by omega)
  have h0 : (0 : Int) ≤ (k : Int) * k := Int.mul_nonneg (by omega) (by omega)
  omega
theorem sq_10 {k : Nat} {p : Int} (h : (k : Int) * k ≤ p) (hp : p ≤ 97) : k ≤ 9 := by
  by_cases hk : k ≤ 9
  · exact hk
  · have : (10 : Int) * 10 ≤ (k : Int) * k := Int.mul_le_mul (by omega) (by omega) (by omega) (by omega)
    omega
/-- The primes less than k. -/
def prl : Nat → List Int
  | 0 => []
  | k + 1 => if prm k then prl k ++ [(k : Int)] else prl k
theorem prl_t {k : Nat} (h : prm k = true) : prl (k + 1) = prl k ++ [(k : Int)] := by simp [prl, h]
theorem prl_f {k : Nat} (h : prm k = false) : prl (k + 1) = prl k := by simp [prl, h]
theorem prl_len (k : Nat) : (prl k).length ≤ k := by
  induction k with
  | zero => simp [prl]
  | succ k ih =>
    unfold prl
    split
    · simp; omega
    · omega
theorem prl_2 : prl 2 = [] := by decide +kernel
theorem prl_mem {k : Nat} {q : Int} (h : q ∈ prl k) : prm q = true ∧ q < k := by
  induction k with
  | zero => simp [prl] at h
  | succ k ih =>
    unfold prl at h
    split at h
    · rename_i hp
      rcases List.mem_append.1 h with h | h
      · have := ih h; exact ⟨this.1, by omega⟩
      · simp at h; subst h; exact ⟨hp, by omega⟩
    · have := ih h; exact ⟨this.1, by omega⟩
/-- The code of a number of at most 97. -/
def nco (n : Int) : Int := if rng 2 97 n then 0 else 2
/-- The code of a form and a prime. -/
def fpc (a b c d p : Int) : Int := if isF a b c d then (if prm p then 0 else 2) else 1
theorem fpc_0 {a b c d p : Int} : fpc a b c d p = 0 ↔ isF a b c d = true ∧ prm p = true := by
  unfold fpc; split
  · split <;> simp_all
  · simp_all


end Go.Proofs.YtdogkkmdccieiaaDoor
