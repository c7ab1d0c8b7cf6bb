/- Several texts in one: XRm, XCh. -/
import Derived.Test.YtdogkkmdccieiaaDoorZ6
import Derived.Test.YtdogkkmdccieiaaDoorZ2
import Derived.Test.YtdogkkmdccieiaaDoorC1b
import Derived.Deep.DeepCutAuto
import Derived.Deep.RegionHeld3

/- Chapter 5: multiplicities modulo a prime, both sides' the same. Mathematics; no Go function in sight. -/
namespace Go.Proofs.YtdogkkmdccieiaaDoor
open Go.RowKit

theorem mul0_d (n m : Int) : mul0 n m = decide (m ∣ n) := by
  unfold mul0
  split
  · rename_i h; subst h; rw [Bool.eq_iff_iff]; simp [Int.zero_dvd]
  · rw [Bool.eq_iff_iff]; simp [Int.dvd_iff_tmod_eq_zero]
theorem wr_0 : wrap64 0 = 0 := wr_in (by omega)
theorem wr_1 : wrap64 1 = 1 := wr_in (by omega)
theorem wr_wr (x : Int) : wrap64 (wrap64 x) = wrap64 x := by simpa using wr_al x 0
theorem nv0 (a b c d x : Int) : nva [a, b, c, d] x 1 = wrap64 (a * x * x * x + b * x * x + c * x + d) := by
  simp only [nva, List.foldl, nst, pl, mu, wr_al, wr_ar, wr_ml, wr_mr]
  congr 1; grind
theorem dv0 (a b c d x : Int) : dvd [a, b, c, d] x 1 = [wrap64 a, wrap64 (b + x * a), wrap64 (c + x * (b + x * a))] := by
  simp only [dvd, show ¬ ((1 : Int) = 0) by decide, if_false, List.dropLast, List.foldl, dst, pl, mu, Int.tdiv_one, wr_wr, wr_ar, wr_mr, List.nil_append, List.cons_append]
  congr 1
  · congr 1; grind
  · congr 1
    · apply congrArg; grind
    · congr 1; apply congrArg; grind
theorem dv1 (a b c x : Int) : dvd [a, b, c] x 1 = [wrap64 a, wrap64 (b + x * a)] := by
  simp only [dvd, show ¬ ((1 : Int) = 0) by decide, if_false, List.dropLast, List.foldl, dst, pl, mu, Int.tdiv_one, wr_wr, wr_ar, wr_mr, List.nil_append, List.cons_append]
  congr 1
  · congr 1; grind
  · congr 1; apply congrArg; grind
theorem dv2 (a b x : Int) : dvd [a, b] x 1 = [wrap64 a] := by
  simp only [dvd, show ¬ ((1 : Int) = 0) by decide, if_false, List.dropLast, List.foldl, dst, pl, mu, Int.tdiv_one, wr_wr, wr_ar, List.nil_append]
  congr 1; congr 1; grind
theorem nv1 (a b c x : Int) : nva [a, b, c] x 1 = wrap64 (a * x * x + b * x + c) := by
  simp only [nva, List.foldl, nst, pl, mu, wr_al, wr_ar, wr_ml, wr_mr]
  congr 1; grind
theorem nv2 (a b x : Int) : nva [a, b] x 1 = wrap64 (a * x + b) := by
  simp only [nva, List.foldl, nst, pl, mu, wr_al, wr_ar, wr_ml, wr_mr]
  congr 1; grind
theorem nv3 (a x : Int) : nva [a] x 1 = wrap64 a := by
  simp only [nva, List.foldl, nst, pl, mu, wr_al, wr_ar]
  congr 1; grind
/-- The three lower numbers of the form moved to a point x, 1: the value, the slope, half the second slope. -/
def g3 (a b c d x : Int) : Int := a * x * x * x + b * x * x + c * x + d
def g2 (a b c x : Int) : Int := 3 * a * x * x + 2 * b * x + c
def g1 (a b x : Int) : Int := 3 * a * x + b
/-- The multiplicity out of these. -/
def mm3 (p u v t : Int) : Nat := if ¬ p ∣ t then 0 else if ¬ p ∣ v then 1 else if ¬ p ∣ u then 2 else 3
theorem lvs {a b c d x : Int} (ha : -1000 ≤ a ∧ a ≤ 1000) (hb : -1000 ≤ b ∧ b ≤ 1000) (hc : -1000 ≤ c ∧ c ≤ 1000) (hd : -1000 ≤ d ∧ d ≤ 1000) (hx : -498 ≤ x ∧ x ≤ 498) :
    nva [a, b, c, d] x 1 = g3 a b c d x ∧ nva (dvd [a, b, c, d] x 1) x 1 = g2 a b c x ∧ nva (dvd (dvd [a, b, c, d] x 1) x 1) x 1 = g1 a b x ∧ nva (dvd (dvd (dvd [a, b, c, d] x 1) x 1) x 1) x 1 = a := by
  have h1 := mulb hx ha
  have h2 := mulb hx (y := b + x * a) (B := 500000) (by omega)
  have h3 := mulb hx (y := c + x * (b + x * a)) (B := 250000000) (by omega)
  have e0 : dvd [a, b, c, d] x 1 = [a, b + x * a, c + x * (b + x * a)] := by
    rw [dv0, wr_in (by omega), wr_in (by omega), wr_in (by omega)]
  have e1 : dvd [a, b + x * a, c + x * (b + x * a)] x 1 = [a, b + x * a + x * a] := by
    rw [dv1, wr_in (by omega), wr_in (by omega)]
  have e2 : dvd [a, b + x * a + x * a] x 1 = [a] := by
    rw [dv2, wr_in (by omega)]
  have p1 : a * x * x * x + b * x * x + c * x + d = d + x * (c + x * (b + x * a)) := by grind
  have q2 := mulb hx (y := b + x * a + x * a) (B := 1000000) (by omega)
  have p2 : a * x * x + (b + x * a) * x + (c + x * (b + x * a)) = (c + x * (b + x * a)) + x * (b + x * a + x * a) := by grind
  have p3 : a * x + (b + x * a + x * a) = x * a + (b + x * a + x * a) := by grind
  refine ⟨?_, ?_, ?_, ?_⟩
  · rw [nv0, wr_in (by rw [p1]; omega)]; rfl
  · rw [e0, nv1, wr_in (by rw [p2]; omega)]; unfold g2; grind
  · rw [e0, e1, nv2, wr_in (by rw [p3]; omega)]; unfold g1; grind
  · rw [e0, e1, e2, nv3, wr_in (by omega)]
theorem lvs0 {a b c d : Int} (ha : -1000 ≤ a ∧ a ≤ 1000) (hb : -1000 ≤ b ∧ b ≤ 1000) (hc : -1000 ≤ c ∧ c ≤ 1000) (hd : -1000 ≤ d ∧ d ≤ 1000) :
    nva [a, b, c, d] 1 0 = a ∧ nva (dvd [a, b, c, d] 1 0) 1 0 = -b ∧ nva (dvd (dvd [a, b, c, d] 1 0) 1 0) 1 0 = c ∧ nva (dvd (dvd (dvd [a, b, c, d] 1 0) 1 0) 1 0) 1 0 = -d := by
  have e0 : dvd [a, b, c, d] 1 0 = [-b, -c, -d] := by
    simp only [dvd, if_true, List.drop, List.map]
    rw [wr_in (by omega), wr_in (by omega), wr_in (by omega)]
  have e1 : dvd [-b, -c, -d] 1 0 = [c, d] := by
    simp only [dvd, if_true, List.drop, List.map, Int.neg_neg]
    rw [wr_in (by omega), wr_in (by omega)]
  have e2 : dvd [c, d] 1 0 = [-d] := by
    simp only [dvd, if_true, List.drop, List.map]
    rw [wr_in (by omega)]
  have n4 : ∀ u v s t : Int, nva [u, v, s, t] 1 0 = wrap64 u := fun u v s t => by
    simp only [nva, List.foldl, nst, pl, mu, Int.mul_one, Int.mul_zero, Int.zero_add, Int.add_zero, wr_wr, wr_0]
  have n3 : ∀ u v s : Int, nva [u, v, s] 1 0 = wrap64 u := fun u v s => by
    simp only [nva, List.foldl, nst, pl, mu, Int.mul_one, Int.mul_zero, Int.zero_add, Int.add_zero, wr_wr, wr_0]
  have n2 : ∀ u v : Int, nva [u, v] 1 0 = wrap64 u := fun u v => by
    simp only [nva, List.foldl, nst, pl, mu, Int.mul_one, Int.mul_zero, Int.zero_add, Int.add_zero, wr_wr, wr_0]
  have n1 : ∀ u : Int, nva [u] 1 0 = wrap64 u := fun u => by
    simp only [nva, List.foldl, nst, pl, mu, Int.mul_one, Int.mul_zero, Int.zero_add, wr_wr, wr_0]
  refine ⟨?_, ?_, ?_, ?_⟩
  · rw [n4, wr_in (by omega)]
  · rw [e0, n3, wr_in (by omega)]
  · rw [e0, e1, n2, wr_in (by omega)]
  · rw [e0, e1, e2, n1, wr_in (by omega)]
/-- Not all four numbers are multiples. -/
theorem cnt_dvd {p a b c d : Int} : p ∣ cnt a b c d ↔ p ∣ a ∧ p ∣ b ∧ p ∣ c ∧ p ∣ d := by
  simp only [cnt, Int.dvd_coe_gcd_iff]
  constructor
  · rintro ⟨⟨h1, h2⟩, h3, h4⟩; exact ⟨h1, h2, h3, h4⟩
  · rintro ⟨h1, h2, h3, h4⟩; exact ⟨⟨h1, h2⟩, h3, h4⟩
theorem g_null {p a b c d x : Int} (h3 : p ∣ g3 a b c d x) (h2 : p ∣ g2 a b c x) (h1 : p ∣ g1 a b x) (h0 : p ∣ a) : p ∣ a ∧ p ∣ b ∧ p ∣ c ∧ p ∣ d := by
  have hb : p ∣ b := by
    have e : b = g1 a b x - a * (3 * x) := by unfold g1; grind
    rw [e]; exact Int.dvd_sub h1 (Int.dvd_mul_of_dvd_left h0)
  have hc : p ∣ c := by
    have e : c = g2 a b c x - (a * (3 * x * x) + b * (2 * x)) := by unfold g2; grind
    rw [e]; exact Int.dvd_sub h2 (Int.dvd_add (Int.dvd_mul_of_dvd_left h0) (Int.dvd_mul_of_dvd_left hb))
  have hd : p ∣ d := by
    have e : d = g3 a b c d x - (a * (x * x * x) + b * (x * x) + c * x) := by unfold g3; grind
    rw [e]; exact Int.dvd_sub h3 (Int.dvd_add (Int.dvd_add (Int.dvd_mul_of_dvd_left h0) (Int.dvd_mul_of_dvd_left hb)) (Int.dvd_mul_of_dvd_left hc))
  exact ⟨h0, hb, hc, hd⟩
theorem mlt_of {m x y : Int} {L : List Int} {u v t z : Int} (h0 : nva L x y = t) (h1 : nva (dvd L x y) x y = v) (h2 : nva (dvd (dvd L x y) x y) x y = u) (h3 : nva (dvd (dvd (dvd L x y) x y) x y) x y = z) (hz : ¬ (m ∣ t ∧ m ∣ v ∧ m ∣ u ∧ m ∣ z)) :
    mlt m x y 4 L = mm3 m u v t ∧ stp m x y 4 L = true := by
  simp only [mlt, stp, h0, h1, h2, h3, mul0_d, mm3]
  by_cases a : m ∣ t
  · by_cases b : m ∣ v
    · by_cases c : m ∣ u
      · have d : ¬ m ∣ z := fun d => hz ⟨a, b, c, d⟩
        simp [a, b, c, d]
      · simp [a, b, c]
    · simp [a, b]
  · simp [a]
/-- The multiplicity at a point, as the model has it. -/
def mmu (p a b c d x y : Int) : Nat := if y = 0 then mm3 p c b a else mm3 p (g1 a b x) (g2 a b c x) (g3 a b c d x)
theorem mm3_neg {p u v t : Int} : mm3 p u (-v) t = mm3 p u v t := by simp [mm3, Int.dvd_neg]
theorem mlt_1 {p a b c d x : Int} (ha : -1000 ≤ a ∧ a ≤ 1000) (hb : -1000 ≤ b ∧ b ≤ 1000) (hc : -1000 ≤ c ∧ c ≤ 1000) (hd : -1000 ≤ d ∧ d ≤ 1000) (hx : -498 ≤ x ∧ x ≤ 498) (hn : mul0 (cnt a b c d) p = false) :
    mlt p x 1 4 [a, b, c, d] = mmu p a b c d x 1 ∧ stp p x 1 4 [a, b, c, d] = true := by
  obtain ⟨e0, e1, e2, e3⟩ := lvs ha hb hc hd hx
  have h := mlt_of (m := p) e0 e1 e2 e3 (fun ⟨q3, q2, q1, q0⟩ => by
    rw [mul0_d] at hn
    exact absurd (cnt_dvd.2 (g_null q3 q2 q1 q0)) (by simpa using hn))
  simpa [mmu] using h
theorem mlt_0 {p a b c d : Int} (ha : -1000 ≤ a ∧ a ≤ 1000) (hb : -1000 ≤ b ∧ b ≤ 1000) (hc : -1000 ≤ c ∧ c ≤ 1000) (hd : -1000 ≤ d ∧ d ≤ 1000) (hn : mul0 (cnt a b c d) p = false) :
    mlt p 1 0 4 [a, b, c, d] = mmu p a b c d 1 0 ∧ stp p 1 0 4 [a, b, c, d] = true := by
  obtain ⟨e0, e1, e2, e3⟩ := lvs0 ha hb hc hd
  have h := mlt_of (m := p) e0 e1 e2 e3 (fun ⟨q3, q2, q1, q0⟩ => by
    rw [mul0_d] at hn
    exact absurd (cnt_dvd.2 ⟨q3, Int.dvd_neg.1 q2, q1, Int.dvd_neg.1 q0⟩) (by simpa using hn))
  simpa [mmu, mm3_neg] using h


end Go.Proofs.YtdogkkmdccieiaaDoor

/- Chapter 1: changed forms of the model (as XC1v has them), by themselves. -/
namespace Go.Proofs.YtdogkkmdccieiaaDoor
open Go.RowKit

theorem ret_F {a b c d a' b' c' d' : Int} (h0 : a = a') (h1 : b = b') (h2 : c = c') (h3 : d = d') : Ending.returned (.agg #[.int .i64 a, .int .i64 b, .int .i64 c, .int .i64 d]) = .returned (.agg #[.int .i64 a', .int .i64 b', .int .i64 c', .int .i64 d']) := by rw [h0, h1, h2, h3]
theorem ch_wr {a b c d p q r s : Int} (ha : -1000 ≤ a ∧ a ≤ 1000) (hb : -1000 ≤ b ∧ b ≤ 1000) (hc : -1000 ≤ c ∧ c ≤ 1000) (hd : -1000 ≤ d ∧ d ≤ 1000) (hp : -1000 ≤ p ∧ p ≤ 1000) (hq : -1000 ≤ q ∧ q ≤ 1000) (hr : -1000 ≤ r ∧ r ≤ 1000) (hs : -1000 ≤ s ∧ s ≤ 1000) :
    wrap64 (cA a b c d p r) = cA a b c d p r ∧ wrap64 (cB a b c d p q r s) = cB a b c d p q r s ∧ wrap64 (cC a b c d p q r s) = cC a b c d p q r s ∧ wrap64 (cA a b c d q s) = cA a b c d q s := by
  obtain ⟨h1, h2⟩ := cB_bd ha hb hc hd hp hq hr hs
  have h3 := vx_bd ha hb hc hd hp hr
  have h4 := vx_bd ha hb hc hd hq hs
  exact ⟨wr_in (by unfold cA; omega), wr_in (by omega), wr_in (by omega), wr_in (by unfold cA; omega)⟩

set_option maxRecDepth 100000 in
set_option maxHeartbeats 4000000 in
theorem sChange0_any (a b c d p q r s : Int) (w : World) :
    Calls Tryd.prog 80 #[.agg #[.int .i64 a, .int .i64 b, .int .i64 c, .int .i64 d], .agg #[.int .i64 p, .int .i64 q, .int .i64 r, .int .i64 s]] w fun e w' => e = .returned (.agg #[.int .i64 (wrap64 (cA a b c d p r)), .int .i64 (wrap64 (cB a b c d p q r s)), .int .i64 (wrap64 (cC a b c d p q r s)), .int .i64 (wrap64 (cA a b c d q s))]) ∧ Below w.heap.size w w' := by
  have A0 := ((Arr.new w a b c d 25).alloc (.cells #[.int .i64 p, .int .i64 q, .int .i64 r, .int .i64 s] 50)).alloc (.cells #[.int .i64 0, .int .i64 0, .int .i64 0, .int .i64 0] 25)
  have M0 := (Arr.new (w.alloc (.cells #[.int .i64 a, .int .i64 b, .int .i64 c, .int .i64 d] 25)) p q r s 50).alloc (.cells #[.int .i64 0, .int .i64 0, .int .i64 0, .int .i64 0] 25)
  have R0 := Arr.new ((w.alloc (.cells #[.int .i64 a, .int .i64 b, .int .i64 c, .int .i64 d] 25)).alloc (.cells #[.int .i64 p, .int .i64 q, .int .i64 r, .int .i64 s] 50)) 0 0 0 0 25
  have U0 := gr_alloc (gr_alloc (gr_alloc (Below.refl w.heap.size w) (.cells #[.int .i64 a, .int .i64 b, .int .i64 c, .int .i64 d] 25)) (.cells #[.int .i64 p, .int .i64 q, .int .i64 r, .int .i64 s] 50)) (.cells #[.int .i64 0, .int .i64 0, .int .i64 0, .int .i64 0] 25)
  simp only [World.size_alloc] at M0 R0
  go_enter Tryd.func80, Tryd.ntmps80
  go_upto_region 1 with fail
  generalize (((w.alloc (.cells #[.int .i64 a, .int .i64 b, .int .i64 c, .int .i64 d] 25)).alloc (.cells #[.int .i64 p, .int .i64 q, .int .i64 r, .int .i64 s] 50)).alloc (.cells #[.int .i64 0, .int .i64 0, .int .i64 0, .int .i64 0] 25)) = W0 at A0 M0 R0 U0 ⊢
  obtain ⟨_, m0, m1, m2, m3, _⟩ := id M0
  go_quiet (fail)
  have A1 := A0.drewN nq
  have R1 := R0.drewN nq
  have U1 := gr_drewN U0 nq
  clear m0 m1 m2 m3 A0 R0 U0 M0
  generalize W0.drewN nq = W1 at A1 R1 U1 ⊢
  obtain ⟨_, a0, a1, a2, a3, _⟩ := id A1
  obtain ⟨_, r0, r1, r2, r3, f0, f1, f2, f3⟩ := id R1
  go_upto_region 2 with fail
  go_region_held3 (fun W => W.cell? ⟨w.heap.size, 0, none⟩ = some (.int .i64 a) ∧ W.cell? ⟨w.heap.size, 1, none⟩ = some (.int .i64 b) ∧ W.cell? ⟨w.heap.size, 2, none⟩ = some (.int .i64 c) ∧ W.cell? ⟨w.heap.size, 3, none⟩ = some (.int .i64 d)) (go_keep) (fail)
  go_wp2_with fail
  refine bodyPost_ret (res_A1 (e := 2) rfl Tryd.underlying25 (by kernel_rfl) rfl (by (repeat (first | with_reducible assumption | with_reducible exact Arr.box (by assumption) | with_reducible apply Arr.drew | with_reducible apply Arr.drewN | with_reducible refine Arr.store4 ?_ | with_reducible apply Arr.alloc | with_reducible refine Box.drew ?_ | with_reducible refine Box.drewN ?_ _ | with_reducible refine Box.alloc ?_ _ | refine Arr.oth ?_ (by first | (simp; done) | omega | (simp; omega)) _ | refine Box.oth ?_ (by first | (simp; done) | omega | (simp; omega)) _)))) rfl ?_
  exact ⟨ret_F (by simp only [wr_al, wr_ar, wr_ml]; rfl) (by simp only [wr_al, wr_ar, wr_ml, wr_mr]; rfl) (by simp only [wr_al, wr_ar, wr_ml, wr_mr]; rfl) (by simp only [wr_al, wr_ar, wr_ml]; rfl), by (repeat' (first | with_reducible exact Below.refl _ _ | with_reducible assumption | with_reducible refine gr_alloc ?_ _ | with_reducible refine gr_drew ?_ | with_reducible refine gr_drewN ?_ _ | with_reducible refine gr_trans ?_ (by assumption) | with_reducible refine gr_set ?_ ?_ _ | (simp; done) | omega | (simp; omega)))⟩


end Go.Proofs.YtdogkkmdccieiaaDoor
