/- Several texts in one: XZx, XZc. -/
import Derived.Test.YtehbkmohfipmgaaBtZ11
import Derived.Test.YtehbkmohfipmgaaBtQ2
import Derived.Deep.QuietTactic
import Derived.BigQuiet
import Derived.Test.YtehbkmohfipmgaaBtZ6

/- Chapter 10: the program's search for a form whose first number has no common divisor with n. -/
namespace Go.Proofs.Ytehbkmohfipmgaa
open Go.RowKit

/-- Bounds of an element. -/
theorem el_bd {D : Int} {t : Qd} (h : El D t) (hD : -2000 ≤ D) : (1 ≤ t.1 ∧ t.1 ≤ 26) ∧ (-26 ≤ t.2.1 ∧ t.2.1 ≤ 26) ∧ (1 ≤ t.2.2 ∧ t.2.2 ≤ 700) := by
  obtain ⟨p, q, r⟩ := t
  have h1 : 1 ≤ p := h.rd.1
  have h2 : -p < q := h.rd.2.1
  have h3 : q ≤ p := h.rd.2.2.1
  have h4 : p ≤ r := h.rd.le.1
  have hd : q * q - 4 * p * r = D := h.ds
  have h5 := sq_le (m := q) (p := p) (by omega) h3
  have h6 : p * p ≤ p * r := Int.mul_le_mul_of_nonneg_left h4 (by omega)
  have h8 : 4 * p * r = 4 * (p * r) := Int.mul_assoc _ _ _
  have hp : p ≤ 26 := by
    rcases Int.lt_or_le 26 p with h | h
    · have : 27 * 27 ≤ p * p := Int.mul_le_mul (by omega) (by omega) (by omega) (by omega)
      omega
    · exact h
  have h9 : r ≤ p * r := by
    have := Int.mul_le_mul_of_nonneg_right h1 (show 0 ≤ r by omega)
    omega
  have h10 : p * p ≤ 26 * 26 := Int.mul_le_mul hp hp (by omega) (by omega)
  exact ⟨⟨h1, hp⟩, ⟨by show -26 ≤ q; omega, by show q ≤ 26; omega⟩, ⟨by show 1 ≤ r; omega, by show r ≤ 700; omega⟩⟩
theorem val_le {a b c x y A B C X Y : Int} (ha : -A ≤ a ∧ a ≤ A) (hb : -B ≤ b ∧ b ≤ B) (hc : -C ≤ c ∧ c ≤ C) (hx : -X ≤ x ∧ x ≤ X) (hy : -Y ≤ y ∧ y ≤ Y) :
    -(A * X * X + B * X * Y + C * Y * Y) ≤ val (a, b, c) x y ∧ val (a, b, c) x y ≤ A * X * X + B * X * Y + C * Y * Y := by
  have h1 := mulb (mulb ha hx) hx
  have h2 := mulb (mulb hb hx) hy
  have h3 := mulb (mulb hc hy) hy
  simp only [val]
  omega
theorem qv_val {a b c x y : Int} (h : -9000000000000000000 ≤ val (a, b, c) x y ∧ val (a, b, c) x y ≤ 9000000000000000000) : qv a b c x y = val (a, b, c) x y := by
  simp only [qv, pl, mu, wr_ml, wr_al, wr_ar]
  exact wr_in h
theorem qm_mid {a b c p q r s : Int} (h : -9000000000000000000 ≤ (chg (a, b, c) p q r s).2.1 ∧ (chg (a, b, c) p q r s).2.1 ≤ 9000000000000000000) : qm a b c p q r s = (chg (a, b, c) p q r s).2.1 := by
  have e : qm a b c p q r s = wrap64 (2 * a * p * q + b * (p * s + q * r) + 2 * c * r * s) := by
    simp only [qm, pl, mu, wr_ml, wr_mr, wr_al, wr_ar]
  rw [e]
  exact wr_in h
/-- What the search gives. -/
def CopPost (t : Qd) (n : Int) (w : World) (e : Ending) (w' : World) : Prop :=
  ∃ u : Qd, e = .returned (.agg #[.int .i64 u.1, .int .i64 u.2.1, .int .i64 u.2.2]) ∧ (Eqv t u ∧ Int.gcd u.1 n = 1 ∧ (1 ≤ u.1 ∧ u.1 ≤ 12000000) ∧ (-1000000000 ≤ u.2.1 ∧ u.2.1 ≤ 1000000000)) ∧ Below w.heap.size w w'

/-- The bounds of what the search meets. -/
theorem cop_bd {t : Qd} {x y z : Int} (ht : (1 ≤ t.1 ∧ t.1 ≤ 26) ∧ (-26 ≤ t.2.1 ∧ t.2.1 ≤ 26) ∧ (1 ≤ t.2.2 ∧ t.2.2 ≤ 700)) (hx : 0 ≤ x ∧ x ≤ 626) (hy : 0 ≤ y ∧ y ≤ 25) (hz : 0 ≤ z ∧ z ≤ 25) :
    (-12000000 ≤ val t x y ∧ val t x y ≤ 12000000) ∧ (-2000000 ≤ (chg t x z y 1).2.1 ∧ (chg t x z y 1).2.1 ≤ 2000000) ∧ (-12000000 ≤ val t z 1 ∧ val t z 1 ≤ 12000000) := by
  obtain ⟨a, b, c⟩ := t
  obtain ⟨ha, hb, hc⟩ := ht
  have ha : 1 ≤ a ∧ a ≤ 26 := ha
  have hb : -26 ≤ b ∧ b ≤ 26 := hb
  have hc : 1 ≤ c ∧ c ≤ 700 := hc
  have v1 := val_le (a := a) (b := b) (c := c) (x := x) (y := y) (A := 26) (B := 26) (C := 700) (X := 626) (Y := 25) (by omega) hb (by omega) (by omega) (by omega)
  have v2 := val_le (a := a) (b := b) (c := c) (x := z) (y := 1) (A := 26) (B := 26) (C := 700) (X := 25) (Y := 1) (by omega) hb (by omega) (by omega) (by omega)
  have m1 := mulb (mulb (x := a) (y := x) (A := 26) (B := 626) (by omega) (by omega)) (y := z) (B := 25) (by omega)
  have m2 := mulb (x := b) (y := x * 1 + z * y) (A := 26) (B := 1251) hb (by have := mulb (x := z) (y := y) (A := 25) (B := 25) (by omega) (by omega); omega)
  have m3 := mulb (x := c) (y := y) (A := 700) (B := 25) (by omega) (by omega)
  have e : (chg (a, b, c) x z y 1).2.1 = 2 * (a * x * z) + b * (x * 1 + z * y) + 2 * (c * y) := by simp only [chg]; grind
  rw [e]
  refine ⟨by omega, by omega, by omega⟩
theorem ij_step {n i : Nat} (_ : 1 ≤ n) : ((i : Int).tdiv n = ((i / n : Nat) : Int)) ∧ ((i : Int).tmod n = ((i % n : Nat) : Int)) := ⟨by rw [Int.tdiv_eq_ediv_of_nonneg (by omega)]; rfl, by rw [Int.tmod_eq_emod_of_nonneg (by omega)]; rfl⟩

set_option maxRecDepth 100000 in
set_option maxHeartbeats 4000000 in
theorem coprime_any (t : Qd) (n : Nat) (D : Int) (w : World) (ht : El D t) (hD : -2000 ≤ D) (hn : 1 ≤ n) (hn2 : n ≤ 26) : Calls Try.prog 71 #[.agg #[.int .i64 t.1, .int .i64 t.2.1, .int .i64 t.2.2], .int .i64 ((n : Int))] w (CopPost t n w) := by
  have hb := el_bd ht hD
  obtain ⟨j0, k0, hj0, hk0, hg0⟩ := prim_small ht.pr n hn
  obtain ⟨i0, hi0⟩ : ∃ i0, i0 = n * j0 + k0 := ⟨_, rfl⟩
  have hdiv : i0 / n = j0 := by rw [hi0, Nat.mul_add_div (by omega), Nat.div_eq_of_lt hk0, Nat.add_zero]
  have hmod : i0 % n = k0 := by rw [hi0, Nat.mul_add_mod, Nat.mod_eq_of_lt hk0]
  have hlt : i0 < n * n := by
    have : n * (j0 + 1) ≤ n * n := Nat.mul_le_mul_left n (by omega)
    rw [Nat.mul_add] at this; omega
  have hnn : n * n ≤ 26 * 26 := Nat.mul_le_mul hn2 hn2
  have HG0 := hid (show Int.gcd (val t (1 + ((i0 / n : Nat) : Int) * (i0 % n : Nat)) (i0 % n : Nat)) n = 1 by rw [hdiv, hmod]; exact hg0)
  clear hg0 hdiv hmod hi0 hj0 hk0
  have HP := hid ht.pos; have HB := hid hb; have HTE := hid ht
  obtain ⟨a, b, c⟩ := t
  have A0 := (Arr3.new w a b c 25).alloc (.cells #[.int .i64 0, .int .i64 0, .int .i64 0] 25)
  have B0 := (Arr3.new (w.alloc (.cells #[.int .i64 a, .int .i64 b, .int .i64 c] 25)) 0 0 0 25)
  have U0 := gr_alloc (gr_alloc (Below.refl w.heap.size w) (.cells #[.int .i64 a, .int .i64 b, .int .i64 c] 25)) (.cells #[.int .i64 0, .int .i64 0, .int .i64 0] 25)
  simp only [World.size_alloc] at B0
  have HA0 := hid A0; have HB0 := hid B0; have HU0 := hid U0
  clear A0 B0 U0 hb ht
  dsimp only
  go_enter Try.func71, Try.ntmps71
  go_wp2_with fail
  go_loopw [5] (fun s wr => ∃ i : Nat, s = .int .i64 ((i : Int)) ∧ i ≤ i0 ∧ Arr3 wr w.heap.size a b c ∧ Box3 wr (w.heap.size + 1) ∧ Below w.heap.size w wr) (fun s _ => i0 + 1 - (intOf s).toNat)
  case atStart => exact ⟨0, rfl, by omega, HA0.out, HB0.out.box, HU0.out⟩
  case round =>
    obtain ⟨i, rfl, hi, hA, hBx, hU⟩ := hrel
    obtain ⟨d1, d2⟩ := ij_step (n := n) (i := i) hn
    have hjn : i / n < n := Nat.div_lt_of_lt_mul (by omega)
    have hkn : i % n < n := Nat.mod_lt _ (by omega)
    have hlast : i = i0 → Int.gcd (val (a, b, c) (1 + ((i / n : Nat) : Int) * (i % n : Nat)) (i % n : Nat)) n = 1 := fun e => by rw [e]; exact HG0.out
    obtain ⟨j, hj⟩ : ∃ j, j = i / n := ⟨_, rfl⟩
    obtain ⟨k, hk⟩ : ∃ k, k = i % n := ⟨_, rfl⟩
    rw [← hj] at d1 hjn hlast
    rw [← hk] at d2 hkn hlast
    clear hj hk
    have d3 : (i : Int) / n = j := by rw [← Int.tdiv_eq_ediv_of_nonneg (by omega)]; exact d1
    have d4 : (i : Int) % n = k := by rw [← Int.tmod_eq_emod_of_nonneg (by omega)]; exact d2
    have hjk := mulb (x := (j : Int)) (y := k) (A := 25) (B := 25) (by omega) (by omega)
    have hjk0 : 0 ≤ (j : Int) * k := Int.mul_nonneg (by omega) (by omega)
    obtain ⟨v1, v2, v3⟩ := cop_bd (t := (a, b, c)) (x := 1 + (j : Int) * k) (y := k) (z := j) HB.out (by omega) (by omega) (by omega)
    have c1 := fun W => iChQ0_any a b c (1 + (j : Int) * k) j k 1 W
    rw [qv_val (by omega), qm_mid (by omega), qv_val (by omega)] at c1
    have hE : Hid (Eqv (a, b, c) (val (a, b, c) (1 + (j : Int) * k) k, (chg (a, b, c) (1 + (j : Int) * k) j k 1).2.1, val (a, b, c) j 1)) := hid (chg_val (t := (a, b, c)) (j : Int) k).2
    have hpos : 1 ≤ val (a, b, c) (1 + (j : Int) * k) k := val_pos HP.out (by left; omega)
    generalize val (a, b, c) (1 + (j : Int) * k) k = x0 at *
    generalize (chg (a, b, c) (1 + (j : Int) * k) j k 1).2.1 = x1 at *
    generalize val (a, b, c) j 1 = x2 at *
    obtain ⟨T, hT⟩ : ∃ T, T = (j : Int) * k := ⟨_, rfl⟩
    rw [← hT] at hjk hjk0 c1
    have hT' := hT.symm
    have hgc := fun W => iGcd_any x0 n W (by omega) (by omega)
    have hgl : Hid (i = i0 → ((Int.gcd x0 n : Nat) : Int) = 1) := hid (fun e => by rw [hlast e]; rfl)
    have hg1 : Hid (((Int.gcd x0 n : Nat) : Int) = 1 → Int.gcd x0 n = 1) := hid (fun e => by omega)
    have HHB := hid hBx
    clear hlast hT
    generalize ((Int.gcd x0 n : Nat) : Int) = g at hgc hgl hg1
    have C1 := hid c1; have HGC := hid hgc
    clear c1 hgc
    obtain ⟨_, a0, a1, a2, _⟩ := id hA
    have HA := hid hA; have HU := hid hU
    clear hA hU hBx
    have hn0 : ¬ (n : Int) = 0 := by omega
    go_wp2_with fail
    go_quiet (fail)
    go_wp2_with fail
    generalize hWn : World.drewN _ _ = W1
    have A1 := hWn ▸ HA.out.drewN _
    have B1 := hWn ▸ HHB.out.drewN _
    have U1 := hWn ▸ gr_drewN HU.out _
    clear hWn HA HU HHB a0 a1 a2
    obtain ⟨_, a0, a1, a2, _⟩ := id A1
    refine (C1.out _).mono ?_
    rintro e w2 ⟨rfl, hb2⟩
    have A2 := (A1.next hb2).alloc (.cells #[.int .i64 x0, .int .i64 x1, .int .i64 x2] 25)
    have B2 := (B1.next hb2).alloc (.cells #[.int .i64 x0, .int .i64 x1, .int .i64 x2] 25)
    have K2 := Arr3.new w2 x0 x1 x2 25
    have U2 := gr_alloc (gr_trans U1 hb2) (.cells #[.int .i64 x0, .int .i64 x1, .int .i64 x2] 25)
    clear a0 a1 a2 A1 B1 U1
    obtain ⟨_, k0, k1, k2, _⟩ := id K2
    go_wp2_with fail
    refine (HGC.out _).mono ?_
    rintro e w3 ⟨rfl, hb3⟩
    have A3 := A2.next hb3
    have B3 := B2.next hb3
    have K3 := K2.next hb3
    have U3 := gr_trans U2 hb3
    clear k0 k1 k2 A2 B2 K2 U2
    by_cases hg : g = 1
    · subst hg
      obtain ⟨_, k0, k1, k2, _⟩ := id K3
      obtain ⟨z0, z1, z2, Z⟩ := id B3
      obtain ⟨_, r0, r1, r2, f0, f1, f2⟩ := id Z
      go_wp2_with fail
      refine bodyPost_ret (res_A31 (e := 2) rfl Try.underlying25 (by kernel_rfl) rfl (by (repeat (first | with_reducible assumption | with_reducible exact Arr.box (by assumption) | with_reducible exact Box.new _ _ _ _ _ _ | with_reducible exact Arr.new _ _ _ _ _ _ | with_reducible refine Arr.drew ?_ | with_reducible refine Arr.drewN ?_ _ | with_reducible refine Arr.store4 ?_ | with_reducible refine Arr.alloc ?_ _ | with_reducible refine Box.drew ?_ | with_reducible refine Box.drewN ?_ _ | with_reducible refine Box.alloc ?_ _ | with_reducible refine Arr.next ?_ (by assumption) | with_reducible refine Box.next ?_ (by assumption) | refine Arr.oth ?_ (by first | (simp; done) | omega | (simp; omega)) _ | refine Box.oth ?_ (by first | (simp; done) | omega | (simp; omega)) _ | with_reducible exact Arr3.box (by assumption) | with_reducible exact Box3.new _ _ _ _ _ | with_reducible exact Arr3.new _ _ _ _ _ | with_reducible refine Arr3.drew ?_ | with_reducible refine Arr3.drewN ?_ _ | with_reducible refine Arr3.store3 ?_ | with_reducible refine Arr3.alloc ?_ _ | with_reducible refine Box3.drew ?_ | with_reducible refine Box3.drewN ?_ _ | with_reducible refine Box3.alloc ?_ _ | with_reducible refine Arr3.next ?_ (by assumption) | with_reducible refine Box3.next ?_ (by assumption) | refine Arr3.oth ?_ (by first | (simp; done) | omega | (simp; omega)) _ | refine Box3.oth ?_ (by first | (simp; done) | omega | (simp; omega)) _)))) rfl ?_
      exact ⟨(x0, x1, x2), rfl, ⟨hE.out, hg1.out (by first | trivial | rfl), ⟨hpos, v1.2⟩, ⟨by show -1000000000 ≤ x1; omega, by show x1 ≤ 1000000000; omega⟩⟩, by (repeat' (first | with_reducible exact Below.refl _ _ | with_reducible assumption | with_reducible refine gr_alloc ?_ _ | with_reducible refine gr_drew ?_ | with_reducible refine gr_drewN ?_ _ | with_reducible refine gr_trans ?_ (by assumption) | with_reducible refine gr_set ?_ ?_ _ | (simp; done) | omega | (simp; omega)))⟩
    · have hg' : (g == 1) = false := by simpa using hg
      have hne : i ≠ i0 := fun e => hg (hgl.out e)
      have HN := hid hne
      clear hg hne
      go_wp2_with fail
      go_roundw
      case rel => exact ⟨i + 1, rfl, by have := HN.out; omega, A3, B3, U3⟩
      case measure => have := HN.out; simp [intOf]; omega

end Go.Proofs.Ytehbkmohfipmgaa

/- Chapter 10: the program's tests of definite forms. -/
namespace Go.Proofs.Ytehbkmohfipmgaa
open Go.RowKit

set_option maxRecDepth 100000 in
set_option maxHeartbeats 1000000 in
theorem isDef0_any (a b c : Int) (w : World) : Calls Try.prog 46 #[.agg #[.int .i64 a, .int .i64 b, .int .i64 c]] w fun e w' => e = .returned (.bool (df10 a b c)) ∧ Below w.heap.size w w' := by
  have A0 := (Arr3.new w a b c 25).alloc (.cells #[Value.func (Fn.func 76) #[] #[], Value.func (Fn.func 77) #[] #[], Value.func (Fn.func 78) #[] #[], Value.func (Fn.func 53) #[] #[]] 85)
  have ix0 : ∀ w : World, (Instr.index 85 (.agg #[Value.func (Fn.func 76) #[] #[], Value.func (Fn.func 77) #[] #[], Value.func (Fn.func 78) #[] #[], Value.func (Fn.func 53) #[] #[]]) (.int .i64 0)).run Try.prog w = .ok (Value.func (Fn.func 76) #[] #[]) w := fun _ => by kernel_rfl
  have ix1 : ∀ w : World, (Instr.index 85 (.agg #[Value.func (Fn.func 76) #[] #[], Value.func (Fn.func 77) #[] #[], Value.func (Fn.func 78) #[] #[], Value.func (Fn.func 53) #[] #[]]) (.int .i64 1)).run Try.prog w = .ok (Value.func (Fn.func 77) #[] #[]) w := fun _ => by kernel_rfl
  have ix2 : ∀ w : World, (Instr.index 85 (.agg #[Value.func (Fn.func 76) #[] #[], Value.func (Fn.func 77) #[] #[], Value.func (Fn.func 78) #[] #[], Value.func (Fn.func 53) #[] #[]]) (.int .i64 2)).run Try.prog w = .ok (Value.func (Fn.func 78) #[] #[]) w := fun _ => by kernel_rfl
  have ix3 : ∀ w : World, (Instr.index 85 (.agg #[Value.func (Fn.func 76) #[] #[], Value.func (Fn.func 77) #[] #[], Value.func (Fn.func 78) #[] #[], Value.func (Fn.func 53) #[] #[]]) (.int .i64 3)).run Try.prog w = .ok (Value.func (Fn.func 53) #[] #[]) w := fun _ => by kernel_rfl
  have hr : ∀ r : Bool, r = df10 a b c → Hid (df10 a b c = r) := fun r h => hid h.symm
  cases h1 : isM a b c with
  | false =>
    have H1 := fun W => isSmall_any a b c W
    rw [h1] at H1
    have HR := hr false (by simp [df10, h1])
    have HH := hid H1
    clear H1 h1 hr
    go_enter Try.func46, Try.ntmps46
    go_wp2_with fail
    refine wp_loop_rounds 5 ?_
    obtain ⟨_, c0, c1, c2, _⟩ := id A0
    rw [rounds_succ]; go_wp2_with fail
    refine (HH.out _).mono ?_
    rintro e x1 ⟨rfl, hx1⟩
    go_wp2
    go_ret
    exact ⟨ret_bool HR.out.symm, by (repeat' (first | with_reducible exact Below.refl _ _ | with_reducible assumption | with_reducible refine gr_alloc ?_ _ | with_reducible refine gr_drew ?_ | with_reducible refine gr_drewN ?_ _ | with_reducible refine gr_trans ?_ (by assumption) | with_reducible refine gr_set ?_ ?_ _ | (simp; done) | omega | (simp; omega)))⟩
  | true =>
    obtain ⟨ha, hb, hc⟩ := isM_t h1
    have H1 := fun W => isSmall_any a b c W
    have H2 := fun W => isClassed_any a b c W
    have H3 := fun W => startsPositive_any a b c W
    have H4 := fun W => isPrimitive_any a b c W (by omega) (by omega) (by omega)
    have HE : Hid (df10 a b c = (dcl (dq a b c) && (decide (0 < a) && (cnt3 a b c == 1)))) := hid (by simp [df10, h1])
    rw [h1] at H1
    clear ha hb hc h1 hr
    generalize dcl (dq a b c) = x1 at H2 HE
    generalize decide (0 < a) = x2 at H3 HE
    generalize (cnt3 a b c == 1) = x3 at H4 HE
    generalize df10 a b c = x at HE ⊢
    have K1 := hid H1; have K2 := hid H2; have K3 := hid H3; have K4 := hid H4
    clear H1 H2 H3 H4
    go_enter Try.func46, Try.ntmps46
    go_wp2_with fail
    refine wp_loop_rounds 5 ?_
    obtain ⟨_, c0, c1, c2, _⟩ := id A0
    rw [rounds_succ]; go_wp2_with fail
    refine (K1.out _).mono ?_
    rintro e y1 ⟨rfl, hy1⟩
    have A1 := A0.next hy1
    clear c0 c1 c2
    obtain ⟨_, c0, c1, c2, _⟩ := id A1
    go_wp2_with fail
    rw [rounds_succ]; go_wp2_with fail
    refine (K2.out _).mono ?_
    rintro e y2 ⟨rfl, hy2⟩
    have A2 := A1.next hy2
    clear c0 c1 c2
    obtain ⟨_, c0, c1, c2, _⟩ := id A2
    cases x1 with
    | false =>
      go_wp2
      go_ret
      exact ⟨ret_bool (by simp [HE.out]), by (repeat' (first | with_reducible exact Below.refl _ _ | with_reducible assumption | with_reducible refine gr_alloc ?_ _ | with_reducible refine gr_drew ?_ | with_reducible refine gr_drewN ?_ _ | with_reducible refine gr_trans ?_ (by assumption) | with_reducible refine gr_set ?_ ?_ _ | (simp; done) | omega | (simp; omega)))⟩
    | true =>
      go_wp2_with fail
      rw [rounds_succ]; go_wp2_with fail
      refine (K3.out _).mono ?_
      rintro e y3 ⟨rfl, hy3⟩
      have A3 := A2.next hy3
      clear c0 c1 c2
      obtain ⟨_, c0, c1, c2, _⟩ := id A3
      cases x2 with
      | false =>
        go_wp2
        go_ret
        exact ⟨ret_bool (by simp [HE.out]), by (repeat' (first | with_reducible exact Below.refl _ _ | with_reducible assumption | with_reducible refine gr_alloc ?_ _ | with_reducible refine gr_drew ?_ | with_reducible refine gr_drewN ?_ _ | with_reducible refine gr_trans ?_ (by assumption) | with_reducible refine gr_set ?_ ?_ _ | (simp; done) | omega | (simp; omega)))⟩
      | true =>
        go_wp2_with fail
        rw [rounds_succ]; go_wp2_with fail
        refine (K4.out _).mono ?_
        rintro e y4 ⟨rfl, hy4⟩
        cases x3 with
        | false =>
          go_wp2
          go_ret
          exact ⟨ret_bool (by simp [HE.out]), by (repeat' (first | with_reducible exact Below.refl _ _ | with_reducible assumption | with_reducible refine gr_alloc ?_ _ | with_reducible refine gr_drew ?_ | with_reducible refine gr_drewN ?_ _ | with_reducible refine gr_trans ?_ (by assumption) | with_reducible refine gr_set ?_ ?_ _ | (simp; done) | omega | (simp; omega)))⟩
        | true =>
          go_wp2_with fail
          rw [rounds_succ]; go_wp2_with fail
          go_ret
          exact ⟨ret_bool (by simp [HE.out]), by (repeat' (first | with_reducible exact Below.refl _ _ | with_reducible assumption | with_reducible refine gr_alloc ?_ _ | with_reducible refine gr_drew ?_ | with_reducible refine gr_drewN ?_ _ | with_reducible refine gr_trans ?_ (by assumption) | with_reducible refine gr_set ?_ ?_ _ | (simp; done) | omega | (simp; omega)))⟩

end Go.Proofs.Ytehbkmohfipmgaa
