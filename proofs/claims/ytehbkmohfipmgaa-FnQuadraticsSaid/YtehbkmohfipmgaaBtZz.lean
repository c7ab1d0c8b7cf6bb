/- Chapter 10: the model's search for a form whose first number has no common divisor with n. -/
import Derived.Test.YtehbkmohfipmgaaBtZ12
import Derived.Test.YtehbkmohfipmgaaBtZl
namespace Go.Proofs.Ytehbkmohfipmgaa
open Go.RowKit

theorem val_mul (t : Qd) (x y g : Int) : val t (x * g) (y * g) = val t x y * (g * g) := by
  simp only [val]; grind
/-- Small coprime places with values that have no common divisor with n. -/
theorem prim_place {t : Qd} (ht : Pri t) (n : Nat) (hn : 1 ≤ n) : ∃ x y : Nat, x ≤ n ∧ y ≤ n ∧ 1 ≤ x + y ∧ Int.gcd (x : Int) y = 1 ∧ Int.gcd (val t x y) n = 1 := by
  rcases Nat.lt_or_ge n 2 with h | h
  · exact ⟨1, 0, by omega, by omega, by omega, by simp, by rw [show n = 1 by omega]; simp⟩
  · obtain ⟨j, k, h1⟩ := prim_val ht n hn
    have d : ∀ x : Int, Dv n (x % n) x := fun x => ⟨-(x / n), by have := Int.mul_ediv_add_emod x n; rw [Int.mul_neg]; omega⟩
    have g := (Dv.val t (d (1 + j * k)) (d k)).gcd h1
    have a0 := Int.emod_nonneg (1 + j * k) (b := n) (by omega)
    have a1 := Int.emod_lt_of_pos (1 + j * k) (b := n) (by omega)
    have b0 := Int.emod_nonneg k (b := n) (by omega)
    have b1 := Int.emod_lt_of_pos k (b := n) (by omega)
    obtain ⟨X, hX⟩ : ∃ X : Nat, (X : Int) = (1 + j * k) % n := ⟨((1 + j * k) % n).toNat, Int.toNat_of_nonneg a0⟩
    obtain ⟨Y, hY⟩ : ∃ Y : Nat, (Y : Int) = k % n := ⟨(k % n).toNat, Int.toNat_of_nonneg b0⟩
    rw [← hX, ← hY] at g
    have hne : X ≠ 0 ∨ Y ≠ 0 := by
      rcases Nat.eq_zero_or_pos X with e | e
      · rcases Nat.eq_zero_or_pos Y with e' | e'
        · subst e e'
          simp [val] at g
          omega
        · right; omega
      · left; omega
    have hG : 0 < Nat.gcd X Y := by
      rcases hne with e | e
      · exact Nat.gcd_pos_of_pos_left _ (by omega)
      · exact Nat.gcd_pos_of_pos_right _ (by omega)
    obtain ⟨x, hx⟩ := Nat.gcd_dvd_left X Y
    obtain ⟨y, hy⟩ := Nat.gcd_dvd_right X Y
    have hc : Nat.gcd x y = 1 := by
      have h2 : Nat.gcd X Y * Nat.gcd x y = Nat.gcd X Y * 1 := by
        rw [← Nat.gcd_mul_left, ← hx, ← hy, Nat.mul_one]
      exact Nat.eq_of_mul_eq_mul_left hG h2
    have hxX : x ≤ X := by
      have := Nat.mul_le_mul_right x hG
      omega
    have hyY : y ≤ Y := by
      have := Nat.mul_le_mul_right y hG
      omega
    refine ⟨x, y, by omega, by omega, ?_, ?_, ?_⟩
    · rcases Nat.eq_zero_or_pos (x + y) with e | e
      · have e1 : x = 0 := by omega
        have e2 : y = 0 := by omega
        subst e1 e2
        simp at hc
      · exact e
    · show Nat.gcd _ _ = 1
      simpa using hc
    · have e : val t X Y = val t x y * ((Nat.gcd X Y : Int) * (Nat.gcd X Y : Int)) := by
        rw [← val_mul]
        have e1 : (X : Int) = (x : Int) * (Nat.gcd X Y : Int) := by
          have : (X : Int) = ((Nat.gcd X Y * x : Nat) : Int) := congrArg _ hx
          rw [this]; push_cast; exact Int.mul_comm _ _
        have e2 : (Y : Int) = (y : Int) * (Nat.gcd X Y : Int) := by
          have : (Y : Int) = ((Nat.gcd X Y * y : Nat) : Int) := congrArg _ hy
          rw [this]; push_cast; exact Int.mul_comm _ _
        rw [← e1, ← e2]
      rw [e] at g
      exact gcd_fac g
/-- x has a k below it with x a divisor of 1 + k y. -/
theorem inv_small {x y : Int} (hx : 1 ≤ x) (h : Int.gcd x y = 1) : ∃ k : Nat, (k : Int) < x ∧ ∃ v, 1 + (k : Int) * y = x * v := by
  obtain ⟨a, b, e⟩ := gcd_one.1 h
  have h0 := Int.emod_nonneg (-b) (b := x) (by omega)
  have h1 := Int.emod_lt_of_pos (-b) (b := x) (by omega)
  have h3 := Int.mul_ediv_add_emod (-b) x
  refine ⟨((-b) % x).toNat, by omega, a - ((-b) / x) * y, ?_⟩
  rw [Int.toNat_of_nonneg h0]
  have e1 : (-b) % x = -b - x * ((-b) / x) := by omega
  rw [e1, ← e]
  grind

theorem mid_le {a b c x k y v : Int} (ha : -26 ≤ a ∧ a ≤ 26) (hb : -26 ≤ b ∧ b ≤ 26) (hc : -700 ≤ c ∧ c ≤ 700) (hx : -52 ≤ x ∧ x ≤ 52) (hk : -52 ≤ k ∧ k ≤ 52) (hy : -52 ≤ y ∧ y ≤ 52) (hv : -2705 ≤ v ∧ v ≤ 2705) :
    (-1000000000 ≤ (chg (a, b, c) x k y v).2.1 ∧ (chg (a, b, c) x k y v).2.1 ≤ 1000000000) ∧ (-10000000000 ≤ (chg (a, b, c) x k y v).2.2 ∧ (chg (a, b, c) x k y v).2.2 ≤ 10000000000) := by
  have m1 := mulb (mulb ha hx) hk
  have m2 := mulb hb (y := x * v + k * y) (B := 52 * 2705 + 52 * 52) (by have := mulb hx hv; have := mulb hk hy; omega)
  have m3 := mulb (mulb hc hy) hv
  have n := val_le ha hb hc hk hv
  have e : (chg (a, b, c) x k y v).2.1 = 2 * (a * x * k) + b * (x * v + k * y) + 2 * (c * y * v) := by simp only [chg]; grind
  have e2 : (chg (a, b, c) x k y v).2.2 = val (a, b, c) k v := rfl
  rw [e, e2]
  exact ⟨by omega, by omega⟩
theorem wr_to {X Y : Int} (h : X = wrap64 Y) (hb : -9000000000000000000 ≤ Y ∧ Y ≤ 9000000000000000000) : X = Y := by rw [h]; exact wr_in hb

set_option maxRecDepth 100000 in
set_option maxHeartbeats 8000000 in
theorem l10Prime_any (t : Qd) (n : Nat) (D : Int) (w : World) (ht : El D t) (hD : -2000 ≤ D) (hn : 1 ≤ n) (hn2 : n ≤ 26) : Calls Try.prog 74 #[.agg #[.int .i64 t.1, .int .i64 t.2.1, .int .i64 t.2.2], .int .i64 ((n : Int))] w (CopPost t n w) := by
  obtain ⟨⟨a1, a2⟩, ⟨b1, b2⟩, ⟨e1, e2⟩⟩ := el_bd ht hD
  obtain ⟨x0, y0, hx0, hy0, hs0, hg0, hv0⟩ := prim_place ht.pr n hn
  have HP := hid ht.pos
  have HG0 := hid hg0; have HV0 := hid hv0
  clear hg0 hv0 ht
  obtain ⟨a, b, c⟩ := t
  have a1 : 1 ≤ a := a1
  have a2 : a ≤ 26 := a2
  have b1 : -26 ≤ b := b1
  have b2 : b ≤ 26 := b2
  have e1 : 1 ≤ c := e1
  have e2 : c ≤ 700 := e2
  have HA0 := hid ((Arr3.new w a b c 25).alloc (.cells #[.int .i64 0, .int .i64 0, .int .i64 0] 25))
  have B0 := (Arr3.new (w.alloc (.cells #[.int .i64 a, .int .i64 b, .int .i64 c] 25)) 0 0 0 25)
  have HU0 := hid (gr_alloc (gr_alloc (Below.refl w.heap.size w) (.cells #[.int .i64 a, .int .i64 b, .int .i64 c] 25)) (.cells #[.int .i64 0, .int .i64 0, .int .i64 0] 25))
  simp only [World.size_alloc] at B0
  have HB0 := hid B0
  clear B0
  dsimp only
  go_enter Try.func74, Try.ntmps74
  go_wp2_with fail
  go_loopw [5] (fun s wr => ∃ z : Nat, s = .int .i64 ((z : Int)) ∧ 1 ≤ z ∧ z ≤ x0 + y0 ∧ Arr3 wr w.heap.size a b c ∧ Arr3 wr (w.heap.size + 1) 0 0 0 ∧ Below w.heap.size w wr) (fun s _ => x0 + y0 + 1 - (intOf s).toNat)
  case atStart => exact ⟨1, rfl, by omega, by omega, HA0.out, HB0.out, HU0.out⟩
  case round =>
    obtain ⟨z, rfl, hz1, hz2, hA, hB, hU⟩ := hrel
    have HA1 := hid hA; have HB1 := hid hB; have HU1 := hid hU
    clear hA hB hU HA0 HB0 HU0
    go_wp2_with fail
    go_loopw [6] (fun s wr => ∃ x : Nat, s = .int .i64 ((x : Int)) ∧ x ≤ z + 1 ∧ (z = x0 + y0 → x ≤ x0) ∧ Arr3 wr w.heap.size a b c ∧ Arr3 wr (w.heap.size + 1) 0 0 0 ∧ Below w.heap.size w wr) (fun s _ => z + 2 - (intOf s).toNat)
    case atStart => exact ⟨0, rfl, by omega, by omega, HA1.out, HB1.out, HU1.out⟩
    case round =>
      obtain ⟨x, rfl, hx1, hx2, hA, hB, hU⟩ := hrel
      clear HA1 HB1 HU1
      have HX2 := hid hx2
      have hnz : ¬ x ≤ z → z + 1 ≤ x0 + y0 := fun h => by
        rcases Nat.lt_or_ge z (x0 + y0) with h1 | h1
        · omega
        · have := hx2 (by omega); omega
      clear hx2
      by_cases hxz : x ≤ z
      · clear hnz
        obtain ⟨y, hy⟩ : ∃ y : Nat, z = x + y := ⟨z - x, by omega⟩
        have hsub : (z : Int) - (x : Int) = (y : Int) := by omega
        have hy2 : y ≤ 52 := by omega
        have hxx : x ≤ 52 := by omega
        have hxy1 : x ≠ 0 ∨ y ≠ 0 := by omega
        have HZ := hid hy
        clear hy
        have hv := val_le (a := a) (b := b) (c := c) (x := x) (y := y) (A := 26) (B := 26) (C := 700) (X := 52) (Y := 52) (by omega) (by omega) (by omega) (by omega) (by omega)
        have hpos : 1 ≤ val (a, b, c) x y := val_pos HP.out (by omega)
        have HPV := hid hpos
        have hlast : x = x0 ∧ y = y0 → (((Int.gcd (x : Int) y : Nat) : Int) != 1) = false ∧ (((Int.gcd (val (a, b, c) x y) n : Nat) : Int) != 1) = false := fun ⟨e, e'⟩ => by
          subst e e'
          rw [HG0.out, HV0.out]; simp
        have hg1 := fun W => sGcd_any (x : Int) y W (by omega) (by omega)
        have hg2 := fun W => sGcd_any (val (a, b, c) x y) n W (by omega) (by omega)
        have HVV := hid (show val (a, b, c) x y = a * x * x + b * x * y + c * y * y from rfl)
        have hgo : (((Int.gcd (x : Int) y : Nat) : Int) != 1) = false → Int.gcd (x : Int) y = 1 := fun h => by have h' := bne_eq_false_iff_eq.1 h; omega
        have hgo2 : (((Int.gcd (val (a, b, c) x y) n : Nat) : Int) != 1) = false → Int.gcd (val (a, b, c) x y) n = 1 := fun h => by have h' := bne_eq_false_iff_eq.1 h; omega
        have HGO := hid hgo; have HGO2 := hid hgo2; have HLAST := hid hlast
        clear hgo hgo2 hlast hpos
        generalize ((Int.gcd (x : Int) y : Nat) : Int) = g1 at hg1 HGO HLAST
        generalize ((Int.gcd (val (a, b, c) x y) n : Nat) : Int) = g2 at hg2 HGO2 HLAST
        -- the products
        obtain ⟨p1, hp1⟩ : ∃ p, p = a * (x : Int) := ⟨_, rfl⟩
        obtain ⟨p2, hp2⟩ : ∃ p, p = p1 * (x : Int) := ⟨_, rfl⟩
        obtain ⟨p3, hp3⟩ : ∃ p, p = b * (x : Int) := ⟨_, rfl⟩
        obtain ⟨p4, hp4⟩ : ∃ p, p = p3 * (y : Int) := ⟨_, rfl⟩
        obtain ⟨p5, hp5⟩ : ∃ p, p = c * (y : Int) := ⟨_, rfl⟩
        obtain ⟨p6, hp6⟩ : ∃ p, p = p5 * (y : Int) := ⟨_, rfl⟩
        have q1 := mulb (x := a) (y := x) (A := 26) (B := 52) (by omega) (by omega)
        have q3 := mulb (x := b) (y := x) (A := 26) (B := 52) (by omega) (by omega)
        have q5 := mulb (x := c) (y := y) (A := 700) (B := 52) (by omega) (by omega)
        rw [← hp1] at q1; rw [← hp3] at q3; rw [← hp5] at q5
        have q2 := mulb (x := p1) (y := x) (A := 26 * 52) (B := 52) q1 (by omega)
        have q4 := mulb (x := p3) (y := y) (A := 26 * 52) (B := 52) q3 (by omega)
        have q6 := mulb (x := p5) (y := y) (A := 700 * 52) (B := 52) q5 (by omega)
        rw [← hp2] at q2; rw [← hp4] at q4; rw [← hp6] at q6
        have hV : val (a, b, c) x y = p2 + p4 + p6 := by rw [HVV.out, hp2, hp4, hp6, hp1, hp3, hp5]
        rw [hV] at hg2 hv
        obtain ⟨q11, q12⟩ := q1; obtain ⟨q21, q22⟩ := q2; obtain ⟨q31, q32⟩ := q3; obtain ⟨q41, q42⟩ := q4; obtain ⟨q51, q52⟩ := q5; obtain ⟨q61, q62⟩ := q6
        have r11 : -10000000 ≤ p1 := by omega
        have r12 : p1 ≤ 10000000 := by omega
        have r21 : -10000000 ≤ p2 := by omega
        have r22 : p2 ≤ 10000000 := by omega
        have r31 : -10000000 ≤ p3 := by omega
        have r32 : p3 ≤ 10000000 := by omega
        have r41 : -10000000 ≤ p4 := by omega
        have r42 : p4 ≤ 10000000 := by omega
        have r51 : -10000000 ≤ p5 := by omega
        have r52 : p5 ≤ 10000000 := by omega
        have r61 : -10000000 ≤ p6 := by omega
        have r62 : p6 ≤ 10000000 := by omega
        have s1 := hp1.symm; have s2 := hp2.symm; have s3 := hp3.symm; have s4 := hp4.symm; have s5 := hp5.symm; have s6 := hp6.symm
        have HVb := hid hv
        have HVe := hid hV
        clear hp1 hp2 hp3 hp4 hp5 hp6 q11 q12 q21 q22 q31 q32 q41 q42 q51 q52 q61 q62 hv hV
        have G1 := hid hg1; have G2 := hid hg2
        obtain ⟨_, w0, w1, w2, _⟩ := id hA
        have HA := hid hA; have HB := hid hB; have HU := hid hU
        clear hg1 hg2 hA hB hU
        cases hn1 : (g1 != 1) with
        | true =>
          have hnx : z = x0 + y0 → x + 1 ≤ x0 := fun h => by
            have h1 := HX2.out h
            rcases Nat.lt_or_ge x x0 with h2 | h2
            · omega
            · exfalso
              have h3 := HLAST.out ⟨by omega, by have := HZ.out; omega⟩
              rw [hn1] at h3
              exact absurd h3.1 (by decide)
          have HNX := hid hnx
          clear hnx
          go_wp2_with (first | (go_at_call_of 79 (Value.int .i64 (x : Int)); refine (G1.out _).mono ?_; rintro e w1 ⟨rfl, rfl⟩) | (go_at_call 79; refine (G2.out _).mono ?_; rintro e w1 ⟨rfl, rfl⟩))
          exact ⟨⟨x + 1, rfl, by omega, HNX.out, HA.out, HB.out, HU.out⟩, by simp [intOf]; omega⟩
        | false =>
          cases hn2' : (g2 != 1) with
          | true =>
            have hnx : z = x0 + y0 → x + 1 ≤ x0 := fun h => by
              have h1 := HX2.out h
              rcases Nat.lt_or_ge x x0 with h2 | h2
              · omega
              · exfalso
                have h3 := HLAST.out ⟨by omega, by have := HZ.out; omega⟩
                rw [hn2'] at h3
                exact absurd h3.2 (by decide)
            have HNX := hid hnx
            clear hnx
            go_wp2_with (first | (go_at_call_of 79 (Value.int .i64 (x : Int)); refine (G1.out _).mono ?_; rintro e w1 ⟨rfl, rfl⟩) | (go_at_call 79; refine (G2.out _).mono ?_; rintro e w1 ⟨rfl, rfl⟩))
            exact ⟨⟨x + 1, rfl, by omega, HNX.out, HA.out, HB.out, HU.out⟩, by simp [intOf]; omega⟩
          | false =>
            have hc1 := HGO.out hn1
            have hc2 := HGO2.out hn2'
            have HC2 := hid hc2
            clear hc2
            by_cases hx0 : x = 0
            · have hy1 : y = 1 := by
                have := hc1
                rw [hx0] at this
                simpa using this
              have HX0 := hid hx0; have HY1 := hid hy1
              have t1 : decide ((0 : Int) < (x : Int)) = false := by simp [hx0]
              have t2 : ((x : Int) == 0) = true := by simp [hx0]
              have t3 : (0 : Int) ≤ (x : Int) + y := by omega
              clear hx0 hy1 hc1 hxy1
              go_wp2_with (first | (go_at_call_of 79 (Value.int .i64 (x : Int)); refine (G1.out _).mono ?_; rintro e w1 ⟨rfl, rfl⟩) | (go_at_call 79; refine (G2.out _).mono ?_; rintro e w1 ⟨rfl, rfl⟩))
              have hB := HB.out
              obtain ⟨_, r0, r1, r2, f0, f1, f2⟩ := id hB
              refine wp_loop_rounds 1 ?_
              rw [rounds_succ]
              go_wp2_with fail
              refine bodyPost_ret (res_A31 (e := 2) rfl Try.underlying25 (by kernel_rfl) rfl (by (repeat (first | with_reducible assumption | with_reducible exact Arr.box (by assumption) | with_reducible exact Box.new _ _ _ _ _ _ | with_reducible exact Arr.new _ _ _ _ _ _ | with_reducible refine Arr.drew ?_ | with_reducible refine Arr.drewN ?_ _ | with_reducible refine Arr.store4 ?_ | with_reducible refine Arr.alloc ?_ _ | with_reducible refine Box.drew ?_ | with_reducible refine Box.drewN ?_ _ | with_reducible refine Box.alloc ?_ _ | with_reducible refine Arr.next ?_ (by assumption) | with_reducible refine Box.next ?_ (by assumption) | refine Arr.oth ?_ (by first | (simp; done) | omega | (simp; omega)) _ | refine Box.oth ?_ (by first | (simp; done) | omega | (simp; omega)) _ | with_reducible exact Arr3.box (by assumption) | with_reducible exact Box3.new _ _ _ _ _ | with_reducible exact Arr3.new _ _ _ _ _ | with_reducible refine Arr3.drew ?_ | with_reducible refine Arr3.drewN ?_ _ | with_reducible refine Arr3.store3 ?_ | with_reducible refine Arr3.alloc ?_ _ | with_reducible refine Box3.drew ?_ | with_reducible refine Box3.drewN ?_ _ | with_reducible refine Box3.alloc ?_ _ | with_reducible refine Arr3.next ?_ (by assumption) | with_reducible refine Box3.next ?_ (by assumption) | refine Arr3.oth ?_ (by first | (simp; done) | omega | (simp; omega)) _ | refine Box3.oth ?_ (by first | (simp; done) | omega | (simp; omega)) _)))) rfl ?_
              have hx0 := HX0.out; have hy1 := HY1.out
              refine ⟨chg (a, b, c) x (-1) y 0, ret_F3 HVe.out.symm ?_ ?_, ⟨⟨_, _, _, _, by rw [hx0, hy1]; simp, rfl⟩, HC2.out, ⟨HPV.out, ?_⟩, ?_⟩, by have hU := HU.out; (repeat' (first | with_reducible exact Below.refl _ _ | with_reducible assumption | with_reducible refine gr_alloc ?_ _ | with_reducible refine gr_drew ?_ | with_reducible refine gr_drewN ?_ _ | with_reducible refine gr_trans ?_ (by assumption) | with_reducible refine gr_set ?_ ?_ _ | (simp; done) | omega | (simp; omega)))⟩
              · subst hx0 hy1
                have z1 : wrap64 (-b) = -b := wr_in (by omega)
                have z0 : wrap64 (0 : Int) = 0 := wr_in (by omega)
                simp [chg, z0, z1]
              · subst hx0 hy1
                simp [chg]
              · have h1 := HVe.out
                have h2 := HVb.out
                show val (a, b, c) x y ≤ 12000000
                omega
              · rw [hx0, hy1]
                simp [chg]; omega
            · obtain ⟨k0, hk0, v0, hkv⟩ := inv_small (x := (x : Int)) (y := y) (by omega) hc1
              have hxp : 1 ≤ (x : Int) := by omega
              have t1 : decide ((0 : Int) < (x : Int)) = true := by simp; omega
              have t2 : ((x : Int) == 0) = false := by simp; omega
              have HKV := hid hkv
              have HHB := HB.out
              obtain ⟨_, r0, r1, r2, f0, f1, f2⟩ := id HHB
              clear hc1 hxy1 hkv hx0
              go_wp2_with (first | (go_at_call_of 79 (Value.int .i64 (x : Int)); refine (G1.out _).mono ?_; rintro e w1 ⟨rfl, rfl⟩) | (go_at_call 79; refine (G2.out _).mono ?_; rintro e w1 ⟨rfl, rfl⟩))
              go_loop [11] (fun s => ∃ k : Nat, s = .int .i64 ((k : Int)) ∧ k ≤ k0) (fun s => k0 + 1 - (intOf s).toNat)
              case atStart => exact ⟨0, rfl, by omega⟩
              case round =>
                obtain ⟨k, rfl, hk⟩ := hrel
                have hkx : (k : Int) < x := by omega
                have hky := mulb (x := (k : Int)) (y := y) (A := 52) (B := 52) (by omega) (by omega)
                have hky0 : 0 ≤ (k : Int) * y := Int.mul_nonneg (by omega) (by omega)
                have hdm := Int.mul_ediv_add_emod (1 + (k : Int) * y) x
                have hm0 := Int.emod_nonneg (1 + (k : Int) * y) (b := x) (by omega)
                have hm1 := Int.emod_lt_of_pos (1 + (k : Int) * y) (b := x) (by omega)
                have hv0 := Int.ediv_nonneg (a := 1 + (k : Int) * y) (b := x) (by omega) (by omega)
                have hv1 := Int.ediv_le_self (a := 1 + (k : Int) * y) x (by omega)
                have htm : (1 + (k : Int) * y).tmod x = (1 + (k : Int) * y) % x := Int.tmod_eq_emod_of_nonneg (by omega)
                have htd : (1 + (k : Int) * y).tdiv x = (1 + (k : Int) * y) / x := Int.tdiv_eq_ediv_of_nonneg (by omega)
                have hlast2 : k = k0 → (1 + (k : Int) * y) % x = 0 := fun e => by
                  rw [e, HKV.out]; exact Int.mul_emod_right _ _
                obtain ⟨K1, hK1⟩ : ∃ K, K = (k : Int) * y := ⟨_, rfl⟩
                rw [← hK1] at hky hky0 hdm hm0 hm1 hv0 hv1 htm htd hlast2
                have hK1' := hK1.symm
                have HK1 := hid hK1
                clear hK1
                generalize hMM : (1 + K1) % (x : Int) = M at *
                generalize hVV : (1 + K1) / (x : Int) = V at *
                have HDM := hid hdm; have HL2 := hid hlast2
                obtain ⟨ky1, ky2⟩ := hky
                have ky2' : K1 ≤ 2704 := by omega
                have hv1' : V ≤ 2705 := by omega
                have hxn : ¬ (x : Int) = 0 := by omega
                have hkxy : (k : Int) ≤ (x : Int) + y := by omega
                clear hdm hlast2 ky1 ky2 hv1
                cases hM : (M == 0) with
                | true =>
                  have hM0 : M = 0 := by simpa using hM
                  have hdet : (x : Int) * V - (k : Int) * y = 1 := by
                    have h1 := HDM.out
                    have h2 := HK1.out
                    rw [hM0] at h1
                    omega
                  have HDET := hid hdet
                  have hMid := hid (mid_le (a := a) (b := b) (c := c) (x := x) (k := k) (y := y) (v := V) (by omega) (by omega) (by omega) (by omega) (by omega) (by omega) (by omega))
                  clear hdet hM0
                  go_wp2_with fail
                  refine bodyPost_ret (res_A31 (e := 2) rfl Try.underlying25 (by kernel_rfl) rfl (by (repeat (first | with_reducible assumption | with_reducible exact Arr.box (by assumption) | with_reducible exact Box.new _ _ _ _ _ _ | with_reducible exact Arr.new _ _ _ _ _ _ | with_reducible refine Arr.drew ?_ | with_reducible refine Arr.drewN ?_ _ | with_reducible refine Arr.store4 ?_ | with_reducible refine Arr.alloc ?_ _ | with_reducible refine Box.drew ?_ | with_reducible refine Box.drewN ?_ _ | with_reducible refine Box.alloc ?_ _ | with_reducible refine Arr.next ?_ (by assumption) | with_reducible refine Box.next ?_ (by assumption) | refine Arr.oth ?_ (by first | (simp; done) | omega | (simp; omega)) _ | refine Box.oth ?_ (by first | (simp; done) | omega | (simp; omega)) _ | with_reducible exact Arr3.box (by assumption) | with_reducible exact Box3.new _ _ _ _ _ | with_reducible exact Arr3.new _ _ _ _ _ | with_reducible refine Arr3.drew ?_ | with_reducible refine Arr3.drewN ?_ _ | with_reducible refine Arr3.store3 ?_ | with_reducible refine Arr3.alloc ?_ _ | with_reducible refine Box3.drew ?_ | with_reducible refine Box3.drewN ?_ _ | with_reducible refine Box3.alloc ?_ _ | with_reducible refine Arr3.next ?_ (by assumption) | with_reducible refine Box3.next ?_ (by assumption) | refine Arr3.oth ?_ (by first | (simp; done) | omega | (simp; omega)) _ | refine Box3.oth ?_ (by first | (simp; done) | omega | (simp; omega)) _)))) rfl ?_
                  obtain ⟨g3, g4⟩ := hMid.out
                  refine ⟨chg (a, b, c) x k y V, ret_F3 HVe.out.symm ?_ ?_, ⟨⟨_, _, _, _, HDET.out, rfl⟩, HC2.out, ⟨HPV.out, ?_⟩, g3⟩, by have hU := HU.out; (repeat' (first | with_reducible exact Below.refl _ _ | with_reducible assumption | with_reducible refine gr_alloc ?_ _ | with_reducible refine gr_drew ?_ | with_reducible refine gr_drewN ?_ _ | with_reducible refine gr_trans ?_ (by assumption) | with_reducible refine gr_set ?_ ?_ _ | (simp; done) | omega | (simp; omega)))⟩
                  · refine wr_to ?_ (by omega)
                    simp only [chg, wr_al, wr_ar, wr_ml, wr_mr, Int.mul_comm (y : Int) (k : Int)]
                  · refine wr_to ?_ (by omega)
                    simp only [chg, wr_al, wr_ar, wr_ml]
                  · have h1 := HVe.out
                    have h2 := HVb.out
                    show val (a, b, c) x y ≤ 12000000
                    omega
                | false =>
                  have hM0 : M ≠ 0 := by simpa using hM
                  have hne : k ≠ k0 := fun e => hM0 (HL2.out e)
                  have HNE := hid hne
                  clear hne hM0
                  go_wp2_with fail
                  go_round
                  case rel => exact ⟨k + 1, rfl, by have := HNE.out; omega⟩
                  case measure => have := HNE.out; simp [intOf]; omega
      · have hz3 := hnz hxz
        go_wp2_with fail
        go_roundw
        case rel => exact ⟨z + 1, rfl, by omega, hz3, hA, hB, hU⟩
        case measure => simp [intOf]; omega

end Go.Proofs.Ytehbkmohfipmgaa
