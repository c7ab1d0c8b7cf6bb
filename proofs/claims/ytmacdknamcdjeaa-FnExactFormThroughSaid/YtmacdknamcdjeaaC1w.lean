/- Chapter 1: forms through values. -/
import Derived.Test.YtmacdknamcdjeaaC1v
import Derived.Test.YtmacdknamcdjeaaList
namespace Go.Proofs.Ytmacdknamcdjeaa
open Go.RowKit

def isT (a b c d : Int) : Bool := rng (-10000) 10000 a && rng (-10000) 10000 b && rng (-10000) 10000 c && rng (-10000) 10000 d
theorem isT_t {a b c d : Int} (h : isT a b c d = true) : (-10000 ≤ a ∧ a ≤ 10000) ∧ (-10000 ≤ b ∧ b ≤ 10000) ∧ (-10000 ≤ c ∧ c ≤ 10000) ∧ (-10000 ≤ d ∧ d ≤ 10000) := by
  simp only [isT, Bool.and_eq_true] at h
  exact ⟨rng_t h.1.1.1, rng_t h.1.1.2, rng_t h.1.2, rng_t h.2⟩
theorem isT_eq {a b c d : Int} {r : Bool} (h : r = true ↔ (-10000 ≤ a ∧ a ≤ 10000) ∧ (-10000 ≤ b ∧ b ≤ 10000) ∧ (-10000 ≤ c ∧ c ≤ 10000) ∧ (-10000 ≤ d ∧ d ≤ 10000)) : r = isT a b c d := by
  rw [Bool.eq_iff_iff, h]
  exact ⟨fun ⟨p, q, r, s⟩ => by simp [isT, rng_mk p.1 p.2, rng_mk q.1 q.2, rng_mk r.1 r.2, rng_mk s.1 s.2], isT_t⟩
/-- The code of four values. -/
def thc (a b c d : Int) : Int := if isT a b c d then (if whole a b c d then (if isF a ((c - d - 2 * b) / 2) ((c + d - 2 * a) / 2) b then 0 else 3) else 5) else 2
def thB (n : Nat) (g : Nat → Int) : Int := if n = 4 then thc (g 0) (g 1) (g 2) (g 3) else 2
def thn (n : Nat) (g : Nat → Int) (x : Int) : Int := if0 (thB n g) x

set_option maxHeartbeats 400000 in
theorem allWithinT_any (k : Nat) (a b c d : Int) (w : World) (c0 : w.cell? ⟨k, 0, none⟩ = some (.int .i64 a)) (c1 : w.cell? ⟨k, 1, none⟩ = some (.int .i64 b)) (c2 : w.cell? ⟨k, 2, none⟩ = some (.int .i64 c)) (c3 : w.cell? ⟨k, 3, none⟩ = some (.int .i64 d)) (cap : Nat) (_ : 4 ≤ cap) (_ : cap ≤ 9223372036854775807) :
    Calls Try.prog 76 #[.slice (some ⟨k, 0, none⟩) 4 cap, .int .i64 10000] w fun e w' => e = .returned (.bool (isT a b c d)) ∧ w = w' := by
  go_enter Try.func76, Try.ntmps76
  go_wp2
  go_rounds 5
  all_goals (go_ret; exact ⟨ret_bool (by apply isT_eq; go_light; simp at *; try omega), rfl⟩)

set_option maxRecDepth 100000 in
set_option maxHeartbeats 2000000 in
theorem iFT_any (v : Value) (n : Nat) (g : Nat → Int) (w : World) (hv : Rd w v n g) :
    Calls Try.prog 23 #[v] w fun e w' => e = .returned (.tuple #[.agg #[.int .i64 (thn n g (g 0)), .int .i64 (thn n g ((g 2 - g 3 - 2 * g 1) / 2)), .int .i64 (thn n g ((g 2 + g 3 - 2 * g 0) / 2)), .int .i64 (thn n g (g 1))], .int .i64 (thB n g)]) ∧ Below w.heap.size w w' := by
  have R0 := Arr.new w 0 0 0 0 23
  have U0 := gr_alloc (Below.refl w.heap.size w) (.cells #[.int .i64 0, .int .i64 0, .int .i64 0, .int .i64 0] 23)
  have hv0 := hv.next U0
  by_cases h4 : n = 4
  · subst h4
    rcases hv0 with ⟨_, h⟩ | ⟨b, cap, rfl, hc1, hm1, hb1, hcell⟩
    · omega
    obtain ⟨a, ha⟩ : ∃ a, a = g 0 := ⟨_, rfl⟩
    obtain ⟨b', hb⟩ : ∃ a, a = g 1 := ⟨_, rfl⟩
    obtain ⟨c, hc⟩ : ∃ a, a = g 2 := ⟨_, rfl⟩
    obtain ⟨d, hd⟩ : ∃ a, a = g 3 := ⟨_, rfl⟩
    have c0 := hcell 0 (by omega); have c1 := hcell 1 (by omega); have c2 := hcell 2 (by omega); have c3 := hcell 3 (by omega)
    simp only [thn, thB, if_true]
    rw [← ha] at c0 ⊢; rw [← hb] at c1 ⊢; rw [← hc] at c2 ⊢; rw [← hd] at c3 ⊢
    clear ha hb hc hd hcell hv g
    unfold maxLen at hm1
    have har := arrayAt4 b cap (w.alloc (.cells #[.int .i64 0, .int .i64 0, .int .i64 0, .int .i64 0] 23))
    go_enter Try.func23, Try.ntmps23
    go_wp2_with fail
    generalize w.alloc (.cells #[.int .i64 0, .int .i64 0, .int .i64 0, .int .i64 0] 23) = W0 at R0 U0 c0 c1 c2 c3 har ⊢
    refine (allWithinT_any b a b' c d _ c0 c1 c2 c3 cap hc1 hm1).mono ?_
    rintro e w1 ⟨rfl, rfl⟩
    by_cases ht : isT a b' c d = true
    · obtain ⟨ha, hb, hc, hd⟩ := isT_t ht
      have HF := hid fun W => iFwv_any a b' c d W (by omega) (by omega) (by omega) (by omega)
      clear ha hb hc hd
      go_wp2_with fail
      refine (HF.out _).mono ?_
      rintro e w2 ⟨rfl, hb2⟩
      have R2 := R0.next hb2
      have U2 := gr_trans U0 hb2
      clear c0 c1 c2 c3 har R0 U0
      by_cases hw : whole a b' c d = true
      · simp only [hw, ifB, if_true]
        have X2 := Arr.new w2 a ((c - d - 2 * b') / 2) ((c + d - 2 * a) / 2) b' 23
        have R3 := R2.alloc (.cells #[.int .i64 a, .int .i64 ((c - d - 2 * b') / 2), .int .i64 ((c + d - 2 * a) / 2), .int .i64 b'] 23)
        have U3 := gr_alloc U2 (.cells #[.int .i64 a, .int .i64 ((c - d - 2 * b') / 2), .int .i64 ((c + d - 2 * a) / 2), .int .i64 b'] 23)
        generalize hB : (c - d - 2 * b') / 2 = B at X2 R3 U3 ⊢
        generalize hC : (c + d - 2 * a) / 2 = C at X2 R3 U3 ⊢
        have kk : thc a b' c d = if isF a B C b' then 0 else 3 := by simp [thc, ht, hw, hB, hC]
        have KK := hid kk
        have HB := hid hB; have HC := hid hC
        clear kk hB hC R2 U2
        go_wp2_with fail
        refine (iLimit_any _ _ _ _ _).mono ?_
        rintro e w4 ⟨rfl, hb4⟩
        have R4 := R3.next hb4
        have U4 := gr_trans U3 hb4
        obtain ⟨_, r0, r1, r2, r3, f0, f1, f2, f3⟩ := id R4
        by_cases hf : isF a B C b' = true
        · have k0 : thc a b' c d = 0 := by simp [KK.out, hf]
          have K0 := hid k0
          clear k0
          simp only [hf, ifF, if_true]
          go_wp2
          refine bodyPost_ret (res_A (e := 2) rfl Try.underlying23 (by kernel_rfl) rfl (by (repeat (first | with_reducible assumption | with_reducible exact Arr.box (by assumption) | with_reducible apply Arr.drew | with_reducible apply Arr.drewN | with_reducible refine Arr.store4 ?_ | with_reducible apply Arr.alloc | with_reducible refine Box.drew ?_ | with_reducible refine Box.drewN ?_ _ | with_reducible refine Box.alloc ?_ _ | refine Arr.oth ?_ (by first | (simp; done) | omega | (simp; omega)) _ | refine Box.oth ?_ (by first | (simp; done) | omega | (simp; omega)) _)))) rfl ?_
          have k0 := K0.out
          exact ⟨ret_form (by simp [if0, k0]) (by simp [if0, k0, HB.out]) (by simp [if0, k0, HC.out]) (by simp [if0, k0]) (by simp [k0]), by (repeat' (first | with_reducible exact Below.refl _ _ | with_reducible assumption | with_reducible refine gr_alloc ?_ _ | with_reducible refine gr_drew ?_ | with_reducible refine gr_drewN ?_ _ | with_reducible refine gr_trans ?_ (by assumption) | with_reducible refine gr_set ?_ ?_ _ | (simp; done) | omega | (simp; omega)))⟩
        · have hf' : isF a B C b' = false := by simpa using hf
          have k0 : thc a b' c d = 3 := by simp [KK.out, hf']
          have K0 := hid k0
          clear k0 hf
          simp only [hf', ifF, Bool.false_eq_true, if_false]
          go_wp2
          refine bodyPost_ret (res_A (e := 2) rfl Try.underlying23 (by kernel_rfl) rfl (by (repeat (first | with_reducible assumption | with_reducible exact Arr.box (by assumption) | with_reducible apply Arr.drew | with_reducible apply Arr.drewN | with_reducible refine Arr.store4 ?_ | with_reducible apply Arr.alloc | with_reducible refine Box.drew ?_ | with_reducible refine Box.drewN ?_ _ | with_reducible refine Box.alloc ?_ _ | refine Arr.oth ?_ (by first | (simp; done) | omega | (simp; omega)) _ | refine Box.oth ?_ (by first | (simp; done) | omega | (simp; omega)) _)))) rfl ?_
          have k0 := K0.out
          exact ⟨ret_form (by simp [if0, k0]) (by simp [if0, k0]) (by simp [if0, k0]) (by simp [if0, k0]) (by simp [k0]), by (repeat' (first | with_reducible exact Below.refl _ _ | with_reducible assumption | with_reducible refine gr_alloc ?_ _ | with_reducible refine gr_drew ?_ | with_reducible refine gr_drewN ?_ _ | with_reducible refine gr_trans ?_ (by assumption) | with_reducible refine gr_set ?_ ?_ _ | (simp; done) | omega | (simp; omega)))⟩
      · have hw' : whole a b' c d = false := by simpa using hw
        have k0 : thc a b' c d = 5 := by simp [thc, ht, hw']
        have K0 := hid k0
        clear k0 hw
        simp only [hw', ifB, Bool.false_eq_true, if_false]
        obtain ⟨_, r0, r1, r2, r3, f0, f1, f2, f3⟩ := id R2
        go_wp2
        refine bodyPost_ret (res_A (e := 2) rfl Try.underlying23 (by kernel_rfl) rfl (by (repeat (first | with_reducible assumption | with_reducible exact Arr.box (by assumption) | with_reducible apply Arr.drew | with_reducible apply Arr.drewN | with_reducible refine Arr.store4 ?_ | with_reducible apply Arr.alloc | with_reducible refine Box.drew ?_ | with_reducible refine Box.drewN ?_ _ | with_reducible refine Box.alloc ?_ _ | refine Arr.oth ?_ (by first | (simp; done) | omega | (simp; omega)) _ | refine Box.oth ?_ (by first | (simp; done) | omega | (simp; omega)) _)))) rfl ?_
        have k0 := K0.out
        exact ⟨ret_form (by simp [if0, k0]) (by simp [if0, k0]) (by simp [if0, k0]) (by simp [if0, k0]) (by simp [k0]), by (repeat' (first | with_reducible exact Below.refl _ _ | with_reducible assumption | with_reducible refine gr_alloc ?_ _ | with_reducible refine gr_drew ?_ | with_reducible refine gr_drewN ?_ _ | with_reducible refine gr_trans ?_ (by assumption) | with_reducible refine gr_set ?_ ?_ _ | (simp; done) | omega | (simp; omega)))⟩
    · have ht' : isT a b' c d = false := by simpa using ht
      have k0 : thc a b' c d = 2 := by simp [thc, ht']
      have K0 := hid k0
      clear k0 ht c0 c1 c2 c3 har
      obtain ⟨_, r0, r1, r2, r3, f0, f1, f2, f3⟩ := id R0
      go_wp2
      refine bodyPost_ret (res_A (e := 2) rfl Try.underlying23 (by kernel_rfl) rfl (by (repeat (first | with_reducible assumption | with_reducible exact Arr.box (by assumption) | with_reducible apply Arr.drew | with_reducible apply Arr.drewN | with_reducible refine Arr.store4 ?_ | with_reducible apply Arr.alloc | with_reducible refine Box.drew ?_ | with_reducible refine Box.drewN ?_ _ | with_reducible refine Box.alloc ?_ _ | refine Arr.oth ?_ (by first | (simp; done) | omega | (simp; omega)) _ | refine Box.oth ?_ (by first | (simp; done) | omega | (simp; omega)) _)))) rfl ?_
      have k0 := K0.out
      exact ⟨ret_form (by simp [if0, k0]) (by simp [if0, k0]) (by simp [if0, k0]) (by simp [if0, k0]) (by simp [k0]), by (repeat' (first | with_reducible exact Below.refl _ _ | with_reducible assumption | with_reducible refine gr_alloc ?_ _ | with_reducible refine gr_drew ?_ | with_reducible refine gr_drewN ?_ _ | with_reducible refine gr_trans ?_ (by assumption) | with_reducible refine gr_set ?_ ?_ _ | (simp; done) | omega | (simp; omega)))⟩
  · have k0 : thB n g = 2 := by simp [thB, h4]
    have K0 := hid k0
    have h4' : ((n : Int) != 4) = true := by simpa using (by omega : ¬ (n : Int) = 4)
    have hlen : ∃ a' cap', v = .slice a' n cap' := by
      rcases hv with ⟨rfl, rfl⟩ | ⟨b', cap', rfl, _⟩
      · exact ⟨_, _, rfl⟩
      · exact ⟨_, _, rfl⟩
    obtain ⟨a', cap', rfl⟩ := hlen
    obtain ⟨_, r0, r1, r2, r3, f0, f1, f2, f3⟩ := id R0
    clear k0 h4 hv hv0
    go_enter Try.func23, Try.ntmps23
    go_wp2
    refine bodyPost_ret (res_A (e := 2) rfl Try.underlying23 (by kernel_rfl) rfl (by (repeat (first | with_reducible assumption | with_reducible exact Arr.box (by assumption) | with_reducible apply Arr.drew | with_reducible apply Arr.drewN | with_reducible refine Arr.store4 ?_ | with_reducible apply Arr.alloc | with_reducible refine Box.drew ?_ | with_reducible refine Box.drewN ?_ _ | with_reducible refine Box.alloc ?_ _ | refine Arr.oth ?_ (by first | (simp; done) | omega | (simp; omega)) _ | refine Box.oth ?_ (by first | (simp; done) | omega | (simp; omega)) _)))) rfl ?_
    exact ⟨ret_form (by simp [thn, K0.out, if0]) (by simp [thn, K0.out, if0]) (by simp [thn, K0.out, if0]) (by simp [thn, K0.out, if0]) (by simp [K0.out]), by (repeat' (first | with_reducible exact Below.refl _ _ | with_reducible assumption | with_reducible refine gr_alloc ?_ _ | with_reducible refine gr_drew ?_ | with_reducible refine gr_drewN ?_ _ | with_reducible refine gr_trans ?_ (by assumption) | with_reducible refine gr_set ?_ ?_ _ | (simp; done) | omega | (simp; omega)))⟩

set_option maxRecDepth 100000 in
set_option maxHeartbeats 2000000 in
theorem sFT_any (v : Value) (n : Nat) (g : Nat → Int) (w : World) (hv : Rd w v n g) :
    Calls Try.prog 21 #[v] w fun e w' => e = .returned (.tuple #[.agg #[.int .i64 (thn n g (g 0)), .int .i64 (thn n g ((g 2 - g 3 - 2 * g 1) / 2)), .int .i64 (thn n g ((g 2 + g 3 - 2 * g 0) / 2)), .int .i64 (thn n g (g 1))], .int .i64 (thB n g)]) ∧ Below w.heap.size w w' := by
  have R0 := Arr.new w 0 0 0 0 23
  have U0 := gr_alloc (Below.refl w.heap.size w) (.cells #[.int .i64 0, .int .i64 0, .int .i64 0, .int .i64 0] 23)
  have hv0 := hv.next U0
  by_cases h4 : n = 4
  · subst h4
    rcases hv0 with ⟨_, h⟩ | ⟨b, cap, rfl, hc1, hm1, hb1, hcell⟩
    · omega
    obtain ⟨a, ha⟩ : ∃ a, a = g 0 := ⟨_, rfl⟩
    obtain ⟨b', hb⟩ : ∃ a, a = g 1 := ⟨_, rfl⟩
    obtain ⟨c, hc⟩ : ∃ a, a = g 2 := ⟨_, rfl⟩
    obtain ⟨d, hd⟩ : ∃ a, a = g 3 := ⟨_, rfl⟩
    have c0 := hcell 0 (by omega); have c1 := hcell 1 (by omega); have c2 := hcell 2 (by omega); have c3 := hcell 3 (by omega)
    simp only [thn, thB, if_true]
    rw [← ha] at c0 ⊢; rw [← hb] at c1 ⊢; rw [← hc] at c2 ⊢; rw [← hd] at c3 ⊢
    clear ha hb hc hd hcell hv g
    unfold maxLen at hm1
    have hl := R0.lt
    obtain ⟨_, r0, r1, r2, r3, f0, f1, f2, f3⟩ := id R0
    go_enter Try.func21, Try.ntmps21
    go_wp2_with fail
    generalize w.alloc (.cells #[.int .i64 0, .int .i64 0, .int .i64 0, .int .i64 0] 23) = W0 at R0 U0 c0 c1 c2 c3 hl r0 r1 r2 r3 f0 f1 f2 f3 hb1 ⊢
    refine wp_loop_rounds 5 ?_
    by_cases t0 : rng (-10000) 10000 a = true
    · rw [rounds_succ]; go_wp2_with (go_at_call 75; refine (l01In_any _ _ _ _).mono ?_; rintro e w2 ⟨rfl, rfl⟩)
      by_cases t1 : rng (-10000) 10000 b' = true
      · rw [rounds_succ]; go_wp2_with (go_at_call 75; refine (l01In_any _ _ _ _).mono ?_; rintro e w2 ⟨rfl, rfl⟩)
        by_cases t2 : rng (-10000) 10000 c = true
        · rw [rounds_succ]; go_wp2_with (go_at_call 75; refine (l01In_any _ _ _ _).mono ?_; rintro e w2 ⟨rfl, rfl⟩)
          by_cases t3 : rng (-10000) 10000 d = true
          · rw [rounds_succ]; go_wp2_with (go_at_call 75; refine (l01In_any _ _ _ _).mono ?_; rintro e w2 ⟨rfl, rfl⟩)
            have ht : isT a b' c d = true := by simp [isT, t0, t1, t2, t3]
            rw [rounds_succ]
            obtain ⟨⟨ha1, ha2⟩, ⟨hb1', hb2⟩, ⟨hc1', hc2⟩, ⟨hd1, hd2⟩⟩ := isT_t ht
            obtain ⟨S, hS⟩ : ∃ S, S = c - a - b' := ⟨_, rfl⟩
            obtain ⟨G, hG⟩ : ∃ G, G = d - a + b' := ⟨_, rfl⟩
            obtain ⟨X, hX⟩ : ∃ X, X = S + G := ⟨_, rfl⟩
            obtain ⟨Y, hY⟩ : ∃ Y, Y = S - G := ⟨_, rfl⟩
            have eX : X = c + d - 2 * a := by omega
            have eY : Y = c - d - 2 * b' := by omega
            have bS1 : -100000 ≤ S := by omega
            have bS2 : S ≤ 100000 := by omega
            have bG1 : -100000 ≤ G := by omega
            have bG2 : G ≤ 100000 := by omega
            have bX1 : -100000 ≤ X := by omega
            have bX2 : X ≤ 100000 := by omega
            have bY1 : -100000 ≤ Y := by omega
            have bY2 : Y ≤ 100000 := by omega
            have hwe : whole a b' c d = (X % 2 == 0) := by
              rw [whole, ← eX, ← eY, Bool.eq_iff_iff]; simp; omega
            have HWE := hid hwe; have HEX := hid eX; have HEY := hid eY
            have eX' := hX.symm; have eY' := hY.symm
            have wq1 : IntKind.i64.wrap (c - a) = c - a := i64w (by omega)
            have wq2 : IntKind.i64.wrap (c - a - b') = S := by rw [hS]; exact i64w (by omega)
            have wq3 : IntKind.i64.wrap (d - a) = d - a := i64w (by omega)
            have wq4 : IntKind.i64.wrap (d - a + b') = G := by rw [hG]; exact i64w (by omega)
            by_cases hx : X % 2 = 0
            · have p1 := even_t (x := X) hx
              have q1 := half_e (x := X) (y := X / 2) (by omega)
              have q2 := half_e (x := Y) (y := Y / 2) (by omega)
              have hw : whole a b' c d = true := by rw [hwe]; simpa using hx
              have kk : thc a b' c d = if isF a (Y / 2) (X / 2) b' then 0 else 3 := by simp only [thc, ht, hw, if_true, ← eX, ← eY]
              obtain ⟨B, hB⟩ : ∃ B, B = Y / 2 := ⟨_, rfl⟩
              obtain ⟨C, hC⟩ : ∃ C, C = X / 2 := ⟨_, rfl⟩
              rw [← hB, ← hC] at kk
              rw [← hC] at q1
              rw [← hB] at q2
              have bB1 : -100000 ≤ B := by omega
              have bB2 : B ≤ 100000 := by omega
              have bC1 : -100000 ≤ C := by omega
              have bC2 : C ≤ 100000 := by omega
              have KK := hid kk; have HB := hid hB; have HC := hid hC
              clear hS hG hX hY eX eY hwe hx hw kk hB hC ht t0 t1 t2 t3 ha1 ha2 hb1' hb2 hc1' hc2 hd1 hd2
              go_wp2_with fail
              go_quiet (fail)
              have R1 := R0.drewN nq
              have U1 := gr_drewN U0 nq
              have d2 : (W0.drewN nq).cell? ⟨b, 2, none⟩ = some (.int .i64 c) := c2
              have d3 : (W0.drewN nq).cell? ⟨b, 3, none⟩ = some (.int .i64 d) := c3
              clear c0 c1 c2 c3 r0 r1 r2 r3 f0 f1 f2 f3 hl R0 U0 hb1
              generalize W0.drewN nq = W1 at R1 U1 d2 d3 ⊢
              go_wp2_with fail
              go_quiet (fail)
              have R2 := R1.drewN nq
              have U2 := gr_drewN U1 nq
              clear wq1 wq2 wq3 wq4 R1 U1 d2 d3
              generalize W1.drewN nq = W2 at R2 U2 ⊢
              have X2 := Arr.new W2 a B C b' 23
              have R3 := R2.alloc (.cells #[.int .i64 a, .int .i64 B, .int .i64 C, .int .i64 b'] 23)
              have U3 := gr_alloc U2 (.cells #[.int .i64 a, .int .i64 B, .int .i64 C, .int .i64 b'] 23)
              have hl2 := R2.lt
              clear R2 U2
              go_wp2_with fail
              refine (sFits_any _ _ _ _ _).mono ?_
              rintro e w4 ⟨rfl, hb4⟩
              have R4 := R3.next hb4
              have X4 := X2.next hb4
              have U4 := gr_trans U3 hb4
              clear R3 X2 U3
              obtain ⟨_, x0, x1, x2, x3, _⟩ := id X4
              obtain ⟨_, r0, r1, r2, r3, f0, f1, f2, f3⟩ := id R4
              by_cases hf : isF a B C b' = true
              · have k0 : thc a b' c d = 0 := by simp [KK.out, hf]
                have K0 := hid k0
                clear k0
                go_wp2
                refine bodyPost_ret (res_A (e := 2) rfl Try.underlying23 (by kernel_rfl) rfl (by (repeat (first | with_reducible assumption | with_reducible exact Arr.box (by assumption) | with_reducible apply Arr.drew | with_reducible apply Arr.drewN | with_reducible refine Arr.store4 ?_ | with_reducible apply Arr.alloc | with_reducible refine Box.drew ?_ | with_reducible refine Box.drewN ?_ _ | with_reducible refine Box.alloc ?_ _ | refine Arr.oth ?_ (by first | (simp; done) | omega | (simp; omega)) _ | refine Box.oth ?_ (by first | (simp; done) | omega | (simp; omega)) _)))) rfl ?_
                have k0 := K0.out
                exact ⟨ret_form (by simp [if0, k0]) (by simp [if0, k0, HB.out, HEY.out]) (by simp [if0, k0, HC.out, HEX.out]) (by simp [if0, k0]) (by simp [k0]), by (repeat' (first | with_reducible exact Below.refl _ _ | with_reducible assumption | with_reducible refine gr_alloc ?_ _ | with_reducible refine gr_drew ?_ | with_reducible refine gr_drewN ?_ _ | with_reducible refine gr_trans ?_ (by assumption) | with_reducible refine gr_set ?_ ?_ _ | (simp; done) | omega | (simp; omega)))⟩
              · have hf' : isF a B C b' = false := by simpa using hf
                have k0 : thc a b' c d = 3 := by simp [KK.out, hf']
                have K0 := hid k0
                clear k0 hf
                go_wp2
                refine bodyPost_ret (res_A (e := 2) rfl Try.underlying23 (by kernel_rfl) rfl (by (repeat (first | with_reducible assumption | with_reducible exact Arr.box (by assumption) | with_reducible apply Arr.drew | with_reducible apply Arr.drewN | with_reducible refine Arr.store4 ?_ | with_reducible apply Arr.alloc | with_reducible refine Box.drew ?_ | with_reducible refine Box.drewN ?_ _ | with_reducible refine Box.alloc ?_ _ | refine Arr.oth ?_ (by first | (simp; done) | omega | (simp; omega)) _ | refine Box.oth ?_ (by first | (simp; done) | omega | (simp; omega)) _)))) rfl ?_
                have k0 := K0.out
                exact ⟨ret_form (by simp [if0, k0]) (by simp [if0, k0]) (by simp [if0, k0]) (by simp [if0, k0]) (by simp [k0]), by (repeat' (first | with_reducible exact Below.refl _ _ | with_reducible assumption | with_reducible refine gr_alloc ?_ _ | with_reducible refine gr_drew ?_ | with_reducible refine gr_drewN ?_ _ | with_reducible refine gr_trans ?_ (by assumption) | with_reducible refine gr_set ?_ ?_ _ | (simp; done) | omega | (simp; omega)))⟩
            · have p1 := odd_t (x := X) hx
              have hw' : whole a b' c d = false := by rw [hwe]; simpa using hx
              have k0 : thc a b' c d = 5 := by simp [thc, ht, hw']
              have K0 := hid k0
              clear hS hG hX hY eX eY hwe hx hw' k0 ht t0 t1 t2 t3 ha1 ha2 hb1' hb2 hc1' hc2 hd1 hd2
              go_wp2_with fail
              go_quiet (fail)
              have R1 := R0.drewN nq
              have U1 := gr_drewN U0 nq
              have d2 : (W0.drewN nq).cell? ⟨b, 2, none⟩ = some (.int .i64 c) := c2
              have d3 : (W0.drewN nq).cell? ⟨b, 3, none⟩ = some (.int .i64 d) := c3
              clear c0 c1 c2 c3 r0 r1 r2 r3 f0 f1 f2 f3 hl R0 U0 hb1
              generalize W0.drewN nq = W1 at R1 U1 d2 d3 ⊢
              go_wp2_with fail
              go_quiet (fail)
              have R2 := R1.drewN nq
              have U2 := gr_drewN U1 nq
              clear wq1 wq2 wq3 wq4 R1 U1 d2 d3
              generalize W1.drewN nq = W2 at R2 U2 ⊢
              obtain ⟨_, r0, r1, r2, r3, f0, f1, f2, f3⟩ := id R2
              go_wp2_with fail
              refine bodyPost_ret (res_A (e := 2) rfl Try.underlying23 (by kernel_rfl) rfl (by (repeat (first | with_reducible assumption | with_reducible exact Arr.box (by assumption) | with_reducible apply Arr.drew | with_reducible apply Arr.drewN | with_reducible refine Arr.store4 ?_ | with_reducible apply Arr.alloc | with_reducible refine Box.drew ?_ | with_reducible refine Box.drewN ?_ _ | with_reducible refine Box.alloc ?_ _ | refine Arr.oth ?_ (by first | (simp; done) | omega | (simp; omega)) _ | refine Box.oth ?_ (by first | (simp; done) | omega | (simp; omega)) _)))) rfl ?_
              have k0 := K0.out
              exact ⟨ret_form (by simp [if0, k0]) (by simp [if0, k0]) (by simp [if0, k0]) (by simp [if0, k0]) (by simp [k0]), by (repeat' (first | with_reducible exact Below.refl _ _ | with_reducible assumption | with_reducible refine gr_alloc ?_ _ | with_reducible refine gr_drew ?_ | with_reducible refine gr_drewN ?_ _ | with_reducible refine gr_trans ?_ (by assumption) | with_reducible refine gr_set ?_ ?_ _ | (simp; done) | omega | (simp; omega)))⟩
          · have t3' : rng (-10000) 10000 d = false := by simpa using t3
            clear t3
            rw [rounds_succ]; go_wp2_with (go_at_call 75; refine (l01In_any _ _ _ _).mono ?_; rintro e w2 ⟨rfl, rfl⟩)
            refine bodyPost_ret (res_A (e := 2) rfl Try.underlying23 (by kernel_rfl) rfl (by (repeat (first | with_reducible assumption | with_reducible exact Arr.box (by assumption) | with_reducible apply Arr.drew | with_reducible apply Arr.drewN | with_reducible refine Arr.store4 ?_ | with_reducible apply Arr.alloc | with_reducible refine Box.drew ?_ | with_reducible refine Box.drewN ?_ _ | with_reducible refine Box.alloc ?_ _ | refine Arr.oth ?_ (by first | (simp; done) | omega | (simp; omega)) _ | refine Box.oth ?_ (by first | (simp; done) | omega | (simp; omega)) _)))) rfl ?_
            have k0 : thc a b' c d = 2 := by simp [thc, isT, t3']
            exact ⟨ret_form (by simp [if0, k0]) (by simp [if0, k0]) (by simp [if0, k0]) (by simp [if0, k0]) (by simp [k0]), by (repeat' (first | with_reducible exact Below.refl _ _ | with_reducible assumption | with_reducible refine gr_alloc ?_ _ | with_reducible refine gr_drew ?_ | with_reducible refine gr_drewN ?_ _ | with_reducible refine gr_trans ?_ (by assumption) | with_reducible refine gr_set ?_ ?_ _ | (simp; done) | omega | (simp; omega)))⟩
        · have t2' : rng (-10000) 10000 c = false := by simpa using t2
          clear t2
          rw [rounds_succ]; go_wp2_with (go_at_call 75; refine (l01In_any _ _ _ _).mono ?_; rintro e w2 ⟨rfl, rfl⟩)
          refine bodyPost_ret (res_A (e := 2) rfl Try.underlying23 (by kernel_rfl) rfl (by (repeat (first | with_reducible assumption | with_reducible exact Arr.box (by assumption) | with_reducible apply Arr.drew | with_reducible apply Arr.drewN | with_reducible refine Arr.store4 ?_ | with_reducible apply Arr.alloc | with_reducible refine Box.drew ?_ | with_reducible refine Box.drewN ?_ _ | with_reducible refine Box.alloc ?_ _ | refine Arr.oth ?_ (by first | (simp; done) | omega | (simp; omega)) _ | refine Box.oth ?_ (by first | (simp; done) | omega | (simp; omega)) _)))) rfl ?_
          have k0 : thc a b' c d = 2 := by simp [thc, isT, t2']
          exact ⟨ret_form (by simp [if0, k0]) (by simp [if0, k0]) (by simp [if0, k0]) (by simp [if0, k0]) (by simp [k0]), by (repeat' (first | with_reducible exact Below.refl _ _ | with_reducible assumption | with_reducible refine gr_alloc ?_ _ | with_reducible refine gr_drew ?_ | with_reducible refine gr_drewN ?_ _ | with_reducible refine gr_trans ?_ (by assumption) | with_reducible refine gr_set ?_ ?_ _ | (simp; done) | omega | (simp; omega)))⟩
      · have t1' : rng (-10000) 10000 b' = false := by simpa using t1
        clear t1
        rw [rounds_succ]; go_wp2_with (go_at_call 75; refine (l01In_any _ _ _ _).mono ?_; rintro e w2 ⟨rfl, rfl⟩)
        refine bodyPost_ret (res_A (e := 2) rfl Try.underlying23 (by kernel_rfl) rfl (by (repeat (first | with_reducible assumption | with_reducible exact Arr.box (by assumption) | with_reducible apply Arr.drew | with_reducible apply Arr.drewN | with_reducible refine Arr.store4 ?_ | with_reducible apply Arr.alloc | with_reducible refine Box.drew ?_ | with_reducible refine Box.drewN ?_ _ | with_reducible refine Box.alloc ?_ _ | refine Arr.oth ?_ (by first | (simp; done) | omega | (simp; omega)) _ | refine Box.oth ?_ (by first | (simp; done) | omega | (simp; omega)) _)))) rfl ?_
        have k0 : thc a b' c d = 2 := by simp [thc, isT, t1']
        exact ⟨ret_form (by simp [if0, k0]) (by simp [if0, k0]) (by simp [if0, k0]) (by simp [if0, k0]) (by simp [k0]), by (repeat' (first | with_reducible exact Below.refl _ _ | with_reducible assumption | with_reducible refine gr_alloc ?_ _ | with_reducible refine gr_drew ?_ | with_reducible refine gr_drewN ?_ _ | with_reducible refine gr_trans ?_ (by assumption) | with_reducible refine gr_set ?_ ?_ _ | (simp; done) | omega | (simp; omega)))⟩
    · have t0' : rng (-10000) 10000 a = false := by simpa using t0
      clear t0
      rw [rounds_succ]; go_wp2_with (go_at_call 75; refine (l01In_any _ _ _ _).mono ?_; rintro e w2 ⟨rfl, rfl⟩)
      refine bodyPost_ret (res_A (e := 2) rfl Try.underlying23 (by kernel_rfl) rfl (by (repeat (first | with_reducible assumption | with_reducible exact Arr.box (by assumption) | with_reducible apply Arr.drew | with_reducible apply Arr.drewN | with_reducible refine Arr.store4 ?_ | with_reducible apply Arr.alloc | with_reducible refine Box.drew ?_ | with_reducible refine Box.drewN ?_ _ | with_reducible refine Box.alloc ?_ _ | refine Arr.oth ?_ (by first | (simp; done) | omega | (simp; omega)) _ | refine Box.oth ?_ (by first | (simp; done) | omega | (simp; omega)) _)))) rfl ?_
      have k0 : thc a b' c d = 2 := by simp [thc, isT, t0']
      exact ⟨ret_form (by simp [if0, k0]) (by simp [if0, k0]) (by simp [if0, k0]) (by simp [if0, k0]) (by simp [k0]), by (repeat' (first | with_reducible exact Below.refl _ _ | with_reducible assumption | with_reducible refine gr_alloc ?_ _ | with_reducible refine gr_drew ?_ | with_reducible refine gr_drewN ?_ _ | with_reducible refine gr_trans ?_ (by assumption) | with_reducible refine gr_set ?_ ?_ _ | (simp; done) | omega | (simp; omega)))⟩
  · have k0 : thB n g = 2 := by simp [thB, h4]
    have K0 := hid k0
    have h4' : ((n : Int) != 4) = true := by simpa using (by omega : ¬ (n : Int) = 4)
    have hlen : ∃ a' cap', v = .slice a' n cap' := by
      rcases hv with ⟨rfl, rfl⟩ | ⟨b', cap', rfl, _⟩
      · exact ⟨_, _, rfl⟩
      · exact ⟨_, _, rfl⟩
    obtain ⟨a', cap', rfl⟩ := hlen
    obtain ⟨_, r0, r1, r2, r3, f0, f1, f2, f3⟩ := id R0
    clear k0 h4 hv hv0
    go_enter Try.func21, Try.ntmps21
    go_wp2
    refine bodyPost_ret (res_A (e := 2) rfl Try.underlying23 (by kernel_rfl) rfl (by (repeat (first | with_reducible assumption | with_reducible exact Arr.box (by assumption) | with_reducible apply Arr.drew | with_reducible apply Arr.drewN | with_reducible refine Arr.store4 ?_ | with_reducible apply Arr.alloc | with_reducible refine Box.drew ?_ | with_reducible refine Box.drewN ?_ _ | with_reducible refine Box.alloc ?_ _ | refine Arr.oth ?_ (by first | (simp; done) | omega | (simp; omega)) _ | refine Box.oth ?_ (by first | (simp; done) | omega | (simp; omega)) _)))) rfl ?_
    exact ⟨ret_form (by simp [thn, K0.out, if0]) (by simp [thn, K0.out, if0]) (by simp [thn, K0.out, if0]) (by simp [thn, K0.out, if0]) (by simp [K0.out]), by (repeat' (first | with_reducible exact Below.refl _ _ | with_reducible assumption | with_reducible refine gr_alloc ?_ _ | with_reducible refine gr_drew ?_ | with_reducible refine gr_drewN ?_ _ | with_reducible refine gr_trans ?_ (by assumption) | with_reducible refine gr_set ?_ ?_ _ | (simp; done) | omega | (simp; omega)))⟩

end Go.Proofs.Ytmacdknamcdjeaa
