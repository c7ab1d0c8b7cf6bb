/- Chapter 10: the classes of a discriminant, by the model. -/
import Derived.Test.YtehbkmohfipmgaaBtZg
namespace Go.Proofs.Ytehbkmohfipmgaa
open Go.RowKit

theorem tmod_thd {p q d : Int} : (q * q - d).tmod (4 * p) = 0 ↔ q * q - 4 * p * thd p q d = d := by
  have h := Int.mul_tdiv_add_tmod (q * q - d) (4 * p)
  unfold thd
  omega
/-- The tests of the model. -/
def ck2 (p q r : Int) (g : Bool) : Bool := decide (r < p) || (r == p && decide (q < 0)) || g
theorem rdb_ck {p q r : Int} {g : Bool} : (rdb p q r && g) = !(decide (r < p) || ((r == p) && decide (q < 0)) || !g) := by
  unfold rdb
  rw [Bool.eq_iff_iff]
  simp only [Bool.and_eq_true, Bool.or_eq_true, decide_eq_true_eq, Bool.not_eq_true', Bool.or_eq_false_iff, Bool.and_eq_false_iff, decide_eq_false_iff_not, Bool.not_eq_false', beq_eq_false_iff_ne]
  cases g <;> simp <;> omega

theorem row_skip {B : Nat} {W : World} {v : Value} {A C : List Qd} {x : Qd} {b : Bool} (hb : b = false) (h : RowQ B W v (A ++ C)) : RowQ B W v (A ++ (C ++ if b then [x] else [])) := by
  subst hb; simpa using h
theorem row_take {B : Nat} {W : World} {v : Value} {A C : List Qd} {x : Qd} {b : Bool} (hb : b = true) (h : RowQ B W v (A ++ (C ++ [x]))) : RowQ B W v (A ++ (C ++ if b then [x] else [])) := by
  subst hb; simpa using h

set_option maxRecDepth 100000 in
set_option maxHeartbeats 4000000 in
theorem sClasses_any (d : Int) (w : World) (hd : dcl d = true) : Calls Try.prog 55 #[.int .i64 d] w fun e w' => ∃ v, e = .returned v ∧ RowQ w.heap.size w' v (cls d) ∧ Below w.heap.size w w' := by
  obtain ⟨⟨d1, d2⟩, _⟩ := dcl_t hd
  have HK := hid (fun k h => @Kk.cls d k h)
  have R0 := RowQ.empty w.heap.size w (Nat.le_refl _)
  have U0 := gr_alloc (Below.refl w.heap.size w) (.cells #[] 25)
  go_enter Try.func55, Try.ntmps55
  go_wp2_with fail
  go_loopw [3, 4] (fun v s wr => ∃ (k : Nat) (p : Int), s = .int .i64 p ∧ p = (k : Int) + 1 ∧ 3 * (k : Int) * k ≤ -d ∧ RowQ w.heap.size wr v (cou d k) ∧ Below w.heap.size w wr) (fun _ s _ => (30 - intOf s).toNat)
  case atStart => exact ⟨0, 1, rfl, rfl, by omega, R0, U0⟩
  case round =>
    obtain ⟨k, p, rfl, hp, hk, hR, hU⟩ := hrel
    obtain ⟨wo, hwo⟩ : ∃ wo, wo = wr := ⟨_, rfl⟩
    subst hwo
    have hk25 := k_le hk d1
    have hL := cou_len hk d1
    have HP := hid hp
    have p1 : 1 ≤ p := by omega
    have p2 : p ≤ 26 := by omega
    clear hp
    have b := mulb (x := p) (y := p) (A := 26) (B := 26) (by omega) (by omega)
    obtain ⟨T, hT⟩ : ∃ T, T = 3 * p * p := ⟨_, rfl⟩
    have HT := hid hT
    have t1 : -9000 ≤ 3 * p * p := by rw [Int.mul_assoc]; omega
    have t2 : 3 * p * p ≤ 9000 := by rw [Int.mul_assoc]; omega
    have hw : IntKind.i64.wrap (3 * p * p) = T := by
      rw [hT]
      have := wr_in (x := 3 * p * p) ⟨by omega, by omega⟩
      simpa only [IntWalk.i64_left] using this
    rw [← hT] at t1 t2
    clear b hT
    by_cases hle : T ≤ -d
    · have HR := hid hR; have HU := hid hU; have HKK := hid hk; have HL := hid hL
      clear hR hU hk hL
      go_wp2_with fail
      go_loopw [3, 5] (fun v s wr => ∃ (j : Nat) (q : Int), s = .int .i64 q ∧ q = 1 - p + (j : Int) ∧ j ≤ 2 * (k + 1) ∧ RowQ w.heap.size wr v (cou d k ++ cin d p j) ∧ Below w.heap.size w wr) (fun _ s _ => (30 - intOf s).toNat)
      case atStart => exact ⟨0, 1 - p, rfl, by simp, by omega, by simpa [cin] using HR.out, HU.out⟩
      case round =>
        obtain ⟨j, q, rfl, hq, hj, hR, hU⟩ := hrel
        have HQ := hid hq
        have HP' := HP.out
        have q1 : -26 ≤ q := by omega
        have q2 : q ≤ 27 := by omega
        clear hq HP'
        by_cases hqp : q ≤ p
        · have q3 : q ≤ 26 := by omega
          have hB := thd_bd (p := p) (q := q) (d := d) ⟨p1, p2⟩ ⟨q1, q3⟩ ⟨d1, d2⟩
          have hcl : cin d p (j + 1) = cin d p j ++ (if ckb d p q then [(p, q, thd p q d)] else []) := by rw [HQ.out]; rfl
          have hck : ckb d p q = (decide ((q * q - d).tmod (4 * p) = 0) && (rdb p q (thd p q d) && (cnt3 p q (thd p q d) == 1))) := by
            unfold ckb; congr 1; rw [Bool.eq_iff_iff]; simp only [decide_eq_true_eq]; exact tmod_thd.symm
          have hlen : (cou d k ++ cin d p j).length ≤ 1000000 := by
            rw [List.length_append]
            have := cin_le d p j
            have := HL.out
            omega
          have HR' := hid hR; have HU' := hid hU
          have hcl0 := hcl
          have HCL := hid hcl
          clear hR hU hcl
          have n4 : ¬ 4 * p = 0 := by omega
          obtain ⟨m1, m2⟩ := tmod_in (q * q - d) (4 * p) (by omega)
          obtain ⟨x, hx⟩ : ∃ x, x = q * q := ⟨_, rfl⟩
          have e0 : Hid (thd p q d = (x - d).tdiv (4 * p)) := hid (by rw [hx]; rfl)
          obtain ⟨_, _, _, x1, x2⟩ := id hB
          have HX := hid hx
          rw [← hx] at x1 x2 m1 m2 hck
          have hqq : q * q = x := hx.symm
          obtain ⟨m, hm0⟩ : ∃ m, m = (x - d).tmod (4 * p) := ⟨_, rfl⟩
          rw [← hm0] at hck m1 m2
          have hm1 := hm0.symm
          clear hm0
          cases hm' : (m != 0) with
          | true =>
            have hm : decide (m = 0) = false := by simpa using hm'
            have HM := hid hm
            have HCK := hid hck
            clear hck hx hB hm
            go_wp2_with fail
            exact ⟨⟨j + 1, q + 1, rfl, by rw [HQ.out]; push_cast; omega, by have := HQ.out; have := HP.out; omega, by rw [HCL.out]; exact row_skip (by rw [HCK.out]; simp [HM.out]) HR'.out, by have hU := HU'.out; (repeat' (first | with_reducible exact Below.refl _ _ | with_reducible assumption | with_reducible refine gr_alloc ?_ _ | with_reducible refine gr_drew ?_ | with_reducible refine gr_drewN ?_ _ | with_reducible refine gr_trans ?_ (by assumption) | with_reducible refine gr_set ?_ ?_ _ | (simp; done) | omega | (simp; omega)))⟩, by simp [intOf]; omega⟩
          | false =>
            have hm : decide (m = 0) = true := by simpa using hm'
            have HM := hid hm
            clear hm
            obtain ⟨r0, r1, _, _, _⟩ := hB
            rw [e0.out] at hck hcl0 r0 r1
            obtain ⟨r, hr⟩ : ∃ r, r = (x - d).tdiv (4 * p) := ⟨_, rfl⟩
            have hr' := hr.symm
            rw [hr'] at hck hcl0 r0 r1
            have hg1 := fun W => sGcd_any p q W (by omega) (by omega)
            obtain ⟨g1, g2⟩ := gcd_b (B := 100) (m := p) (n := q) (by omega) (by omega)
            have hg2 := fun W => sGcd_any (Int.gcd p q) r W (by omega) (by omega)
            have hck2 : ckb d p q = (decide (m = 0) && !(decide (r < p) || ((r == p) && decide (q < 0)) || !(((Int.gcd (Int.gcd p q) r : Nat) : Int) == 1))) := by
              rw [hck]; congr 1; exact rdb_ck
            have HCL := hid hcl0
            generalize ((Int.gcd (Int.gcd p q) r : Nat) : Int) = z at hg2 hck2
            generalize (Int.gcd p q : Int) = y at hg1 hg2
            have HCK := hid hck2
            have HG1 := hid hg1; have HG2 := hid hg2
            clear hck hck2 hcl0 hr hx hg1 hg2 g1 g2
            have A2 := Arr3.new wr p q r 25
            have HU2 := hid (gr_alloc HU'.out (.cells #[.int .i64 p, .int .i64 q, .int .i64 r] 25))
            have HR2 := hid (RowQ.next HR'.out (gr_alloc (Below.refl _ _) (.cells #[.int .i64 p, .int .i64 q, .int .i64 r] 25)))
            obtain ⟨_, c0, c1, c2, _⟩ := id A2
            cases h1 : decide (r < p) with
            | true =>
              have h1' : r < p := by simpa using h1
              go_wp2_with fail
              go_quiet (fail)
              go_wp2_with fail
              exact ⟨⟨j + 1, q + 1, rfl, by rw [HQ.out]; push_cast; omega, by have := HQ.out; have := HP.out; omega, by rw [HCL.out]; exact row_skip (by rw [HCK.out]; simp [h1, HM.out]) (RowQ.next HR2.out (by (repeat' (first | with_reducible exact Below.refl _ _ | with_reducible assumption | with_reducible refine gr_alloc ?_ _ | with_reducible refine gr_drew ?_ | with_reducible refine gr_drewN ?_ _ | with_reducible refine gr_trans ?_ (by assumption) | with_reducible refine gr_set ?_ ?_ _ | (simp; done) | omega | (simp; omega))))), by have hU := HU2.out; (repeat' (first | with_reducible exact Below.refl _ _ | with_reducible assumption | with_reducible refine gr_alloc ?_ _ | with_reducible refine gr_drew ?_ | with_reducible refine gr_drewN ?_ _ | with_reducible refine gr_trans ?_ (by assumption) | with_reducible refine gr_set ?_ ?_ _ | (simp; done) | omega | (simp; omega)))⟩, by simp [intOf]; omega⟩
            | false =>
              have h1' : p ≤ r := by simpa using h1
              cases h2 : (r == p) with
              | true =>
                cases h3 : decide (q < 0) with
                | true =>
                  have h3' : q < 0 := by simpa using h3
                  go_wp2_with fail
                  go_quiet (fail)
                  go_wp2_with fail
                  exact ⟨⟨j + 1, q + 1, rfl, by rw [HQ.out]; push_cast; omega, by have := HQ.out; have := HP.out; omega, by rw [HCL.out]; exact row_skip (by rw [HCK.out]; simp [h1, h2, h3, HM.out]) (RowQ.next HR2.out (by (repeat' (first | with_reducible exact Below.refl _ _ | with_reducible assumption | with_reducible refine gr_alloc ?_ _ | with_reducible refine gr_drew ?_ | with_reducible refine gr_drewN ?_ _ | with_reducible refine gr_trans ?_ (by assumption) | with_reducible refine gr_set ?_ ?_ _ | (simp; done) | omega | (simp; omega))))), by have hU := HU2.out; (repeat' (first | with_reducible exact Below.refl _ _ | with_reducible assumption | with_reducible refine gr_alloc ?_ _ | with_reducible refine gr_drew ?_ | with_reducible refine gr_drewN ?_ _ | with_reducible refine gr_trans ?_ (by assumption) | with_reducible refine gr_set ?_ ?_ _ | (simp; done) | omega | (simp; omega)))⟩, by simp [intOf]; omega⟩
                | false =>
                  go_wp2_with fail
                  go_quiet (first | (go_at_call_of 79 (Value.int .i64 q); exact quiet_s (HG1.out _)) | (go_at_call_of 79 (Value.int .i64 r); exact quiet_s (HG2.out _)))
                  cases hz : (z == 1) with
                  | false =>
                    have hz' : (z != 1) = true := by simp [bne, hz]
                    go_wp2_with fail
                    exact ⟨⟨j + 1, q + 1, rfl, by rw [HQ.out]; push_cast; omega, by have := HQ.out; have := HP.out; omega, by rw [HCL.out]; exact row_skip (by rw [HCK.out]; simp [h1, h2, h3, hz, HM.out]) (RowQ.next HR2.out (by (repeat' (first | with_reducible exact Below.refl _ _ | with_reducible assumption | with_reducible refine gr_alloc ?_ _ | with_reducible refine gr_drew ?_ | with_reducible refine gr_drewN ?_ _ | with_reducible refine gr_trans ?_ (by assumption) | with_reducible refine gr_set ?_ ?_ _ | (simp; done) | omega | (simp; omega))))), by have hU := HU2.out; (repeat' (first | with_reducible exact Below.refl _ _ | with_reducible assumption | with_reducible refine gr_alloc ?_ _ | with_reducible refine gr_drew ?_ | with_reducible refine gr_drewN ?_ _ | with_reducible refine gr_trans ?_ (by assumption) | with_reducible refine gr_set ?_ ?_ _ | (simp; done) | omega | (simp; omega)))⟩, by simp [intOf]; omega⟩
                  | true =>
                    have hz' : (z != 1) = false := by simp [bne, hz]
                    have W5e : ∀ m, RowQ w.heap.size ((wr.alloc (.cells #[.int .i64 p, .int .i64 q, .int .i64 r] 25)).drewN m) u3 (cou d k ++ cin d p j) ∧ Arr3 ((wr.alloc (.cells #[.int .i64 p, .int .i64 q, .int .i64 r] 25)).drewN m) wr.heap.size p q r ∧ Below w.heap.size w ((wr.alloc (.cells #[.int .i64 p, .int .i64 q, .int .i64 r] 25)).drewN m) := fun m => ⟨RowQ.next HR2.out (gr_drewN (Below.refl _ _) m), A2.drewN m, gr_drewN HU2.out m⟩
                    have HW5 := hid W5e
                    clear W5e c0 c1 c2
                    generalize hm5 : World.drewN _ _ = W5
                    have hW5 := hm5 ▸ HW5.out _
                    clear hm5 HW5
                    obtain ⟨hR5, A5, hU5⟩ := hW5
                    obtain ⟨_, c0, c1, c2, _⟩ := id A5
                    have hs5 := hU5.size
                    have HR5 := hid hR5; have HU5 := hid hU5
                    clear hR5 hU5 HR2 HU2 HR' HU'
                    go_wp2_with (at_builtin; refine app_q rfl _ _ rfl w.heap.size rfl HR5.out rfl hlen hs5 ?_)
                    intro v' w6 hrow hgrow
                    have hU6 := RowQ.grown (W := w) (RowQ.next HR5.out (gr_alloc (Below.refl _ _) _)) (gr_alloc HU5.out _) hgrow (Nat.le_refl _)
                    go_wp2_with fail
                    go_roundw
                    case rel => exact ⟨j + 1, q + 1, rfl, by rw [HQ.out]; push_cast; omega, by have := HQ.out; have := HP.out; omega, by rw [HCL.out]; exact row_take (by rw [HCK.out]; simp [h1, h2, h3, hz, HM.out]) hrow, hU6⟩
                    case measure => simp [intOf]; omega
              | false =>
                go_wp2_with fail
                go_quiet (first | (go_at_call_of 79 (Value.int .i64 q); exact quiet_s (HG1.out _)) | (go_at_call_of 79 (Value.int .i64 r); exact quiet_s (HG2.out _)))
                cases hz : (z == 1) with
                | false =>
                  have hz' : (z != 1) = true := by simp [bne, hz]
                  go_wp2_with fail
                  exact ⟨⟨j + 1, q + 1, rfl, by rw [HQ.out]; push_cast; omega, by have := HQ.out; have := HP.out; omega, by rw [HCL.out]; exact row_skip (by rw [HCK.out]; simp [h1, h2, hz, HM.out]) (RowQ.next HR2.out (by (repeat' (first | with_reducible exact Below.refl _ _ | with_reducible assumption | with_reducible refine gr_alloc ?_ _ | with_reducible refine gr_drew ?_ | with_reducible refine gr_drewN ?_ _ | with_reducible refine gr_trans ?_ (by assumption) | with_reducible refine gr_set ?_ ?_ _ | (simp; done) | omega | (simp; omega))))), by have hU := HU2.out; (repeat' (first | with_reducible exact Below.refl _ _ | with_reducible assumption | with_reducible refine gr_alloc ?_ _ | with_reducible refine gr_drew ?_ | with_reducible refine gr_drewN ?_ _ | with_reducible refine gr_trans ?_ (by assumption) | with_reducible refine gr_set ?_ ?_ _ | (simp; done) | omega | (simp; omega)))⟩, by simp [intOf]; omega⟩
                | true =>
                  have hz' : (z != 1) = false := by simp [bne, hz]
                  have W5e : ∀ m, RowQ w.heap.size ((wr.alloc (.cells #[.int .i64 p, .int .i64 q, .int .i64 r] 25)).drewN m) u3 (cou d k ++ cin d p j) ∧ Arr3 ((wr.alloc (.cells #[.int .i64 p, .int .i64 q, .int .i64 r] 25)).drewN m) wr.heap.size p q r ∧ Below w.heap.size w ((wr.alloc (.cells #[.int .i64 p, .int .i64 q, .int .i64 r] 25)).drewN m) := fun m => ⟨RowQ.next HR2.out (gr_drewN (Below.refl _ _) m), A2.drewN m, gr_drewN HU2.out m⟩
                  have HW5 := hid W5e
                  clear W5e c0 c1 c2
                  generalize hm5 : World.drewN _ _ = W5
                  have hW5 := hm5 ▸ HW5.out _
                  clear hm5 HW5
                  obtain ⟨hR5, A5, hU5⟩ := hW5
                  obtain ⟨_, c0, c1, c2, _⟩ := id A5
                  have hs5 := hU5.size
                  have HR5 := hid hR5; have HU5 := hid hU5
                  clear hR5 hU5 HR2 HU2 HR' HU'
                  go_wp2_with (at_builtin; refine app_q rfl _ _ rfl w.heap.size rfl HR5.out rfl hlen hs5 ?_)
                  intro v' w6 hrow hgrow
                  have hU6 := RowQ.grown (W := w) (RowQ.next HR5.out (gr_alloc (Below.refl _ _) _)) (gr_alloc HU5.out _) hgrow (Nat.le_refl _)
                  go_wp2_with fail
                  go_roundw
                  case rel => exact ⟨j + 1, q + 1, rfl, by rw [HQ.out]; push_cast; omega, by have := HQ.out; have := HP.out; omega, by rw [HCL.out]; exact row_take (by rw [HCK.out]; simp [h1, h2, hz, HM.out]) hrow, hU6⟩
                  case measure => simp [intOf]; omega
        · have hj2 : j = 2 * (k + 1) := by have := HQ.out; have := HP.out; omega
          subst hj2
          go_wp2_with fail
          go_roundw
          case rel => exact ⟨k + 1, p + 1, rfl, by rw [HP.out]; push_cast; omega, by have h := hle; rw [HT.out, HP.out] at h; push_cast; exact h, by rw [HP.out] at hR; exact hR, hU⟩
          case measure => simp [intOf]; omega
    · have hKk : Kk d k := ⟨hk, by have h := hle; rw [HT.out, HP.out] at h; omega⟩
      rw [← HK.out k hKk] at hR
      obtain ⟨a, cap, rfl⟩ := hR.val
      go_wp2_with fail
      go_ret
      exact ⟨_, rfl, hR, hU⟩

set_option maxHeartbeats 400000 in
theorem sClassesOf_any (d : Int) (w : World) : Calls Try.prog 16 #[.int .i64 d] w (QlsOut (if dcl d then 0 else 2) (cls d).length (fun i => ((cls d).flatMap qi3).getD i 0) w) := by
  have hC := fun W => l10Discriminant_any d W
  cases hd : dcl d with
  | false =>
    rw [hd] at hC
    have HC := hid hC
    clear hC
    go_enter Try.func16, Try.ntmps16
    go_wp2_with fail
    refine (HC.out _).mono ?_
    rintro e w1 ⟨rfl, rfl⟩
    go_wp2
    go_ret2
    exact ⟨_, rfl, .inl ⟨rfl, by simp⟩, by (repeat' (first | with_reducible exact Below.refl _ _ | with_reducible assumption | with_reducible refine gr_alloc ?_ _ | with_reducible refine gr_drew ?_ | with_reducible refine gr_drewN ?_ _ | with_reducible refine gr_trans ?_ (by assumption) | with_reducible refine gr_set ?_ ?_ _ | (simp; done) | omega | (simp; omega)))⟩
  | true =>
    have hS := fun W => sClasses_any d W hd
    rw [hd] at hC
    have HC := hid hC; have HS := hid hS
    clear hC hS hd
    go_enter Try.func16, Try.ntmps16
    go_wp2_with fail
    refine (HC.out _).mono ?_
    rintro e w1 ⟨rfl, rfl⟩
    go_wp2_with fail
    refine (HS.out _).mono ?_
    rintro e w2 ⟨v, rfl, hR, hb2⟩
    obtain ⟨a, cap, rfl⟩ := hR.val
    go_wp2_with fail
    go_ret2
    exact ⟨_, rfl, hR.out, hb2⟩

theorem kk_ex (d : Int) (h0 : d ≤ 0) (n : Nat) (h : -d < 3 * (n : Int) * n) : ∃ k, Kk d k := by
  induction n with
  | zero => simp at h; omega
  | succ n ih =>
    by_cases h1 : -d < 3 * (n : Int) * n
    · exact ih h1
    · exact ⟨n, by omega, by push_cast at h; exact h⟩
theorem cls_le (d : Int) : (if (if dcl d then (0 : Int) else 2) = 0 then (cls d).length else 0) ≤ 1000 := by
  cases hd : dcl d with
  | false => simp
  | true =>
    obtain ⟨⟨d1, d2⟩, _⟩ := dcl_t hd
    obtain ⟨k, hk⟩ := kk_ex d (by omega) 26 (by push_cast; omega)
    have := cou_len hk.1 d1
    rw [hk.cls]; simp; omega

end Go.Proofs.Ytehbkmohfipmgaa
