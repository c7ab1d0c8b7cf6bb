/- Several texts in one: XE8, XE9. -/
import Derived.Test.YtdogkkmdccieiaaDoorZ3
import Derived.Test.YtdogkkmdccieiaaDoorZ5
import Derived.Test.YtdogkkmdccieiaaDoorZ4
import Derived.Deep.RegionHeld3
import Derived.Deep.DeepCutAuto

/- Chapter 4: codes of forms and elements. -/
namespace Go.Proofs.YtdogkkmdccieiaaDoor
open Go.RowKit

set_option maxRecDepth 100000 in
set_option maxHeartbeats 1000000 in
theorem sCode1_any (k : Nat) (a b c d u v x : Int) (w : World) (h : Arr3 w k u v x) :
    Calls Tryd.prog 41 #[.agg #[.int .i64 a, .int .i64 b, .int .i64 c, .int .i64 d], .slice (some ⟨k, 0, none⟩) 1 1] w fun e w' => e = .returned (.int .i64 (fec a b c d u v x)) ∧ Below w.heap.size w w' := by
  have h0 := h.alloc (.cells #[.int .i64 a, .int .i64 b, .int .i64 c, .int .i64 d] 25)
  clear h
  go_enter Tryd.func41, Tryd.ntmps41
  go_wp2_with fail
  refine (l01Is_any a b c d _).mono ?_
  rintro e w1 ⟨rfl, hb1⟩
  have h1 := h0.next hb1
  clear h0
  obtain ⟨_, c0, c1, c2, _⟩ := id h1
  by_cases hm : isF a b c d = true
  · go_wp2_with fail
    refine wp_loop_rounds 2 ?_
    rw [rounds_succ]; go_wp2_with fail
    refine (sIsE0_any u v x _).mono ?_
    rintro e w2 ⟨rfl, hb2⟩
    by_cases hn : isE u v x = true
    · go_wp2_with fail
      rw [rounds_succ]; go_wp2_with fail
      go_ret
      exact ⟨ret_int (by simp [fec, hm, hn]), by (repeat' (first | with_reducible exact Below.refl _ _ | with_reducible assumption | with_reducible refine gr_alloc ?_ _ | with_reducible refine gr_drew ?_ | with_reducible refine gr_drewN ?_ _ | with_reducible refine gr_trans ?_ (by assumption) | with_reducible refine gr_set ?_ ?_ _ | (simp; done) | omega | (simp; omega)))⟩
    · have hn' : isE u v x = false := by simpa using hn
      clear hn
      go_wp2_with fail
      go_ret
      exact ⟨ret_int (by simp [fec, hn']), by (repeat' (first | with_reducible exact Below.refl _ _ | with_reducible assumption | with_reducible refine gr_alloc ?_ _ | with_reducible refine gr_drew ?_ | with_reducible refine gr_drewN ?_ _ | with_reducible refine gr_trans ?_ (by assumption) | with_reducible refine gr_set ?_ ?_ _ | (simp; done) | omega | (simp; omega)))⟩
  · have hm' : isF a b c d = false := by simpa using hm
    clear hm
    go_wp2_with fail
    go_ret
    exact ⟨ret_int (by simp [fec, hm']), by (repeat' (first | with_reducible exact Below.refl _ _ | with_reducible assumption | with_reducible refine gr_alloc ?_ _ | with_reducible refine gr_drew ?_ | with_reducible refine gr_drewN ?_ _ | with_reducible refine gr_trans ?_ (by assumption) | with_reducible refine gr_set ?_ ?_ _ | (simp; done) | omega | (simp; omega)))⟩

set_option maxRecDepth 100000 in
set_option maxHeartbeats 1000000 in
theorem sCode2_any (k : Nat) (a b c d u v x p q r : Int) (w : World) (h : Arr6 w k u v x p q r) :
    Calls Tryd.prog 41 #[.agg #[.int .i64 a, .int .i64 b, .int .i64 c, .int .i64 d], .slice (some ⟨k, 0, none⟩) 2 2] w fun e w' => e = .returned (.int .i64 (fee a b c d u v x p q r)) ∧ Below w.heap.size w w' := by
  have h0 := h.alloc (.cells #[.int .i64 a, .int .i64 b, .int .i64 c, .int .i64 d] 25)
  clear h
  go_enter Tryd.func41, Tryd.ntmps41
  go_wp2_with fail
  refine (l01Is_any a b c d _).mono ?_
  rintro e w1 ⟨rfl, hb1⟩
  have h1 := h0.next hb1
  clear h0
  obtain ⟨_, c0, c1, c2, c3, c4, c5⟩ := id h1
  by_cases hm : isF a b c d = true
  · go_wp2_with fail
    refine wp_loop_rounds 3 ?_
    rw [rounds_succ]; go_wp2_with fail
    refine (sIsE0_any u v x _).mono ?_
    rintro e w2 ⟨rfl, hb2⟩
    have h2 := h1.next hb2
    clear c0 c1 c2 c3 c4 c5
    obtain ⟨_, c0, c1, c2, c3, c4, c5⟩ := id h2
    by_cases hn : isE u v x = true
    · go_wp2_with fail
      rw [rounds_succ]; go_wp2_with fail
      refine (sIsE0_any p q r _).mono ?_
      rintro e w3 ⟨rfl, hb3⟩
      by_cases ho : isE p q r = true
      · go_wp2_with fail
        rw [rounds_succ]; go_wp2_with fail
        go_ret
        exact ⟨ret_int (by simp [fee, hm, hn, ho]), by (repeat' (first | with_reducible exact Below.refl _ _ | with_reducible assumption | with_reducible refine gr_alloc ?_ _ | with_reducible refine gr_drew ?_ | with_reducible refine gr_drewN ?_ _ | with_reducible refine gr_trans ?_ (by assumption) | with_reducible refine gr_set ?_ ?_ _ | (simp; done) | omega | (simp; omega)))⟩
      · have ho' : isE p q r = false := by simpa using ho
        clear ho
        go_wp2_with fail
        go_ret
        exact ⟨ret_int (by simp [fee, ho']), by (repeat' (first | with_reducible exact Below.refl _ _ | with_reducible assumption | with_reducible refine gr_alloc ?_ _ | with_reducible refine gr_drew ?_ | with_reducible refine gr_drewN ?_ _ | with_reducible refine gr_trans ?_ (by assumption) | with_reducible refine gr_set ?_ ?_ _ | (simp; done) | omega | (simp; omega)))⟩
    · have hn' : isE u v x = false := by simpa using hn
      clear hn
      go_wp2_with fail
      go_ret
      exact ⟨ret_int (by simp [fee, hn']), by (repeat' (first | with_reducible exact Below.refl _ _ | with_reducible assumption | with_reducible refine gr_alloc ?_ _ | with_reducible refine gr_drew ?_ | with_reducible refine gr_drewN ?_ _ | with_reducible refine gr_trans ?_ (by assumption) | with_reducible refine gr_set ?_ ?_ _ | (simp; done) | omega | (simp; omega)))⟩
  · have hm' : isF a b c d = false := by simpa using hm
    clear hm
    go_wp2_with fail
    go_ret
    exact ⟨ret_int (by simp [fee, hm']), by (repeat' (first | with_reducible exact Below.refl _ _ | with_reducible assumption | with_reducible refine gr_alloc ?_ _ | with_reducible refine gr_drew ?_ | with_reducible refine gr_drewN ?_ _ | with_reducible refine gr_trans ?_ (by assumption) | with_reducible refine gr_set ?_ ?_ _ | (simp; done) | omega | (simp; omega)))⟩

set_option maxRecDepth 100000 in
set_option maxHeartbeats 1000000 in
theorem sCode0_any (a b c d : Int) (w : World) :
    Calls Tryd.prog 41 #[.agg #[.int .i64 a, .int .i64 b, .int .i64 c, .int .i64 d], .slice none 0 0] w fun e w' => e = .returned (.int .i64 (cif a b c d)) ∧ Below w.heap.size w w' := by
  go_enter Tryd.func41, Tryd.ntmps41
  go_wp2_with fail
  refine (l01Is_any a b c d _).mono ?_
  rintro e w1 ⟨rfl, hb1⟩
  by_cases hm : isF a b c d = true
  · go_wp2_with fail
    refine wp_loop_rounds 1 ?_
    rw [rounds_succ]; go_wp2_with fail
    go_ret
    exact ⟨ret_int (by simp [cif, hm]), by (repeat' (first | with_reducible exact Below.refl _ _ | with_reducible assumption | with_reducible refine gr_alloc ?_ _ | with_reducible refine gr_drew ?_ | with_reducible refine gr_drewN ?_ _ | with_reducible refine gr_trans ?_ (by assumption) | with_reducible refine gr_set ?_ ?_ _ | (simp; done) | omega | (simp; omega)))⟩
  · have hm' : isF a b c d = false := by simpa using hm
    clear hm
    go_wp2_with fail
    go_ret
    exact ⟨ret_int (by simp [cif, hm']), by (repeat' (first | with_reducible exact Below.refl _ _ | with_reducible assumption | with_reducible refine gr_alloc ?_ _ | with_reducible refine gr_drew ?_ | with_reducible refine gr_drewN ?_ _ | with_reducible refine gr_trans ?_ (by assumption) | with_reducible refine gr_set ?_ ?_ _ | (simp; done) | omega | (simp; omega)))⟩

theorem fec_0 {a b c d u v x : Int} : fec a b c d u v x = 0 ↔ isF a b c d = true ∧ isE u v x = true := by
  unfold fec; split <;> simp_all
theorem few_0 {L a b c d u v x : Int} (h : fec a b c d u v x = 0) (h4 : (-L ≤ a ∧ a ≤ L) ∧ (-L ≤ b ∧ b ≤ L) ∧ (-L ≤ c ∧ c ≤ L) ∧ (-L ≤ d ∧ d ≤ L)) (h3 : (-L ≤ u ∧ u ≤ L) ∧ (-L ≤ v ∧ v ≤ L) ∧ (-L ≤ x ∧ x ≤ L)) : few L a b c d u v x = 0 := by
  obtain ⟨h, h'⟩ := fec_0.1 h
  simp [few, h, h', is4_mk h4.1 h4.2.1 h4.2.2.1 h4.2.2.2, is3_mk h3.1 h3.2.1 h3.2.2]
theorem few_2 {L a b c d u v x : Int} (h : fec a b c d u v x = 0) (hn : ¬ (((-L ≤ a ∧ a ≤ L) ∧ (-L ≤ b ∧ b ≤ L) ∧ (-L ≤ c ∧ c ≤ L) ∧ (-L ≤ d ∧ d ≤ L)) ∧ (-L ≤ u ∧ u ≤ L) ∧ (-L ≤ v ∧ v ≤ L) ∧ (-L ≤ x ∧ x ≤ L))) : few L a b c d u v x = 2 := by
  obtain ⟨h, h'⟩ := fec_0.1 h
  simp only [few, h, h', Bool.and_self, if_true]
  rw [if_neg (fun e => hn (by rw [Bool.and_eq_true] at e; exact ⟨is4_t e.1, is3_t e.2⟩))]
theorem few_1 {L a b c d u v x : Int} (h : fec a b c d u v x ≠ 0) : few L a b c d u v x = fec a b c d u v x := by
  unfold few fec at *
  by_cases hc : (isF a b c d && isE u v x) = true
  · rw [if_pos hc] at h; exact absurd rfl h
  · rw [if_neg hc, if_neg hc]
theorem few_t {L a b c d u v x : Int} (h : few L a b c d u v x = 0) : isF a b c d = true ∧ isE u v x = true ∧ is4 L a b c d = true ∧ is3 L u v x = true := by
  unfold few at h
  split at h
  · split at h <;> simp_all
  · omega

set_option maxRecDepth 100000 in
set_option maxHeartbeats 2000000 in
theorem sWithin_any (L a b c d u v x : Int) (w : World) (h0 : 0 ≤ L) (h1 : L ≤ 1000000000000) :
    Calls Tryd.prog 55 #[.agg #[.int .i64 a, .int .i64 b, .int .i64 c, .int .i64 d], .agg #[.int .i64 u, .int .i64 v, .int .i64 x], .int .i64 L] w fun e w' => e = .returned (.int .i64 (few L a b c d u v x)) ∧ Below w.heap.size w w' := by
  have hc := fun k W => sCode1_any k a b c d u v x W
  have k0 : fec a b c d u v x = 0 → _ → _ → few L a b c d u v x = 0 := few_0
  have k2 : fec a b c d u v x = 0 → _ → few L a b c d u v x = 2 := few_2
  have k1 : fec a b c d u v x ≠ 0 → few L a b c d u v x = fec a b c d u v x := few_1
  generalize fec a b c d u v x = k at hc k0 k1 k2
  generalize few L a b c d u v x = r at k0 k1 k2 ⊢
  have HC := hid hc; have K0 := hid k0; have K1 := hid k1; have K2 := hid k2
  clear hc k0 k1 k2
  have A0 := ((Arr.new w a b c d 25).alloc (.cells #[.int .i64 u, .int .i64 v, .int .i64 x] 27)).alloc (.cells #[.int .i64 u, .int .i64 v, .int .i64 x] 27)
  have E0 := (Arr3.new (w.alloc (.cells #[.int .i64 a, .int .i64 b, .int .i64 c, .int .i64 d] 25)) u v x 27).alloc (.cells #[.int .i64 u, .int .i64 v, .int .i64 x] 27)
  have T0 := Arr3.new ((w.alloc (.cells #[.int .i64 a, .int .i64 b, .int .i64 c, .int .i64 d] 25)).alloc (.cells #[.int .i64 u, .int .i64 v, .int .i64 x] 27)) u v x 27
  simp only [World.size_alloc] at E0 T0
  go_enter Tryd.func55, Tryd.ntmps55
  go_wp2_with fail
  refine (HC.out _ _ T0).mono ?_
  rintro e w1 ⟨rfl, hb1⟩
  have A1 := A0.next hb1
  have E1 := E0.next hb1
  clear A0 E0 T0
  obtain ⟨_, a0, a1, a2, a3, _⟩ := id A1
  obtain ⟨_, e0, e1, e2, _⟩ := id E1
  by_cases hk : k = 0
  · subst hk
    go_wp2_with fail
    refine wp_loop_rounds 5 ?_
    rw [rounds_succ]
    go_wp2_with fail
    refine (l01In_any _ _ _ _).mono ?_
    rintro e z1 ⟨rfl, rfl⟩
    by_cases ra' : rng (-L) L a = false
    · go_wp2_with fail
      go_ret
      exact ⟨ret_int (K2.out (by first | rfl | trivial) (by have := rng_f ra'; omega)).symm, by (repeat' (first | with_reducible exact Below.refl _ _ | with_reducible assumption | with_reducible refine gr_alloc ?_ _ | with_reducible refine gr_drew ?_ | with_reducible refine gr_drewN ?_ _ | with_reducible refine gr_trans ?_ (by assumption) | with_reducible refine gr_set ?_ ?_ _ | (simp; done) | omega | (simp; omega)))⟩
    have ra : rng (-L) L a = true := by simpa using ra'
    clear ra'
    go_wp2_with fail
    refine (l01In_any _ _ _ _).mono ?_
    rintro e z2 ⟨rfl, rfl⟩
    by_cases ru' : rng (-L) L u = false
    · go_wp2_with fail
      go_ret
      exact ⟨ret_int (K2.out (by first | rfl | trivial) (by have := rng_f ru'; omega)).symm, by (repeat' (first | with_reducible exact Below.refl _ _ | with_reducible assumption | with_reducible refine gr_alloc ?_ _ | with_reducible refine gr_drew ?_ | with_reducible refine gr_drewN ?_ _ | with_reducible refine gr_trans ?_ (by assumption) | with_reducible refine gr_set ?_ ?_ _ | (simp; done) | omega | (simp; omega)))⟩
    have ru : rng (-L) L u = true := by simpa using ru'
    clear ru'
    go_wp2_with fail
    rw [rounds_succ]
    go_wp2_with fail
    refine (l01In_any _ _ _ _).mono ?_
    rintro e z3 ⟨rfl, rfl⟩
    by_cases rb' : rng (-L) L b = false
    · go_wp2_with fail
      go_ret
      exact ⟨ret_int (K2.out (by first | rfl | trivial) (by have := rng_f rb'; omega)).symm, by (repeat' (first | with_reducible exact Below.refl _ _ | with_reducible assumption | with_reducible refine gr_alloc ?_ _ | with_reducible refine gr_drew ?_ | with_reducible refine gr_drewN ?_ _ | with_reducible refine gr_trans ?_ (by assumption) | with_reducible refine gr_set ?_ ?_ _ | (simp; done) | omega | (simp; omega)))⟩
    have rb : rng (-L) L b = true := by simpa using rb'
    clear rb'
    go_wp2_with fail
    refine (l01In_any _ _ _ _).mono ?_
    rintro e z4 ⟨rfl, rfl⟩
    by_cases rv' : rng (-L) L v = false
    · go_wp2_with fail
      go_ret
      exact ⟨ret_int (K2.out (by first | rfl | trivial) (by have := rng_f rv'; omega)).symm, by (repeat' (first | with_reducible exact Below.refl _ _ | with_reducible assumption | with_reducible refine gr_alloc ?_ _ | with_reducible refine gr_drew ?_ | with_reducible refine gr_drewN ?_ _ | with_reducible refine gr_trans ?_ (by assumption) | with_reducible refine gr_set ?_ ?_ _ | (simp; done) | omega | (simp; omega)))⟩
    have rv : rng (-L) L v = true := by simpa using rv'
    clear rv'
    go_wp2_with fail
    rw [rounds_succ]
    go_wp2_with fail
    refine (l01In_any _ _ _ _).mono ?_
    rintro e z5 ⟨rfl, rfl⟩
    by_cases rc' : rng (-L) L c = false
    · go_wp2_with fail
      go_ret
      exact ⟨ret_int (K2.out (by first | rfl | trivial) (by have := rng_f rc'; omega)).symm, by (repeat' (first | with_reducible exact Below.refl _ _ | with_reducible assumption | with_reducible refine gr_alloc ?_ _ | with_reducible refine gr_drew ?_ | with_reducible refine gr_drewN ?_ _ | with_reducible refine gr_trans ?_ (by assumption) | with_reducible refine gr_set ?_ ?_ _ | (simp; done) | omega | (simp; omega)))⟩
    have rc : rng (-L) L c = true := by simpa using rc'
    clear rc'
    go_wp2_with fail
    refine (l01In_any _ _ _ _).mono ?_
    rintro e z6 ⟨rfl, rfl⟩
    by_cases rx' : rng (-L) L x = false
    · go_wp2_with fail
      go_ret
      exact ⟨ret_int (K2.out (by first | rfl | trivial) (by have := rng_f rx'; omega)).symm, by (repeat' (first | with_reducible exact Below.refl _ _ | with_reducible assumption | with_reducible refine gr_alloc ?_ _ | with_reducible refine gr_drew ?_ | with_reducible refine gr_drewN ?_ _ | with_reducible refine gr_trans ?_ (by assumption) | with_reducible refine gr_set ?_ ?_ _ | (simp; done) | omega | (simp; omega)))⟩
    have rx : rng (-L) L x = true := by simpa using rx'
    clear rx'
    go_wp2_with fail
    rw [rounds_succ]
    go_wp2_with fail
    refine (l01In_any _ _ _ _).mono ?_
    rintro e z7 ⟨rfl, rfl⟩
    by_cases rd' : rng (-L) L d = false
    · go_wp2_with fail
      go_ret
      exact ⟨ret_int (K2.out (by first | rfl | trivial) (by have := rng_f rd'; omega)).symm, by (repeat' (first | with_reducible exact Below.refl _ _ | with_reducible assumption | with_reducible refine gr_alloc ?_ _ | with_reducible refine gr_drew ?_ | with_reducible refine gr_drewN ?_ _ | with_reducible refine gr_trans ?_ (by assumption) | with_reducible refine gr_set ?_ ?_ _ | (simp; done) | omega | (simp; omega)))⟩
    have rd : rng (-L) L d = true := by simpa using rd'
    clear rd'
    go_wp2_with fail
    rw [rounds_succ]
    go_wp2_with fail
    go_ret
    exact ⟨ret_int (K0.out (by first | rfl | trivial) ⟨rng_t ra, rng_t rb, rng_t rc, rng_t rd⟩ ⟨rng_t ru, rng_t rv, rng_t rx⟩).symm, by (repeat' (first | with_reducible exact Below.refl _ _ | with_reducible assumption | with_reducible refine gr_alloc ?_ _ | with_reducible refine gr_drew ?_ | with_reducible refine gr_drewN ?_ _ | with_reducible refine gr_trans ?_ (by assumption) | with_reducible refine gr_set ?_ ?_ _ | (simp; done) | omega | (simp; omega)))⟩
  · have hk' : (k == 0) = false := by simpa using hk
    have HK := hid hk
    clear hk
    go_wp2
    go_ret
    exact ⟨ret_int (K1.out HK.out).symm, by (repeat' (first | with_reducible exact Below.refl _ _ | with_reducible assumption | with_reducible refine gr_alloc ?_ _ | with_reducible refine gr_drew ?_ | with_reducible refine gr_drewN ?_ _ | with_reducible refine gr_trans ?_ (by assumption) | with_reducible refine gr_set ?_ ?_ _ | (simp; done) | omega | (simp; omega)))⟩

set_option maxRecDepth 100000 in
set_option maxHeartbeats 1000000 in
theorem iWithinFE_any (L a b c d u v x : Int) (w : World) (h0 : 0 ≤ L) (h1 : L ≤ 1000000000000) :
    Calls Tryd.prog 49 #[.agg #[.int .i64 a, .int .i64 b, .int .i64 c, .int .i64 d], .agg #[.int .i64 u, .int .i64 v, .int .i64 x], .int .i64 L] w fun e w' => e = .returned (.int .i64 (few L a b c d u v x)) ∧ Below w.heap.size w w' := by
  go_enter Tryd.func49, Tryd.ntmps49
  go_wp2_with fail
  refine (iIsForm_any a b c d _).mono ?_
  rintro e w1 ⟨rfl, hb1⟩
  have A1 := ((Arr.new w a b c d 25).alloc (.cells #[.int .i64 u, .int .i64 v, .int .i64 x] 27)).next hb1
  have E1 := (Arr3.new (w.alloc (.cells #[.int .i64 a, .int .i64 b, .int .i64 c, .int .i64 d] 25)) u v x 27).next hb1
  simp only [World.size_alloc] at E1
  by_cases hm : isF a b c d = true
  · obtain ⟨_, e0, e1, e2, _⟩ := id E1
    go_wp2_with fail
    refine (iIsE_any u v x _).mono ?_
    rintro e w2 ⟨rfl, hb2⟩
    have A2 := A1.next hb2
    have E2 := E1.next hb2
    clear e0 e1 e2
    by_cases hn : isE u v x = true
    · go_wp2_with fail
      refine (allW4_any L _ a b c d _ A2 h0 h1).mono ?_
      rintro e w3 ⟨rfl, rfl⟩
      by_cases h4 : is4 L a b c d = true
      · go_wp2_with fail
        refine (allW3_any L _ u v x _ E2 h0 h1).mono ?_
        rintro e w3 ⟨rfl, rfl⟩
        by_cases h3 : is3 L u v x = true
        · go_wp2_with fail
          go_ret
          exact ⟨ret_int (by simp [few, hm, hn, h4, h3]), by (repeat' (first | with_reducible exact Below.refl _ _ | with_reducible assumption | with_reducible refine gr_alloc ?_ _ | with_reducible refine gr_drew ?_ | with_reducible refine gr_drewN ?_ _ | with_reducible refine gr_trans ?_ (by assumption) | with_reducible refine gr_set ?_ ?_ _ | (simp; done) | omega | (simp; omega)))⟩
        · have h3' : is3 L u v x = false := by simpa using h3
          clear h3
          go_wp2_with fail
          go_ret
          exact ⟨ret_int (by simp [few, hm, hn, h3']), by (repeat' (first | with_reducible exact Below.refl _ _ | with_reducible assumption | with_reducible refine gr_alloc ?_ _ | with_reducible refine gr_drew ?_ | with_reducible refine gr_drewN ?_ _ | with_reducible refine gr_trans ?_ (by assumption) | with_reducible refine gr_set ?_ ?_ _ | (simp; done) | omega | (simp; omega)))⟩
      · have h4' : is4 L a b c d = false := by simpa using h4
        clear h4
        go_wp2_with fail
        go_ret
        exact ⟨ret_int (by simp [few, hm, hn, h4']), by (repeat' (first | with_reducible exact Below.refl _ _ | with_reducible assumption | with_reducible refine gr_alloc ?_ _ | with_reducible refine gr_drew ?_ | with_reducible refine gr_drewN ?_ _ | with_reducible refine gr_trans ?_ (by assumption) | with_reducible refine gr_set ?_ ?_ _ | (simp; done) | omega | (simp; omega)))⟩
    · have hn' : isE u v x = false := by simpa using hn
      clear hn
      go_wp2_with fail
      go_ret
      exact ⟨ret_int (by simp [few, hn']), by (repeat' (first | with_reducible exact Below.refl _ _ | with_reducible assumption | with_reducible refine gr_alloc ?_ _ | with_reducible refine gr_drew ?_ | with_reducible refine gr_drewN ?_ _ | with_reducible refine gr_trans ?_ (by assumption) | with_reducible refine gr_set ?_ ?_ _ | (simp; done) | omega | (simp; omega)))⟩
  · have hm' : isF a b c d = false := by simpa using hm
    clear hm
    go_wp2_with fail
    go_ret
    exact ⟨ret_int (by simp [few, hm']), by (repeat' (first | with_reducible exact Below.refl _ _ | with_reducible assumption | with_reducible refine gr_alloc ?_ _ | with_reducible refine gr_drew ?_ | with_reducible refine gr_drewN ?_ _ | with_reducible refine gr_trans ?_ (by assumption) | with_reducible refine gr_set ?_ ?_ _ | (simp; done) | omega | (simp; omega)))⟩

end Go.Proofs.YtdogkkmdccieiaaDoor

/- Chapter 4: MultiplyElems, AddElems. -/
namespace Go.Proofs.YtdogkkmdccieiaaDoor
open Go.RowKit

/-- The code of a product, of a sum. -/
def mec (g : Bool) (k0 k1 k2 : Int) : Int := if g then elc k0 k1 k2 else 1
def aec (g h : Bool) (k0 k1 k2 : Int) : Int := if g then (if h then elc k0 k1 k2 else 2) else 1
theorem cells433 {W : World} {i j l : Nat} {a b c d p q r x y z : Int} (K : Arr W i a b c d) (L : Arr3 W j p q r) (N : Arr3 W l x y z) :
    W.cell? ⟨i, 0, none⟩ = some (.int .i64 a) ∧ W.cell? ⟨i, 1, none⟩ = some (.int .i64 b) ∧ W.cell? ⟨i, 2, none⟩ = some (.int .i64 c) ∧ W.cell? ⟨i, 3, none⟩ = some (.int .i64 d) ∧ W.cell? ⟨j, 0, none⟩ = some (.int .i64 p) ∧ W.cell? ⟨j, 1, none⟩ = some (.int .i64 q) ∧ W.cell? ⟨j, 2, none⟩ = some (.int .i64 r) ∧ W.cell? ⟨l, 0, none⟩ = some (.int .i64 x) ∧ W.cell? ⟨l, 1, none⟩ = some (.int .i64 y) ∧ W.cell? ⟨l, 2, none⟩ = some (.int .i64 z) :=
  ⟨K.c0, K.c1, K.c2, K.c3, L.c0, L.c1, L.c2, N.c0, N.c1, N.c2⟩

set_option maxRecDepth 100000 in
set_option maxHeartbeats 2000000 in
theorem iMulE_any (a b c d u v x p q r : Int) (w : World) :
    Calls Tryd.prog 26 #[.agg #[.int .i64 a, .int .i64 b, .int .i64 c, .int .i64 d], .agg #[.int .i64 u, .int .i64 v, .int .i64 x], .agg #[.int .i64 p, .int .i64 q, .int .i64 r]] w fun e w' => e = .returned (.tuple #[.agg #[.int .i64 (if0 (mec (isF a b c d && isE u v x && isE p q r) (m0 (np a c) (np a d) (np b d) u v x p q r) (m1 b 0 d u v x p q r) (m2 (ng a) 0 (ng c) u v x p q r)) (m0 (np a c) (np a d) (np b d) u v x p q r)), .int .i64 (if0 (mec (isF a b c d && isE u v x && isE p q r) (m0 (np a c) (np a d) (np b d) u v x p q r) (m1 b 0 d u v x p q r) (m2 (ng a) 0 (ng c) u v x p q r)) (m1 b 0 d u v x p q r)), .int .i64 (if0 (mec (isF a b c d && isE u v x && isE p q r) (m0 (np a c) (np a d) (np b d) u v x p q r) (m1 b 0 d u v x p q r) (m2 (ng a) 0 (ng c) u v x p q r)) (m2 (ng a) 0 (ng c) u v x p q r))], .int .i64 (mec (isF a b c d && isE u v x && isE p q r) (m0 (np a c) (np a d) (np b d) u v x p q r) (m1 b 0 d u v x p q r) (m2 (ng a) 0 (ng c) u v x p q r))]) ∧ Below w.heap.size w w' := by
  have hp := fun W => iProducts_any a b c d W
  have hm := fun W => iMul_any (np a c) b (ng a) (np a d) 0 0 (np b d) d (ng c) u v x p q r W
  generalize m0 (np a c) (np a d) (np b d) u v x p q r = k0 at hm ⊢
  generalize m1 b 0 d u v x p q r = k1 at hm ⊢
  generalize m2 (ng a) 0 (ng c) u v x p q r = k2 at hm ⊢
  generalize np a c = t0 at hp hm
  generalize ng a = t2 at hp hm
  generalize np a d = t3 at hp hm
  generalize np b d = t6 at hp hm
  generalize ng c = t8 at hp hm
  have ht := fun W => iTold_any k0 k1 k2 W
  have he : mec true k0 k1 k2 = elc k0 k1 k2 := rfl
  have HP := hid hp; have HM := hid hm
  clear hp hm
  have F0 := (((Arr.new w a b c d 25).alloc (.cells #[.int .i64 u, .int .i64 v, .int .i64 x] 27)).alloc (.cells #[.int .i64 p, .int .i64 q, .int .i64 r] 27)).alloc (.cells #[.int .i64 0, .int .i64 0, .int .i64 0] 27)
  have X0 := ((Arr3.new (w.alloc (.cells #[.int .i64 a, .int .i64 b, .int .i64 c, .int .i64 d] 25)) u v x 27).alloc (.cells #[.int .i64 p, .int .i64 q, .int .i64 r] 27)).alloc (.cells #[.int .i64 0, .int .i64 0, .int .i64 0] 27)
  have Y0 := (Arr3.new ((w.alloc (.cells #[.int .i64 a, .int .i64 b, .int .i64 c, .int .i64 d] 25)).alloc (.cells #[.int .i64 u, .int .i64 v, .int .i64 x] 27)) p q r 27).alloc (.cells #[.int .i64 0, .int .i64 0, .int .i64 0] 27)
  have R0 := Arr3.new (((w.alloc (.cells #[.int .i64 a, .int .i64 b, .int .i64 c, .int .i64 d] 25)).alloc (.cells #[.int .i64 u, .int .i64 v, .int .i64 x] 27)).alloc (.cells #[.int .i64 p, .int .i64 q, .int .i64 r] 27)) 0 0 0 27
  have U0 := gr_alloc (gr_alloc (gr_alloc (gr_alloc (Below.refl w.heap.size w) (.cells #[.int .i64 a, .int .i64 b, .int .i64 c, .int .i64 d] 25)) (.cells #[.int .i64 u, .int .i64 v, .int .i64 x] 27)) (.cells #[.int .i64 p, .int .i64 q, .int .i64 r] 27)) (.cells #[.int .i64 0, .int .i64 0, .int .i64 0] 27)
  simp only [World.size_alloc] at X0 Y0 R0
  generalize hg : (isF a b c d && isE u v x && isE p q r) = g
  have HG := hid hg
  generalize elc k0 k1 k2 = kc at ht he
  have HT := hid ht
  have HE := hid he
  clear ht he hg
  go_enter Tryd.func26, Tryd.ntmps26
  go_wp2_with fail
  refine (iIsForm_any a b c d _).mono ?_
  rintro e w1 ⟨rfl, hb1⟩
  have F1 := F0.next hb1
  have X1 := X0.next hb1
  have Y1 := Y0.next hb1
  have R1 := R0.next hb1
  have U1 := gr_trans U0 hb1
  clear F0 X0 Y0 R0 U0
  by_cases h1 : isF a b c d = false
  · obtain ⟨_, r0, r1, r2, f0, f1, f2⟩ := id R1
    have hg : g = false := by rw [← HG.out]; simp [h1]
    subst hg
    go_wp2_with fail
    refine bodyPost_ret (res_A3 (e := 2) rfl Tryd.underlying27 (by kernel_rfl) rfl (by (repeat (first | with_reducible assumption | with_reducible exact Arr3.box (by assumption) | with_reducible exact Arr3.new _ _ _ _ _ | with_reducible refine Arr3.drew ?_ | with_reducible refine Arr3.drewN ?_ _ | with_reducible refine Arr3.store3 ?_ | with_reducible refine Arr3.alloc ?_ _ | with_reducible refine Arr3.next ?_ (by assumption) | refine Arr3.oth ?_ (by first | (simp; done) | omega | (simp; omega)) _ )))) rfl ?_
    exact ⟨ret_t3 (by simp [if0, mec]) (by simp [if0, mec]) (by simp [if0, mec]) (by simp [mec]), by (repeat' (first | with_reducible exact Below.refl _ _ | with_reducible assumption | with_reducible refine gr_alloc ?_ _ | with_reducible refine gr_drew ?_ | with_reducible refine gr_drewN ?_ _ | with_reducible refine gr_trans ?_ (by assumption) | with_reducible refine gr_set ?_ ?_ _ | (simp; done) | omega | (simp; omega)))⟩
  have h1' : isF a b c d = true := by simpa using h1
  clear h1
  obtain ⟨_, x0, x1, x2, _⟩ := id X1
  go_wp2_with fail
  refine (iIsE_any u v x _).mono ?_
  rintro e w2 ⟨rfl, hb2⟩
  have F2 := F1.next hb2
  have X2 := X1.next hb2
  have Y2 := Y1.next hb2
  have R2 := R1.next hb2
  have U2 := gr_trans U1 hb2
  clear F1 X1 Y1 R1 U1 x0 x1 x2
  by_cases h2 : isE u v x = false
  · obtain ⟨_, r0, r1, r2, f0, f1, f2⟩ := id R2
    have hg : g = false := by rw [← HG.out]; simp [h2]
    subst hg
    go_wp2_with fail
    refine bodyPost_ret (res_A3 (e := 2) rfl Tryd.underlying27 (by kernel_rfl) rfl (by (repeat (first | with_reducible assumption | with_reducible exact Arr3.box (by assumption) | with_reducible exact Arr3.new _ _ _ _ _ | with_reducible refine Arr3.drew ?_ | with_reducible refine Arr3.drewN ?_ _ | with_reducible refine Arr3.store3 ?_ | with_reducible refine Arr3.alloc ?_ _ | with_reducible refine Arr3.next ?_ (by assumption) | refine Arr3.oth ?_ (by first | (simp; done) | omega | (simp; omega)) _ )))) rfl ?_
    exact ⟨ret_t3 (by simp [if0, mec]) (by simp [if0, mec]) (by simp [if0, mec]) (by simp [mec]), by (repeat' (first | with_reducible exact Below.refl _ _ | with_reducible assumption | with_reducible refine gr_alloc ?_ _ | with_reducible refine gr_drew ?_ | with_reducible refine gr_drewN ?_ _ | with_reducible refine gr_trans ?_ (by assumption) | with_reducible refine gr_set ?_ ?_ _ | (simp; done) | omega | (simp; omega)))⟩
  have h2' : isE u v x = true := by simpa using h2
  clear h2
  obtain ⟨_, y0, y1, y2, _⟩ := id Y2
  go_wp2_with fail
  refine (iIsE_any p q r _).mono ?_
  rintro e w3 ⟨rfl, hb3⟩
  have F3 := F2.next hb3
  have X3 := X2.next hb3
  have Y3 := Y2.next hb3
  have R3 := R2.next hb3
  have U3 := gr_trans U2 hb3
  clear F2 X2 Y2 R2 U2 y0 y1 y2
  by_cases h3 : isE p q r = false
  · obtain ⟨_, r0, r1, r2, f0, f1, f2⟩ := id R3
    have hg : g = false := by rw [← HG.out]; simp [h3]
    subst hg
    go_wp2_with fail
    refine bodyPost_ret (res_A3 (e := 2) rfl Tryd.underlying27 (by kernel_rfl) rfl (by (repeat (first | with_reducible assumption | with_reducible exact Arr3.box (by assumption) | with_reducible exact Arr3.new _ _ _ _ _ | with_reducible refine Arr3.drew ?_ | with_reducible refine Arr3.drewN ?_ _ | with_reducible refine Arr3.store3 ?_ | with_reducible refine Arr3.alloc ?_ _ | with_reducible refine Arr3.next ?_ (by assumption) | refine Arr3.oth ?_ (by first | (simp; done) | omega | (simp; omega)) _ )))) rfl ?_
    exact ⟨ret_t3 (by simp [if0, mec]) (by simp [if0, mec]) (by simp [if0, mec]) (by simp [mec]), by (repeat' (first | with_reducible exact Below.refl _ _ | with_reducible assumption | with_reducible refine gr_alloc ?_ _ | with_reducible refine gr_drew ?_ | with_reducible refine gr_drewN ?_ _ | with_reducible refine gr_trans ?_ (by assumption) | with_reducible refine gr_set ?_ ?_ _ | (simp; done) | omega | (simp; omega)))⟩
  have h3' : isE p q r = true := by simpa using h3
  clear h3
  have hg : g = true := by rw [← HG.out]; simp [h1', h2', h3']
  subst hg
  obtain ⟨_, a0, a1, a2, a3, _⟩ := id F3
  obtain ⟨_, x0, x1, x2, _⟩ := id X3
  obtain ⟨_, y0, y1, y2, _⟩ := id Y3
  go_upto_region 3 with fail
  have hz := U3.size
  have hzr := R3.lt
  go_region_held3 (fun W => W.cell? ⟨w.heap.size, 0, none⟩ = some (.int .i64 a) ∧ W.cell? ⟨w.heap.size, 1, none⟩ = some (.int .i64 b) ∧ W.cell? ⟨w.heap.size, 2, none⟩ = some (.int .i64 c) ∧ W.cell? ⟨w.heap.size, 3, none⟩ = some (.int .i64 d) ∧ W.cell? ⟨w.heap.size + 1, 0, none⟩ = some (.int .i64 u) ∧ W.cell? ⟨w.heap.size + 1, 1, none⟩ = some (.int .i64 v) ∧ W.cell? ⟨w.heap.size + 1, 2, none⟩ = some (.int .i64 x) ∧ W.cell? ⟨w.heap.size + 1 + 1, 0, none⟩ = some (.int .i64 p) ∧ W.cell? ⟨w.heap.size + 1 + 1, 1, none⟩ = some (.int .i64 q) ∧ W.cell? ⟨w.heap.size + 1 + 1, 2, none⟩ = some (.int .i64 r)) (refine cells433 ?_ ?_ ?_ <;> (repeat (first | with_reducible assumption | with_reducible exact Arr.box (by assumption) | with_reducible exact Box.new _ _ _ _ _ _ | with_reducible exact Arr.new _ _ _ _ _ _ | with_reducible refine Arr.drew ?_ | with_reducible refine Arr.drewN ?_ _ | with_reducible refine Arr.store4 ?_ | with_reducible refine Arr.alloc ?_ _ | with_reducible refine Box.drew ?_ | with_reducible refine Box.drewN ?_ _ | with_reducible refine Box.alloc ?_ _ | with_reducible refine Arr.next ?_ (by assumption) | with_reducible refine Box.next ?_ (by assumption) | refine Arr.oth ?_ (by first | (simp; done) | omega | (simp; omega)) _ | refine Box.oth ?_ (by first | (simp; done) | omega | (simp; omega)) _ | with_reducible exact Arr3.box (by assumption) | with_reducible exact Box3.new _ _ _ _ _ | with_reducible exact Arr3.new _ _ _ _ _ | with_reducible refine Arr3.drew ?_ | with_reducible refine Arr3.drewN ?_ _ | with_reducible refine Arr3.store3 ?_ | with_reducible refine Arr3.alloc ?_ _ | with_reducible refine Box3.drew ?_ | with_reducible refine Box3.drewN ?_ _ | with_reducible refine Box3.alloc ?_ _ | with_reducible refine Arr3.next ?_ (by assumption) | with_reducible refine Box3.next ?_ (by assumption) | refine Arr3.oth ?_ (by first | (simp; done) | omega | (simp; omega)) _ | refine Box3.oth ?_ (by first | (simp; done) | omega | (simp; omega)) _))) (first | (go_at_call 52; refine (HP.out _).mono ?_; rintro e w4 ⟨rfl, hb4⟩; have hz4 := hb4.size; (try simp at hz4)) | (go_at_call 74; refine (HM.out _).mono ?_; rintro e w5 ⟨rfl, hb5⟩; have hz5 := hb5.size; (try simp at hz5)) | (go_at_call 54; refine (HT.out _).mono ?_; rintro e w6 ⟨rfl, hb6⟩; have hz6 := hb6.size; (try simp at hz6); have hR : Arr3 w6 (w.heap.size + 1 + 1 + 1) 0 0 0 := (by (repeat (first | with_reducible assumption | with_reducible exact Arr.box (by assumption) | with_reducible exact Box.new _ _ _ _ _ _ | with_reducible exact Arr.new _ _ _ _ _ _ | with_reducible refine Arr.drew ?_ | with_reducible refine Arr.drewN ?_ _ | with_reducible refine Arr.store4 ?_ | with_reducible refine Arr.alloc ?_ _ | with_reducible refine Box.drew ?_ | with_reducible refine Box.drewN ?_ _ | with_reducible refine Box.alloc ?_ _ | with_reducible refine Arr.next ?_ (by assumption) | with_reducible refine Box.next ?_ (by assumption) | refine Arr.oth ?_ (by first | (simp; done) | omega | (simp; omega)) _ | refine Box.oth ?_ (by first | (simp; done) | omega | (simp; omega)) _ | with_reducible exact Arr3.box (by assumption) | with_reducible exact Box3.new _ _ _ _ _ | with_reducible exact Arr3.new _ _ _ _ _ | with_reducible refine Arr3.drew ?_ | with_reducible refine Arr3.drewN ?_ _ | with_reducible refine Arr3.store3 ?_ | with_reducible refine Arr3.alloc ?_ _ | with_reducible refine Box3.drew ?_ | with_reducible refine Box3.drewN ?_ _ | with_reducible refine Box3.alloc ?_ _ | with_reducible refine Arr3.next ?_ (by assumption) | with_reducible refine Box3.next ?_ (by assumption) | refine Arr3.oth ?_ (by first | (simp; done) | omega | (simp; omega)) _ | refine Box3.oth ?_ (by first | (simp; done) | omega | (simp; omega)) _))); obtain ⟨_, r0, r1, r2, f0, f1, f2⟩ := id hR))
  all_goals (go_wp2_with fail; refine bodyPost_ret (res_A3 (e := 2) rfl Tryd.underlying27 (by kernel_rfl) rfl (by (repeat (first | with_reducible assumption | with_reducible exact Arr3.box (by assumption) | with_reducible exact Arr3.new _ _ _ _ _ | with_reducible refine Arr3.drew ?_ | with_reducible refine Arr3.drewN ?_ _ | with_reducible refine Arr3.store3 ?_ | with_reducible refine Arr3.alloc ?_ _ | with_reducible refine Arr3.next ?_ (by assumption) | refine Arr3.oth ?_ (by first | (simp; done) | omega | (simp; omega)) _ )))) rfl ?_; exact ⟨ret_t3 (by rw [HE.out]) (by rw [HE.out]) (by rw [HE.out]) HE.out.symm, by (repeat' (first | with_reducible exact Below.refl _ _ | with_reducible assumption | with_reducible refine gr_alloc ?_ _ | with_reducible refine gr_drew ?_ | with_reducible refine gr_drewN ?_ _ | with_reducible refine gr_trans ?_ (by assumption) | with_reducible refine gr_set ?_ ?_ _ | (simp; done) | omega | (simp; omega)))⟩)

set_option maxRecDepth 100000 in
set_option maxHeartbeats 2000000 in
theorem sMulE_any (a b c d u v x p q r : Int) (w : World) :
    Calls Tryd.prog 47 #[.agg #[.int .i64 a, .int .i64 b, .int .i64 c, .int .i64 d], .agg #[.int .i64 u, .int .i64 v, .int .i64 x], .agg #[.int .i64 p, .int .i64 q, .int .i64 r]] w fun e w' => e = .returned (.tuple #[.agg #[.int .i64 (if0 (mec (isF a b c d && isE u v x && isE p q r) (m0 (np a c) (np a d) (np b d) u v x p q r) (m1 b 0 d u v x p q r) (m2 (ng a) 0 (ng c) u v x p q r)) (m0 (np a c) (np a d) (np b d) u v x p q r)), .int .i64 (if0 (mec (isF a b c d && isE u v x && isE p q r) (m0 (np a c) (np a d) (np b d) u v x p q r) (m1 b 0 d u v x p q r) (m2 (ng a) 0 (ng c) u v x p q r)) (m1 b 0 d u v x p q r)), .int .i64 (if0 (mec (isF a b c d && isE u v x && isE p q r) (m0 (np a c) (np a d) (np b d) u v x p q r) (m1 b 0 d u v x p q r) (m2 (ng a) 0 (ng c) u v x p q r)) (m2 (ng a) 0 (ng c) u v x p q r))], .int .i64 (mec (isF a b c d && isE u v x && isE p q r) (m0 (np a c) (np a d) (np b d) u v x p q r) (m1 b 0 d u v x p q r) (m2 (ng a) 0 (ng c) u v x p q r))]) ∧ Below w.heap.size w w' := by
  have hc := fun k W => sCode2_any k a b c d u v x p q r W
  have ht := fun W => sTable_any a b c d W
  have hm := fun k cap W => sBy_any k cap (np a c) b (ng a) (np a d) 0 0 (np b d) d (ng c) u v x p q r W
  generalize m0 (np a c) (np a d) (np b d) u v x p q r = k0 at hm ⊢
  generalize m1 b 0 d u v x p q r = k1 at hm ⊢
  generalize m2 (ng a) 0 (ng c) u v x p q r = k2 at hm ⊢
  generalize np a c = t0 at ht hm
  generalize ng a = t2 at ht hm
  generalize np a d = t3 at ht hm
  generalize np b d = t6 at ht hm
  generalize ng c = t8 at ht hm
  have hl := fun W => sTold_any k0 k1 k2 W
  have he : mec true k0 k1 k2 = elc k0 k1 k2 := rfl
  have hf : fee a b c d u v x p q r = if (isF a b c d && isE u v x && isE p q r) then 0 else 1 := rfl
  generalize (isF a b c d && isE u v x && isE p q r) = g at hf ⊢
  rw [hf] at hc
  clear hf
  have HC := hid hc; have HT := hid ht; have HM := hid hm
  clear hc ht hm
  have F0 := (((Arr.new w a b c d 25).alloc (.cells #[.int .i64 u, .int .i64 v, .int .i64 x] 27)).alloc (.cells #[.int .i64 p, .int .i64 q, .int .i64 r] 27)).alloc (.cells #[.int .i64 0, .int .i64 0, .int .i64 0] 27)
  have X0 := ((Arr3.new (w.alloc (.cells #[.int .i64 a, .int .i64 b, .int .i64 c, .int .i64 d] 25)) u v x 27).alloc (.cells #[.int .i64 p, .int .i64 q, .int .i64 r] 27)).alloc (.cells #[.int .i64 0, .int .i64 0, .int .i64 0] 27)
  have Y0 := (Arr3.new ((w.alloc (.cells #[.int .i64 a, .int .i64 b, .int .i64 c, .int .i64 d] 25)).alloc (.cells #[.int .i64 u, .int .i64 v, .int .i64 x] 27)) p q r 27).alloc (.cells #[.int .i64 0, .int .i64 0, .int .i64 0] 27)
  have R0 := Arr3.new (((w.alloc (.cells #[.int .i64 a, .int .i64 b, .int .i64 c, .int .i64 d] 25)).alloc (.cells #[.int .i64 u, .int .i64 v, .int .i64 x] 27)).alloc (.cells #[.int .i64 p, .int .i64 q, .int .i64 r] 27)) 0 0 0 27
  have U0 := gr_alloc (gr_alloc (gr_alloc (gr_alloc (Below.refl w.heap.size w) (.cells #[.int .i64 a, .int .i64 b, .int .i64 c, .int .i64 d] 25)) (.cells #[.int .i64 u, .int .i64 v, .int .i64 x] 27)) (.cells #[.int .i64 p, .int .i64 q, .int .i64 r] 27)) (.cells #[.int .i64 0, .int .i64 0, .int .i64 0] 27)
  simp only [World.size_alloc] at X0 Y0 R0
  have T0 := Arr6.new (((((w.alloc (.cells #[.int .i64 a, .int .i64 b, .int .i64 c, .int .i64 d] 25)).alloc (.cells #[.int .i64 u, .int .i64 v, .int .i64 x] 27)).alloc (.cells #[.int .i64 p, .int .i64 q, .int .i64 r] 27)).alloc (.cells #[.int .i64 0, .int .i64 0, .int .i64 0] 27))) u v x p q r 27
  simp only [World.size_alloc] at T0
  generalize elc k0 k1 k2 = kc at hl he
  have HL := hid hl
  have HE := hid he
  clear hl he
  go_enter Tryd.func47, Tryd.ntmps47
  go_wp2_with fail
  refine (HC.out _ _ T0).mono ?_
  rintro e w1 ⟨rfl, hb1⟩
  have F1 := (F0.alloc (.cells #[.int .i64 u, .int .i64 v, .int .i64 x, .int .i64 p, .int .i64 q, .int .i64 r] 27)).next hb1
  have X1 := (X0.alloc (.cells #[.int .i64 u, .int .i64 v, .int .i64 x, .int .i64 p, .int .i64 q, .int .i64 r] 27)).next hb1
  have Y1 := (Y0.alloc (.cells #[.int .i64 u, .int .i64 v, .int .i64 x, .int .i64 p, .int .i64 q, .int .i64 r] 27)).next hb1
  have R1 := (R0.alloc (.cells #[.int .i64 u, .int .i64 v, .int .i64 x, .int .i64 p, .int .i64 q, .int .i64 r] 27)).next hb1
  have U1 := gr_trans (gr_alloc U0 (.cells #[.int .i64 u, .int .i64 v, .int .i64 x, .int .i64 p, .int .i64 q, .int .i64 r] 27)) hb1
  clear F0 X0 Y0 R0 U0 T0
  cases g with
  | false =>
    obtain ⟨_, r0, r1, r2, f0, f1, f2⟩ := id R1
    simp only [Bool.false_eq_true, if_false]
    go_wp2_with fail
    refine bodyPost_ret (res_A3 (e := 2) rfl Tryd.underlying27 (by kernel_rfl) rfl (by (repeat (first | with_reducible assumption | with_reducible exact Arr3.box (by assumption) | with_reducible exact Arr3.new _ _ _ _ _ | with_reducible refine Arr3.drew ?_ | with_reducible refine Arr3.drewN ?_ _ | with_reducible refine Arr3.store3 ?_ | with_reducible refine Arr3.alloc ?_ _ | with_reducible refine Arr3.next ?_ (by assumption) | refine Arr3.oth ?_ (by first | (simp; done) | omega | (simp; omega)) _ )))) rfl ?_
    exact ⟨ret_t3 (by simp [if0, mec]) (by simp [if0, mec]) (by simp [if0, mec]) (by simp [mec]), by (repeat' (first | with_reducible exact Below.refl _ _ | with_reducible assumption | with_reducible refine gr_alloc ?_ _ | with_reducible refine gr_drew ?_ | with_reducible refine gr_drewN ?_ _ | with_reducible refine gr_trans ?_ (by assumption) | with_reducible refine gr_set ?_ ?_ _ | (simp; done) | omega | (simp; omega)))⟩
  | true =>
    simp only [if_true]
    obtain ⟨_, a0, a1, a2, a3, _⟩ := id F1
    obtain ⟨_, x0, x1, x2, _⟩ := id X1
    obtain ⟨_, y0, y1, y2, _⟩ := id Y1
    go_upto_region 4 with fail
    have hz := U1.size
    have hzr := R1.lt
    go_cut [9, 10] (fun s9 s10 wx => ∃ g : Nat, s9 = .pointer (some ⟨g, 0, none⟩) ∧ s10 = .int .i64 kc ∧ Arr3 wx g (if0 kc k0) (if0 kc k1) (if0 kc k2) ∧ Arr3 wx (w.heap.size + 1 + 1 + 1) 0 0 0 ∧ Below w.heap.size w wx)
    case first =>
      go_region_held3 (fun W => W.cell? ⟨w.heap.size, 0, none⟩ = some (.int .i64 a) ∧ W.cell? ⟨w.heap.size, 1, none⟩ = some (.int .i64 b) ∧ W.cell? ⟨w.heap.size, 2, none⟩ = some (.int .i64 c) ∧ W.cell? ⟨w.heap.size, 3, none⟩ = some (.int .i64 d) ∧ W.cell? ⟨w.heap.size + 1, 0, none⟩ = some (.int .i64 u) ∧ W.cell? ⟨w.heap.size + 1, 1, none⟩ = some (.int .i64 v) ∧ W.cell? ⟨w.heap.size + 1, 2, none⟩ = some (.int .i64 x) ∧ W.cell? ⟨w.heap.size + 1 + 1, 0, none⟩ = some (.int .i64 p) ∧ W.cell? ⟨w.heap.size + 1 + 1, 1, none⟩ = some (.int .i64 q) ∧ W.cell? ⟨w.heap.size + 1 + 1, 2, none⟩ = some (.int .i64 r)) (refine cells433 ?_ ?_ ?_ <;> (repeat (first | with_reducible assumption | with_reducible exact Arr.box (by assumption) | with_reducible exact Box.new _ _ _ _ _ _ | with_reducible exact Arr.new _ _ _ _ _ _ | with_reducible refine Arr.drew ?_ | with_reducible refine Arr.drewN ?_ _ | with_reducible refine Arr.store4 ?_ | with_reducible refine Arr.alloc ?_ _ | with_reducible refine Box.drew ?_ | with_reducible refine Box.drewN ?_ _ | with_reducible refine Box.alloc ?_ _ | with_reducible refine Arr.next ?_ (by assumption) | with_reducible refine Box.next ?_ (by assumption) | refine Arr.oth ?_ (by first | (simp; done) | omega | (simp; omega)) _ | refine Box.oth ?_ (by first | (simp; done) | omega | (simp; omega)) _ | with_reducible exact Arr3.box (by assumption) | with_reducible exact Box3.new _ _ _ _ _ | with_reducible exact Arr3.new _ _ _ _ _ | with_reducible refine Arr3.drew ?_ | with_reducible refine Arr3.drewN ?_ _ | with_reducible refine Arr3.store3 ?_ | with_reducible refine Arr3.alloc ?_ _ | with_reducible refine Box3.drew ?_ | with_reducible refine Box3.drewN ?_ _ | with_reducible refine Box3.alloc ?_ _ | with_reducible refine Arr3.next ?_ (by assumption) | with_reducible refine Box3.next ?_ (by assumption) | refine Arr3.oth ?_ (by first | (simp; done) | omega | (simp; omega)) _ | refine Box3.oth ?_ (by first | (simp; done) | omega | (simp; omega)) _))) (first | (go_at_call 58; refine (HT.out _).mono ?_; rintro e w4 ⟨kt, rfl, hkt, hP4, hb4⟩; have hz4 := hb4.size; (try simp at hz4)) | (go_at_call 57; refine (HM.out _ _ _ (by (repeat (first | with_reducible assumption | with_reducible exact Arr9.new _ _ _ _ _ _ _ _ _ _ _ | with_reducible refine Arr9.drew ?_ | with_reducible refine Arr9.drewN ?_ _ | with_reducible refine Arr9.alloc ?_ _ | with_reducible refine Arr9.next ?_ (by assumption))))).mono ?_; rintro e w5 ⟨rfl, hb5⟩; have hz5 := hb5.size; (try simp at hz5)) | (go_at_call 59; refine (HL.out _).mono ?_; rintro e w6 ⟨rfl, hb6⟩; have hz6 := hb6.size; (try simp at hz6); (first | (refine Box3.elim (w := w6) (k := w1.heap.size) ?_ ?_; (repeat (first | with_reducible assumption | with_reducible exact Arr.box (by assumption) | with_reducible exact Box.new _ _ _ _ _ _ | with_reducible exact Arr.new _ _ _ _ _ _ | with_reducible refine Arr.drew ?_ | with_reducible refine Arr.drewN ?_ _ | with_reducible refine Arr.store4 ?_ | with_reducible refine Arr.alloc ?_ _ | with_reducible refine Box.drew ?_ | with_reducible refine Box.drewN ?_ _ | with_reducible refine Box.alloc ?_ _ | with_reducible refine Arr.next ?_ (by assumption) | with_reducible refine Box.next ?_ (by assumption) | refine Arr.oth ?_ (by first | (simp; done) | omega | (simp; omega)) _ | refine Box.oth ?_ (by first | (simp; done) | omega | (simp; omega)) _ | with_reducible exact Arr3.box (by assumption) | with_reducible exact Box3.new _ _ _ _ _ | with_reducible exact Arr3.new _ _ _ _ _ | with_reducible refine Arr3.drew ?_ | with_reducible refine Arr3.drewN ?_ _ | with_reducible refine Arr3.store3 ?_ | with_reducible refine Arr3.alloc ?_ _ | with_reducible refine Box3.drew ?_ | with_reducible refine Box3.drewN ?_ _ | with_reducible refine Box3.alloc ?_ _ | with_reducible refine Arr3.next ?_ (by assumption) | with_reducible refine Box3.next ?_ (by assumption) | refine Arr3.oth ?_ (by first | (simp; done) | omega | (simp; omega)) _ | refine Box3.oth ?_ (by first | (simp; done) | omega | (simp; omega)) _)); intro y0 y1 y2 hR; obtain ⟨_, x0, x1, x2, g0, g1, g2⟩ := id hR) | (refine Box3.elim (w := w6) (k := w4.heap.size) ?_ ?_; (repeat (first | with_reducible assumption | with_reducible exact Arr.box (by assumption) | with_reducible exact Box.new _ _ _ _ _ _ | with_reducible exact Arr.new _ _ _ _ _ _ | with_reducible refine Arr.drew ?_ | with_reducible refine Arr.drewN ?_ _ | with_reducible refine Arr.store4 ?_ | with_reducible refine Arr.alloc ?_ _ | with_reducible refine Box.drew ?_ | with_reducible refine Box.drewN ?_ _ | with_reducible refine Box.alloc ?_ _ | with_reducible refine Arr.next ?_ (by assumption) | with_reducible refine Box.next ?_ (by assumption) | refine Arr.oth ?_ (by first | (simp; done) | omega | (simp; omega)) _ | refine Box.oth ?_ (by first | (simp; done) | omega | (simp; omega)) _ | with_reducible exact Arr3.box (by assumption) | with_reducible exact Box3.new _ _ _ _ _ | with_reducible exact Arr3.new _ _ _ _ _ | with_reducible refine Arr3.drew ?_ | with_reducible refine Arr3.drewN ?_ _ | with_reducible refine Arr3.store3 ?_ | with_reducible refine Arr3.alloc ?_ _ | with_reducible refine Box3.drew ?_ | with_reducible refine Box3.drewN ?_ _ | with_reducible refine Box3.alloc ?_ _ | with_reducible refine Arr3.next ?_ (by assumption) | with_reducible refine Box3.next ?_ (by assumption) | refine Arr3.oth ?_ (by first | (simp; done) | omega | (simp; omega)) _ | refine Box3.oth ?_ (by first | (simp; done) | omega | (simp; omega)) _)); intro y0 y1 y2 hR; obtain ⟨_, x0, x1, x2, g0, g1, g2⟩ := id hR) | (refine Box3.elim (w := w6) (k := w5.heap.size) ?_ ?_; (repeat (first | with_reducible assumption | with_reducible exact Arr.box (by assumption) | with_reducible exact Box.new _ _ _ _ _ _ | with_reducible exact Arr.new _ _ _ _ _ _ | with_reducible refine Arr.drew ?_ | with_reducible refine Arr.drewN ?_ _ | with_reducible refine Arr.store4 ?_ | with_reducible refine Arr.alloc ?_ _ | with_reducible refine Box.drew ?_ | with_reducible refine Box.drewN ?_ _ | with_reducible refine Box.alloc ?_ _ | with_reducible refine Arr.next ?_ (by assumption) | with_reducible refine Box.next ?_ (by assumption) | refine Arr.oth ?_ (by first | (simp; done) | omega | (simp; omega)) _ | refine Box.oth ?_ (by first | (simp; done) | omega | (simp; omega)) _ | with_reducible exact Arr3.box (by assumption) | with_reducible exact Box3.new _ _ _ _ _ | with_reducible exact Arr3.new _ _ _ _ _ | with_reducible refine Arr3.drew ?_ | with_reducible refine Arr3.drewN ?_ _ | with_reducible refine Arr3.store3 ?_ | with_reducible refine Arr3.alloc ?_ _ | with_reducible refine Box3.drew ?_ | with_reducible refine Box3.drewN ?_ _ | with_reducible refine Box3.alloc ?_ _ | with_reducible refine Arr3.next ?_ (by assumption) | with_reducible refine Box3.next ?_ (by assumption) | refine Arr3.oth ?_ (by first | (simp; done) | omega | (simp; omega)) _ | refine Box3.oth ?_ (by first | (simp; done) | omega | (simp; omega)) _)); intro y0 y1 y2 hR; obtain ⟨_, x0, x1, x2, g0, g1, g2⟩ := id hR) | skip)))
      all_goals (go_wp2_with fail; go_meet; exact ⟨_, rfl, rfl, by (repeat (first | with_reducible assumption | with_reducible exact Arr.box (by assumption) | with_reducible exact Box.new _ _ _ _ _ _ | with_reducible exact Arr.new _ _ _ _ _ _ | with_reducible refine Arr.drew ?_ | with_reducible refine Arr.drewN ?_ _ | with_reducible refine Arr.store4 ?_ | with_reducible refine Arr.alloc ?_ _ | with_reducible refine Box.drew ?_ | with_reducible refine Box.drewN ?_ _ | with_reducible refine Box.alloc ?_ _ | with_reducible refine Arr.next ?_ (by assumption) | with_reducible refine Box.next ?_ (by assumption) | refine Arr.oth ?_ (by first | (simp; done) | omega | (simp; omega)) _ | refine Box.oth ?_ (by first | (simp; done) | omega | (simp; omega)) _ | with_reducible exact Arr3.box (by assumption) | with_reducible exact Box3.new _ _ _ _ _ | with_reducible exact Arr3.new _ _ _ _ _ | with_reducible refine Arr3.drew ?_ | with_reducible refine Arr3.drewN ?_ _ | with_reducible refine Arr3.store3 ?_ | with_reducible refine Arr3.alloc ?_ _ | with_reducible refine Box3.drew ?_ | with_reducible refine Box3.drewN ?_ _ | with_reducible refine Box3.alloc ?_ _ | with_reducible refine Arr3.next ?_ (by assumption) | with_reducible refine Box3.next ?_ (by assumption) | refine Arr3.oth ?_ (by first | (simp; done) | omega | (simp; omega)) _ | refine Box3.oth ?_ (by first | (simp; done) | omega | (simp; omega)) _)), by (repeat (first | with_reducible assumption | with_reducible exact Arr.box (by assumption) | with_reducible exact Box.new _ _ _ _ _ _ | with_reducible exact Arr.new _ _ _ _ _ _ | with_reducible refine Arr.drew ?_ | with_reducible refine Arr.drewN ?_ _ | with_reducible refine Arr.store4 ?_ | with_reducible refine Arr.alloc ?_ _ | with_reducible refine Box.drew ?_ | with_reducible refine Box.drewN ?_ _ | with_reducible refine Box.alloc ?_ _ | with_reducible refine Arr.next ?_ (by assumption) | with_reducible refine Box.next ?_ (by assumption) | refine Arr.oth ?_ (by first | (simp; done) | omega | (simp; omega)) _ | refine Box.oth ?_ (by first | (simp; done) | omega | (simp; omega)) _ | with_reducible exact Arr3.box (by assumption) | with_reducible exact Box3.new _ _ _ _ _ | with_reducible exact Arr3.new _ _ _ _ _ | with_reducible refine Arr3.drew ?_ | with_reducible refine Arr3.drewN ?_ _ | with_reducible refine Arr3.store3 ?_ | with_reducible refine Arr3.alloc ?_ _ | with_reducible refine Box3.drew ?_ | with_reducible refine Box3.drewN ?_ _ | with_reducible refine Box3.alloc ?_ _ | with_reducible refine Arr3.next ?_ (by assumption) | with_reducible refine Box3.next ?_ (by assumption) | refine Arr3.oth ?_ (by first | (simp; done) | omega | (simp; omega)) _ | refine Box3.oth ?_ (by first | (simp; done) | omega | (simp; omega)) _)), by (repeat' (first | with_reducible exact Below.refl _ _ | with_reducible assumption | with_reducible refine gr_alloc ?_ _ | with_reducible refine gr_drew ?_ | with_reducible refine gr_drewN ?_ _ | with_reducible refine gr_trans ?_ (by assumption) | with_reducible refine gr_set ?_ ?_ _ | (simp; done) | omega | (simp; omega)))⟩)
    case rest =>
      obtain ⟨gg, rfl, rfl, hG, hR, hU⟩ := hcut
      clear F1 X1 Y1 R1 U1 a0 a1 a2 a3 x0 x1 x2 y0 y1 y2
      obtain ⟨_, x0, x1, x2, _⟩ := id hG
      obtain ⟨_, r0, r1, r2, f0, f1, f2⟩ := id hR
      go_wp2_with fail
      refine bodyPost_ret (res_A3 (e := 2) rfl Tryd.underlying27 (by kernel_rfl) rfl (by (repeat (first | with_reducible assumption | with_reducible exact Arr3.box (by assumption) | with_reducible exact Arr3.new _ _ _ _ _ | with_reducible refine Arr3.drew ?_ | with_reducible refine Arr3.drewN ?_ _ | with_reducible refine Arr3.store3 ?_ | with_reducible refine Arr3.alloc ?_ _ | with_reducible refine Arr3.next ?_ (by assumption) | refine Arr3.oth ?_ (by first | (simp; done) | omega | (simp; omega)) _ )))) rfl ?_
      exact ⟨ret_t3 (by rw [HE.out]) (by rw [HE.out]) (by rw [HE.out]) HE.out.symm, by (repeat' (first | with_reducible exact Below.refl _ _ | with_reducible assumption | with_reducible refine gr_alloc ?_ _ | with_reducible refine gr_drew ?_ | with_reducible refine gr_drewN ?_ _ | with_reducible refine gr_trans ?_ (by assumption) | with_reducible refine gr_set ?_ ?_ _ | (simp; done) | omega | (simp; omega)))⟩

end Go.Proofs.YtdogkkmdccieiaaDoor
