/- Chapter 4: codes of forms and elements. -/
import Derived.Test.YtambbhldhhlfgaaE1
import Derived.Test.YtambbhldhhlfgaaZ2
namespace Go.Proofs.Ytambbhldhhlfgaa
open Go.RowKit

set_option maxRecDepth 100000 in
set_option maxHeartbeats 1000000 in
theorem sCode1_any (k : Nat) (a b c d u v x : Int) (w : World) (h : Arr3 w k u v x) :
    Calls Try.prog 56 #[.agg #[.int .i64 a, .int .i64 b, .int .i64 c, .int .i64 d], .slice (some ⟨k, 0, none⟩) 1 1] w fun e w' => e = .returned (.int .i64 (fec a b c d u v x)) ∧ Below w.heap.size w w' := by
  have h0 := h.alloc (.cells #[.int .i64 a, .int .i64 b, .int .i64 c, .int .i64 d] 25)
  clear h
  go_enter Try.func56, Try.ntmps56
  go_wp2_with fail
  refine (l01Is_any a b c d _).mono ?_
  rintro e w1 ⟨rfl, hb1⟩
  have h1 := h0.next hb1
  clear h0
  obtain ⟨_, c0, c1, c2, _⟩ := id h1
  by_cases hm : isF a b c d = true
  · go_wp2_with fail
    refine wp_loop_rounds 2 ?_
    rw [rounds_succ]; go_wp2_with fail
    refine (sIsE0_any u v x _).mono ?_
    rintro e w2 ⟨rfl, hb2⟩
    by_cases hn : isE u v x = true
    · go_wp2_with fail
      rw [rounds_succ]; go_wp2_with fail
      go_ret
      exact ⟨ret_int (by simp [fec, hm, hn]), by (repeat' (first | with_reducible exact Below.refl _ _ | with_reducible assumption | with_reducible refine gr_alloc ?_ _ | with_reducible refine gr_drew ?_ | with_reducible refine gr_drewN ?_ _ | with_reducible refine gr_trans ?_ (by assumption) | with_reducible refine gr_set ?_ ?_ _ | (simp; done) | omega | (simp; omega)))⟩
    · have hn' : isE u v x = false := by simpa using hn
      clear hn
      go_wp2_with fail
      go_ret
      exact ⟨ret_int (by simp [fec, hn']), by (repeat' (first | with_reducible exact Below.refl _ _ | with_reducible assumption | with_reducible refine gr_alloc ?_ _ | with_reducible refine gr_drew ?_ | with_reducible refine gr_drewN ?_ _ | with_reducible refine gr_trans ?_ (by assumption) | with_reducible refine gr_set ?_ ?_ _ | (simp; done) | omega | (simp; omega)))⟩
  · have hm' : isF a b c d = false := by simpa using hm
    clear hm
    go_wp2_with fail
    go_ret
    exact ⟨ret_int (by simp [fec, hm']), by (repeat' (first | with_reducible exact Below.refl _ _ | with_reducible assumption | with_reducible refine gr_alloc ?_ _ | with_reducible refine gr_drew ?_ | with_reducible refine gr_drewN ?_ _ | with_reducible refine gr_trans ?_ (by assumption) | with_reducible refine gr_set ?_ ?_ _ | (simp; done) | omega | (simp; omega)))⟩

set_option maxRecDepth 100000 in
set_option maxHeartbeats 1000000 in
theorem sCode2_any (k : Nat) (a b c d u v x p q r : Int) (w : World) (h : Arr6 w k u v x p q r) :
    Calls Try.prog 56 #[.agg #[.int .i64 a, .int .i64 b, .int .i64 c, .int .i64 d], .slice (some ⟨k, 0, none⟩) 2 2] w fun e w' => e = .returned (.int .i64 (fee a b c d u v x p q r)) ∧ Below w.heap.size w w' := by
  have h0 := h.alloc (.cells #[.int .i64 a, .int .i64 b, .int .i64 c, .int .i64 d] 25)
  clear h
  go_enter Try.func56, Try.ntmps56
  go_wp2_with fail
  refine (l01Is_any a b c d _).mono ?_
  rintro e w1 ⟨rfl, hb1⟩
  have h1 := h0.next hb1
  clear h0
  obtain ⟨_, c0, c1, c2, c3, c4, c5⟩ := id h1
  by_cases hm : isF a b c d = true
  · go_wp2_with fail
    refine wp_loop_rounds 3 ?_
    rw [rounds_succ]; go_wp2_with fail
    refine (sIsE0_any u v x _).mono ?_
    rintro e w2 ⟨rfl, hb2⟩
    have h2 := h1.next hb2
    clear c0 c1 c2 c3 c4 c5
    obtain ⟨_, c0, c1, c2, c3, c4, c5⟩ := id h2
    by_cases hn : isE u v x = true
    · go_wp2_with fail
      rw [rounds_succ]; go_wp2_with fail
      refine (sIsE0_any p q r _).mono ?_
      rintro e w3 ⟨rfl, hb3⟩
      by_cases ho : isE p q r = true
      · go_wp2_with fail
        rw [rounds_succ]; go_wp2_with fail
        go_ret
        exact ⟨ret_int (by simp [fee, hm, hn, ho]), by (repeat' (first | with_reducible exact Below.refl _ _ | with_reducible assumption | with_reducible refine gr_alloc ?_ _ | with_reducible refine gr_drew ?_ | with_reducible refine gr_drewN ?_ _ | with_reducible refine gr_trans ?_ (by assumption) | with_reducible refine gr_set ?_ ?_ _ | (simp; done) | omega | (simp; omega)))⟩
      · have ho' : isE p q r = false := by simpa using ho
        clear ho
        go_wp2_with fail
        go_ret
        exact ⟨ret_int (by simp [fee, ho']), by (repeat' (first | with_reducible exact Below.refl _ _ | with_reducible assumption | with_reducible refine gr_alloc ?_ _ | with_reducible refine gr_drew ?_ | with_reducible refine gr_drewN ?_ _ | with_reducible refine gr_trans ?_ (by assumption) | with_reducible refine gr_set ?_ ?_ _ | (simp; done) | omega | (simp; omega)))⟩
    · have hn' : isE u v x = false := by simpa using hn
      clear hn
      go_wp2_with fail
      go_ret
      exact ⟨ret_int (by simp [fee, hn']), by (repeat' (first | with_reducible exact Below.refl _ _ | with_reducible assumption | with_reducible refine gr_alloc ?_ _ | with_reducible refine gr_drew ?_ | with_reducible refine gr_drewN ?_ _ | with_reducible refine gr_trans ?_ (by assumption) | with_reducible refine gr_set ?_ ?_ _ | (simp; done) | omega | (simp; omega)))⟩
  · have hm' : isF a b c d = false := by simpa using hm
    clear hm
    go_wp2_with fail
    go_ret
    exact ⟨ret_int (by simp [fee, hm']), by (repeat' (first | with_reducible exact Below.refl _ _ | with_reducible assumption | with_reducible refine gr_alloc ?_ _ | with_reducible refine gr_drew ?_ | with_reducible refine gr_drewN ?_ _ | with_reducible refine gr_trans ?_ (by assumption) | with_reducible refine gr_set ?_ ?_ _ | (simp; done) | omega | (simp; omega)))⟩

set_option maxRecDepth 100000 in
set_option maxHeartbeats 1000000 in
theorem sCode0_any (a b c d : Int) (w : World) :
    Calls Try.prog 56 #[.agg #[.int .i64 a, .int .i64 b, .int .i64 c, .int .i64 d], .slice none 0 0] w fun e w' => e = .returned (.int .i64 (cif a b c d)) ∧ Below w.heap.size w w' := by
  go_enter Try.func56, Try.ntmps56
  go_wp2_with fail
  refine (l01Is_any a b c d _).mono ?_
  rintro e w1 ⟨rfl, hb1⟩
  by_cases hm : isF a b c d = true
  · go_wp2_with fail
    refine wp_loop_rounds 1 ?_
    rw [rounds_succ]; go_wp2_with fail
    go_ret
    exact ⟨ret_int (by simp [cif, hm]), by (repeat' (first | with_reducible exact Below.refl _ _ | with_reducible assumption | with_reducible refine gr_alloc ?_ _ | with_reducible refine gr_drew ?_ | with_reducible refine gr_drewN ?_ _ | with_reducible refine gr_trans ?_ (by assumption) | with_reducible refine gr_set ?_ ?_ _ | (simp; done) | omega | (simp; omega)))⟩
  · have hm' : isF a b c d = false := by simpa using hm
    clear hm
    go_wp2_with fail
    go_ret
    exact ⟨ret_int (by simp [cif, hm']), by (repeat' (first | with_reducible exact Below.refl _ _ | with_reducible assumption | with_reducible refine gr_alloc ?_ _ | with_reducible refine gr_drew ?_ | with_reducible refine gr_drewN ?_ _ | with_reducible refine gr_trans ?_ (by assumption) | with_reducible refine gr_set ?_ ?_ _ | (simp; done) | omega | (simp; omega)))⟩

theorem fec_0 {a b c d u v x : Int} : fec a b c d u v x = 0 ↔ isF a b c d = true ∧ isE u v x = true := by
  unfold fec; split <;> simp_all
theorem few_0 {L a b c d u v x : Int} (h : fec a b c d u v x = 0) (h4 : (-L ≤ a ∧ a ≤ L) ∧ (-L ≤ b ∧ b ≤ L) ∧ (-L ≤ c ∧ c ≤ L) ∧ (-L ≤ d ∧ d ≤ L)) (h3 : (-L ≤ u ∧ u ≤ L) ∧ (-L ≤ v ∧ v ≤ L) ∧ (-L ≤ x ∧ x ≤ L)) : few L a b c d u v x = 0 := by
  obtain ⟨h, h'⟩ := fec_0.1 h
  simp [few, h, h', is4_mk h4.1 h4.2.1 h4.2.2.1 h4.2.2.2, is3_mk h3.1 h3.2.1 h3.2.2]
theorem few_2 {L a b c d u v x : Int} (h : fec a b c d u v x = 0) (hn : ¬ (((-L ≤ a ∧ a ≤ L) ∧ (-L ≤ b ∧ b ≤ L) ∧ (-L ≤ c ∧ c ≤ L) ∧ (-L ≤ d ∧ d ≤ L)) ∧ (-L ≤ u ∧ u ≤ L) ∧ (-L ≤ v ∧ v ≤ L) ∧ (-L ≤ x ∧ x ≤ L))) : few L a b c d u v x = 2 := by
  obtain ⟨h, h'⟩ := fec_0.1 h
  simp only [few, h, h', Bool.and_self, if_true]
  rw [if_neg (fun e => hn (by rw [Bool.and_eq_true] at e; exact ⟨is4_t e.1, is3_t e.2⟩))]
theorem few_1 {L a b c d u v x : Int} (h : fec a b c d u v x ≠ 0) : few L a b c d u v x = fec a b c d u v x := by
  unfold few fec at *
  by_cases hc : (isF a b c d && isE u v x) = true
  · rw [if_pos hc] at h; exact absurd rfl h
  · rw [if_neg hc, if_neg hc]
theorem few_t {L a b c d u v x : Int} (h : few L a b c d u v x = 0) : isF a b c d = true ∧ isE u v x = true ∧ is4 L a b c d = true ∧ is3 L u v x = true := by
  unfold few at h
  split at h
  · split at h <;> simp_all
  · omega

set_option maxRecDepth 100000 in
set_option maxHeartbeats 2000000 in
theorem sWithin_any (L a b c d u v x : Int) (w : World) (h0 : 0 ≤ L) (h1 : L ≤ 1000000000000) :
    Calls Try.prog 71 #[.agg #[.int .i64 a, .int .i64 b, .int .i64 c, .int .i64 d], .agg #[.int .i64 u, .int .i64 v, .int .i64 x], .int .i64 L] w fun e w' => e = .returned (.int .i64 (few L a b c d u v x)) ∧ Below w.heap.size w w' := by
  have hc := fun k W => sCode1_any k a b c d u v x W
  have k0 : fec a b c d u v x = 0 → _ → _ → few L a b c d u v x = 0 := few_0
  have k2 : fec a b c d u v x = 0 → _ → few L a b c d u v x = 2 := few_2
  have k1 : fec a b c d u v x ≠ 0 → few L a b c d u v x = fec a b c d u v x := few_1
  generalize fec a b c d u v x = k at hc k0 k1 k2
  generalize few L a b c d u v x = r at k0 k1 k2 ⊢
  have HC := hid hc; have K0 := hid k0; have K1 := hid k1; have K2 := hid k2
  clear hc k0 k1 k2
  have A0 := ((Arr.new w a b c d 25).alloc (.cells #[.int .i64 u, .int .i64 v, .int .i64 x] 27)).alloc (.cells #[.int .i64 u, .int .i64 v, .int .i64 x] 27)
  have E0 := (Arr3.new (w.alloc (.cells #[.int .i64 a, .int .i64 b, .int .i64 c, .int .i64 d] 25)) u v x 27).alloc (.cells #[.int .i64 u, .int .i64 v, .int .i64 x] 27)
  have T0 := Arr3.new ((w.alloc (.cells #[.int .i64 a, .int .i64 b, .int .i64 c, .int .i64 d] 25)).alloc (.cells #[.int .i64 u, .int .i64 v, .int .i64 x] 27)) u v x 27
  simp only [World.size_alloc] at E0 T0
  go_enter Try.func71, Try.ntmps71
  go_wp2_with fail
  refine (HC.out _ _ T0).mono ?_
  rintro e w1 ⟨rfl, hb1⟩
  have A1 := A0.next hb1
  have E1 := E0.next hb1
  clear A0 E0 T0
  obtain ⟨_, a0, a1, a2, a3, _⟩ := id A1
  obtain ⟨_, e0, e1, e2, _⟩ := id E1
  by_cases hk : k = 0
  · subst hk
    go_wp2_with fail
    refine wp_loop_rounds 5 ?_
    rw [rounds_succ]
    go_wp2_with fail
    refine (l01In_any _ _ _ _).mono ?_
    rintro e z1 ⟨rfl, rfl⟩
    by_cases ra' : rng (-L) L a = false
    · go_wp2_with fail
      go_ret
      exact ⟨ret_int (K2.out (by first | rfl | trivial) (by have := rng_f ra'; omega)).symm, by (repeat' (first | with_reducible exact Below.refl _ _ | with_reducible assumption | with_reducible refine gr_alloc ?_ _ | with_reducible refine gr_drew ?_ | with_reducible refine gr_drewN ?_ _ | with_reducible refine gr_trans ?_ (by assumption) | with_reducible refine gr_set ?_ ?_ _ | (simp; done) | omega | (simp; omega)))⟩
    have ra : rng (-L) L a = true := by simpa using ra'
    clear ra'
    go_wp2_with fail
    refine (l01In_any _ _ _ _).mono ?_
    rintro e z2 ⟨rfl, rfl⟩
    by_cases ru' : rng (-L) L u = false
    · go_wp2_with fail
      go_ret
      exact ⟨ret_int (K2.out (by first | rfl | trivial) (by have := rng_f ru'; omega)).symm, by (repeat' (first | with_reducible exact Below.refl _ _ | with_reducible assumption | with_reducible refine gr_alloc ?_ _ | with_reducible refine gr_drew ?_ | with_reducible refine gr_drewN ?_ _ | with_reducible refine gr_trans ?_ (by assumption) | with_reducible refine gr_set ?_ ?_ _ | (simp; done) | omega | (simp; omega)))⟩
    have ru : rng (-L) L u = true := by simpa using ru'
    clear ru'
    go_wp2_with fail
    rw [rounds_succ]
    go_wp2_with fail
    refine (l01In_any _ _ _ _).mono ?_
    rintro e z3 ⟨rfl, rfl⟩
    by_cases rb' : rng (-L) L b = false
    · go_wp2_with fail
      go_ret
      exact ⟨ret_int (K2.out (by first | rfl | trivial) (by have := rng_f rb'; omega)).symm, by (repeat' (first | with_reducible exact Below.refl _ _ | with_reducible assumption | with_reducible refine gr_alloc ?_ _ | with_reducible refine gr_drew ?_ | with_reducible refine gr_drewN ?_ _ | with_reducible refine gr_trans ?_ (by assumption) | with_reducible refine gr_set ?_ ?_ _ | (simp; done) | omega | (simp; omega)))⟩
    have rb : rng (-L) L b = true := by simpa using rb'
    clear rb'
    go_wp2_with fail
    refine (l01In_any _ _ _ _).mono ?_
    rintro e z4 ⟨rfl, rfl⟩
    by_cases rv' : rng (-L) L v = false
    · go_wp2_with fail
      go_ret
      exact ⟨ret_int (K2.out (by first | rfl | trivial) (by have := rng_f rv'; omega)).symm, by (repeat' (first | with_reducible exact Below.refl _ _ | with_reducible assumption | with_reducible refine gr_alloc ?_ _ | with_reducible refine gr_drew ?_ | with_reducible refine gr_drewN ?_ _ | with_reducible refine gr_trans ?_ (by assumption) | with_reducible refine gr_set ?_ ?_ _ | (simp; done) | omega | (simp; omega)))⟩
    have rv : rng (-L) L v = true := by simpa using rv'
    clear rv'
    go_wp2_with fail
    rw [rounds_succ]
    go_wp2_with fail
    refine (l01In_any _ _ _ _).mono ?_
    rintro e z5 ⟨rfl, rfl⟩
    by_cases rc' : rng (-L) L c = false
    · go_wp2_with fail
      go_ret
      exact ⟨ret_int (K2.out (by first | rfl | trivial) (by have := rng_f rc'; omega)).symm, by (repeat' (first | with_reducible exact Below.refl _ _ | with_reducible assumption | with_reducible refine gr_alloc ?_ _ | with_reducible refine gr_drew ?_ | with_reducible refine gr_drewN ?_ _ | with_reducible refine gr_trans ?_ (by assumption) | with_reducible refine gr_set ?_ ?_ _ | (simp; done) | omega | (simp; omega)))⟩
    have rc : rng (-L) L c = true := by simpa using rc'
    clear rc'
    go_wp2_with fail
    refine (l01In_any _ _ _ _).mono ?_
    rintro e z6 ⟨rfl, rfl⟩
    by_cases rx' : rng (-L) L x = false
    · go_wp2_with fail
      go_ret
      exact ⟨ret_int (K2.out (by first | rfl | trivial) (by have := rng_f rx'; omega)).symm, by (repeat' (first | with_reducible exact Below.refl _ _ | with_reducible assumption | with_reducible refine gr_alloc ?_ _ | with_reducible refine gr_drew ?_ | with_reducible refine gr_drewN ?_ _ | with_reducible refine gr_trans ?_ (by assumption) | with_reducible refine gr_set ?_ ?_ _ | (simp; done) | omega | (simp; omega)))⟩
    have rx : rng (-L) L x = true := by simpa using rx'
    clear rx'
    go_wp2_with fail
    rw [rounds_succ]
    go_wp2_with fail
    refine (l01In_any _ _ _ _).mono ?_
    rintro e z7 ⟨rfl, rfl⟩
    by_cases rd' : rng (-L) L d = false
    · go_wp2_with fail
      go_ret
      exact ⟨ret_int (K2.out (by first | rfl | trivial) (by have := rng_f rd'; omega)).symm, by (repeat' (first | with_reducible exact Below.refl _ _ | with_reducible assumption | with_reducible refine gr_alloc ?_ _ | with_reducible refine gr_drew ?_ | with_reducible refine gr_drewN ?_ _ | with_reducible refine gr_trans ?_ (by assumption) | with_reducible refine gr_set ?_ ?_ _ | (simp; done) | omega | (simp; omega)))⟩
    have rd : rng (-L) L d = true := by simpa using rd'
    clear rd'
    go_wp2_with fail
    rw [rounds_succ]
    go_wp2_with fail
    go_ret
    exact ⟨ret_int (K0.out (by first | rfl | trivial) ⟨rng_t ra, rng_t rb, rng_t rc, rng_t rd⟩ ⟨rng_t ru, rng_t rv, rng_t rx⟩).symm, by (repeat' (first | with_reducible exact Below.refl _ _ | with_reducible assumption | with_reducible refine gr_alloc ?_ _ | with_reducible refine gr_drew ?_ | with_reducible refine gr_drewN ?_ _ | with_reducible refine gr_trans ?_ (by assumption) | with_reducible refine gr_set ?_ ?_ _ | (simp; done) | omega | (simp; omega)))⟩
  · have hk' : (k == 0) = false := by simpa using hk
    have HK := hid hk
    clear hk
    go_wp2
    go_ret
    exact ⟨ret_int (K1.out HK.out).symm, by (repeat' (first | with_reducible exact Below.refl _ _ | with_reducible assumption | with_reducible refine gr_alloc ?_ _ | with_reducible refine gr_drew ?_ | with_reducible refine gr_drewN ?_ _ | with_reducible refine gr_trans ?_ (by assumption) | with_reducible refine gr_set ?_ ?_ _ | (simp; done) | omega | (simp; omega)))⟩

set_option maxRecDepth 100000 in
set_option maxHeartbeats 1000000 in
theorem iWithinFE_any (L a b c d u v x : Int) (w : World) (h0 : 0 ≤ L) (h1 : L ≤ 1000000000000) :
    Calls Try.prog 68 #[.agg #[.int .i64 a, .int .i64 b, .int .i64 c, .int .i64 d], .agg #[.int .i64 u, .int .i64 v, .int .i64 x], .int .i64 L] w fun e w' => e = .returned (.int .i64 (few L a b c d u v x)) ∧ Below w.heap.size w w' := by
  go_enter Try.func68, Try.ntmps68
  go_wp2_with fail
  refine (iIsForm_any a b c d _).mono ?_
  rintro e w1 ⟨rfl, hb1⟩
  have A1 := ((Arr.new w a b c d 25).alloc (.cells #[.int .i64 u, .int .i64 v, .int .i64 x] 27)).next hb1
  have E1 := (Arr3.new (w.alloc (.cells #[.int .i64 a, .int .i64 b, .int .i64 c, .int .i64 d] 25)) u v x 27).next hb1
  simp only [World.size_alloc] at E1
  by_cases hm : isF a b c d = true
  · obtain ⟨_, e0, e1, e2, _⟩ := id E1
    go_wp2_with fail
    refine (iIsE_any u v x _).mono ?_
    rintro e w2 ⟨rfl, hb2⟩
    have A2 := A1.next hb2
    have E2 := E1.next hb2
    clear e0 e1 e2
    by_cases hn : isE u v x = true
    · go_wp2_with fail
      refine (allW4_any L _ a b c d _ A2 h0 h1).mono ?_
      rintro e w3 ⟨rfl, rfl⟩
      by_cases h4 : is4 L a b c d = true
      · go_wp2_with fail
        refine (allW3_any L _ u v x _ E2 h0 h1).mono ?_
        rintro e w3 ⟨rfl, rfl⟩
        by_cases h3 : is3 L u v x = true
        · go_wp2_with fail
          go_ret
          exact ⟨ret_int (by simp [few, hm, hn, h4, h3]), by (repeat' (first | with_reducible exact Below.refl _ _ | with_reducible assumption | with_reducible refine gr_alloc ?_ _ | with_reducible refine gr_drew ?_ | with_reducible refine gr_drewN ?_ _ | with_reducible refine gr_trans ?_ (by assumption) | with_reducible refine gr_set ?_ ?_ _ | (simp; done) | omega | (simp; omega)))⟩
        · have h3' : is3 L u v x = false := by simpa using h3
          clear h3
          go_wp2_with fail
          go_ret
          exact ⟨ret_int (by simp [few, hm, hn, h3']), by (repeat' (first | with_reducible exact Below.refl _ _ | with_reducible assumption | with_reducible refine gr_alloc ?_ _ | with_reducible refine gr_drew ?_ | with_reducible refine gr_drewN ?_ _ | with_reducible refine gr_trans ?_ (by assumption) | with_reducible refine gr_set ?_ ?_ _ | (simp; done) | omega | (simp; omega)))⟩
      · have h4' : is4 L a b c d = false := by simpa using h4
        clear h4
        go_wp2_with fail
        go_ret
        exact ⟨ret_int (by simp [few, hm, hn, h4']), by (repeat' (first | with_reducible exact Below.refl _ _ | with_reducible assumption | with_reducible refine gr_alloc ?_ _ | with_reducible refine gr_drew ?_ | with_reducible refine gr_drewN ?_ _ | with_reducible refine gr_trans ?_ (by assumption) | with_reducible refine gr_set ?_ ?_ _ | (simp; done) | omega | (simp; omega)))⟩
    · have hn' : isE u v x = false := by simpa using hn
      clear hn
      go_wp2_with fail
      go_ret
      exact ⟨ret_int (by simp [few, hn']), by (repeat' (first | with_reducible exact Below.refl _ _ | with_reducible assumption | with_reducible refine gr_alloc ?_ _ | with_reducible refine gr_drew ?_ | with_reducible refine gr_drewN ?_ _ | with_reducible refine gr_trans ?_ (by assumption) | with_reducible refine gr_set ?_ ?_ _ | (simp; done) | omega | (simp; omega)))⟩
  · have hm' : isF a b c d = false := by simpa using hm
    clear hm
    go_wp2_with fail
    go_ret
    exact ⟨ret_int (by simp [few, hm']), by (repeat' (first | with_reducible exact Below.refl _ _ | with_reducible assumption | with_reducible refine gr_alloc ?_ _ | with_reducible refine gr_drew ?_ | with_reducible refine gr_drewN ?_ _ | with_reducible refine gr_trans ?_ (by assumption) | with_reducible refine gr_set ?_ ?_ _ | (simp; done) | omega | (simp; omega)))⟩

end Go.Proofs.Ytambbhldhhlfgaa
