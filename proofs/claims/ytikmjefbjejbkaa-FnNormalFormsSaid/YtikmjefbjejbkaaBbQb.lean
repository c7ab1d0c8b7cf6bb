/- Chapter 2: the code of two forms, in the program and in the model. -/
import Derived.Test.YtikmjefbjejbkaaBbQa
namespace Go.Proofs.Ytikmjefbjejbkaa
open Go.RowKit

/-- The code of two forms. -/
def rcd2 (a b c d p q r s : Int) : Int :=
  if isF a b c d then if isF p q r s then if isR a b c d then if isR p q r s then if dsc a b c d = 0 then 5 else if dsc p q r s = 0 then 5 else 0 else 2 else 2 else 1 else 1
theorem rcd2_0 {a b c d p q r s : Int} (h : rcd2 a b c d p q r s = 0) : rcd a b c d = 0 ∧ rcd p q r s = 0 := by
  unfold rcd2 at h
  unfold rcd
  (repeat' split at h) <;> simp_all
theorem rcd2_self (a b c d : Int) : rcd2 a b c d a b c d = rcd a b c d := by
  unfold rcd2 rcd
  (repeat' split) <;> simp_all
/-- Two forms in one block. -/
structure Two4 (w : World) (k : Nat) (a b c d p q r s : Int) : Prop where
  lt : k < w.heap.size
  c0 : w.cell? ⟨k, 0, none⟩ = some (.int .i64 a)
  c1 : w.cell? ⟨k, 1, none⟩ = some (.int .i64 b)
  c2 : w.cell? ⟨k, 2, none⟩ = some (.int .i64 c)
  c3 : w.cell? ⟨k, 3, none⟩ = some (.int .i64 d)
  c4 : w.cell? ⟨k, 4, none⟩ = some (.int .i64 p)
  c5 : w.cell? ⟨k, 5, none⟩ = some (.int .i64 q)
  c6 : w.cell? ⟨k, 6, none⟩ = some (.int .i64 r)
  c7 : w.cell? ⟨k, 7, none⟩ = some (.int .i64 s)
theorem Two4.next {w w' : World} {k : Nat} {a b c d p q r s : Int} (h : Two4 w k a b c d p q r s) (hb : Below w.heap.size w w') : Two4 w' k a b c d p q r s := by
  have hc : ∀ o, w'.cell? ⟨k, o, none⟩ = w.cell? ⟨k, o, none⟩ := fun o => hb.cell (p := ⟨k, o, none⟩) h.lt
  exact ⟨Nat.lt_of_lt_of_le h.lt hb.size, (hc 0).trans h.c0, (hc 1).trans h.c1, (hc 2).trans h.c2, (hc 3).trans h.c3, (hc 4).trans h.c4, (hc 5).trans h.c5, (hc 6).trans h.c6, (hc 7).trans h.c7⟩
theorem Two4.new (w : World) (a b c d p q r s : Int) (T : TypeId) : Two4 (w.alloc (.cells #[.int .i64 a, .int .i64 b, .int .i64 c, .int .i64 d, .int .i64 p, .int .i64 q, .int .i64 r, .int .i64 s] T)) w.heap.size a b c d p q r s := by
  refine ⟨by simp, ?_, ?_, ?_, ?_, ?_, ?_, ?_, ?_⟩ <;> simp [go_sem]
theorem Two4.alloc {w : World} {k : Nat} {a b c d p q r s : Int} (h : Two4 w k a b c d p q r s) (o : Obj) : Two4 (w.alloc o) k a b c d p q r s := h.next (gr_alloc (Below.refl _ w) o)

set_option maxRecDepth 100000 in
set_option maxHeartbeats 2000000 in
theorem iSep2_any (k : Nat) (a b c d p q r s : Int) (w : World) (A : Two4 w k a b c d p q r s) :
    Calls Try.prog 85 #[.int .i64 100, .slice (some ⟨k, 0, none⟩) 2 2] w fun e w' => e = .returned (.int .i64 (rcd2 a b c d p q r s)) ∧ Below w.heap.size w w' := by
  have U := Below.refl w.heap.size w
  obtain ⟨_, a0, a1, a2, a3, a4, a5, a6, a7⟩ := id A
  go_enter Try.func85, Try.ntmps85
  go_wp2_with fail
  refine wp_loop_rounds 3 ?_
  rw [rounds_succ]; go_wp2_with fail
  refine (iIsForm_any a b c d _).mono ?_
  rintro e w1 ⟨rfl, hb1⟩
  have A1 := (A.alloc (.cells #[.int .i64 a, .int .i64 b, .int .i64 c, .int .i64 d] 26)).next hb1
  have U1 := gr_trans (gr_alloc U (.cells #[.int .i64 a, .int .i64 b, .int .i64 c, .int .i64 d] 26)) hb1
  clear a0 a1 a2 a3 a4 a5 a6 a7 A U hb1
  obtain ⟨A, U⟩ := And.intro A1 U1
  clear A1 U1
  obtain ⟨_, a0, a1, a2, a3, a4, a5, a6, a7⟩ := id A
  by_cases hf1 : isF a b c d = true
  rotate_left 1
  · have hf' : isF a b c d = false := by simpa using hf1
    clear hf1
    go_wp2_with fail
    go_ret
    exact ⟨ret_int (by simp_all [rcd2]), by (repeat' (first | with_reducible exact Below.refl _ _ | with_reducible assumption | with_reducible refine gr_alloc ?_ _ | with_reducible refine gr_drew ?_ | with_reducible refine gr_drewN ?_ _ | with_reducible refine gr_trans ?_ (by assumption) | with_reducible refine gr_set ?_ ?_ _ | (simp; done) | omega | (simp; omega)))⟩
  go_wp2_with fail
  rw [rounds_succ]; go_wp2_with fail
  refine (iIsForm_any p q r s _).mono ?_
  rintro e w1 ⟨rfl, hb1⟩
  have A1 := (A.alloc (.cells #[.int .i64 p, .int .i64 q, .int .i64 r, .int .i64 s] 26)).next hb1
  have U1 := gr_trans (gr_alloc U (.cells #[.int .i64 p, .int .i64 q, .int .i64 r, .int .i64 s] 26)) hb1
  clear a0 a1 a2 a3 a4 a5 a6 a7 A U hb1
  obtain ⟨A, U⟩ := And.intro A1 U1
  clear A1 U1
  obtain ⟨_, a0, a1, a2, a3, a4, a5, a6, a7⟩ := id A
  by_cases hf2 : isF p q r s = true
  rotate_left 1
  · have hf' : isF p q r s = false := by simpa using hf2
    clear hf2
    go_wp2_with fail
    go_ret
    exact ⟨ret_int (by simp_all [rcd2]), by (repeat' (first | with_reducible exact Below.refl _ _ | with_reducible assumption | with_reducible refine gr_alloc ?_ _ | with_reducible refine gr_drew ?_ | with_reducible refine gr_drewN ?_ _ | with_reducible refine gr_trans ?_ (by assumption) | with_reducible refine gr_set ?_ ?_ _ | (simp; done) | omega | (simp; omega)))⟩
  go_wp2_with fail
  rw [rounds_succ]; go_wp2_with fail
  refine wp_loop_rounds 3 ?_
  rw [rounds_succ]; go_wp2_with fail
  refine (allWithin100_any _ a b c d _ (Arr.new _ _ _ _ _ _)).mono ?_
  rintro e w2 ⟨rfl, rfl⟩
  have A1 := A.alloc (.cells #[.int .i64 a, .int .i64 b, .int .i64 c, .int .i64 d] 26)
  have U1 := gr_alloc U (.cells #[.int .i64 a, .int .i64 b, .int .i64 c, .int .i64 d] 26)
  clear a0 a1 a2 a3 a4 a5 a6 a7 A U
  obtain ⟨A, U⟩ := And.intro A1 U1
  clear A1 U1
  generalize w1.alloc (.cells #[.int .i64 a, .int .i64 b, .int .i64 c, .int .i64 d] 26) = w1 at A U ⊢
  obtain ⟨_, a0, a1, a2, a3, a4, a5, a6, a7⟩ := id A
  by_cases hr1 : isR a b c d = true
  rotate_left 1
  · have hr' : isR a b c d = false := by simpa using hr1
    clear hr1
    go_wp2_with fail
    go_ret
    exact ⟨ret_int (by simp_all [rcd2]), by (repeat' (first | with_reducible exact Below.refl _ _ | with_reducible assumption | with_reducible refine gr_alloc ?_ _ | with_reducible refine gr_drew ?_ | with_reducible refine gr_drewN ?_ _ | with_reducible refine gr_trans ?_ (by assumption) | with_reducible refine gr_set ?_ ?_ _ | (simp; done) | omega | (simp; omega)))⟩
  go_wp2_with fail
  rw [rounds_succ]; go_wp2_with fail
  refine (allWithin100_any _ p q r s _ (Arr.new _ _ _ _ _ _)).mono ?_
  rintro e w2 ⟨rfl, rfl⟩
  have A1 := A.alloc (.cells #[.int .i64 p, .int .i64 q, .int .i64 r, .int .i64 s] 26)
  have U1 := gr_alloc U (.cells #[.int .i64 p, .int .i64 q, .int .i64 r, .int .i64 s] 26)
  clear a0 a1 a2 a3 a4 a5 a6 a7 A U
  obtain ⟨A, U⟩ := And.intro A1 U1
  clear A1 U1
  generalize w1.alloc (.cells #[.int .i64 p, .int .i64 q, .int .i64 r, .int .i64 s] 26) = w1 at A U ⊢
  obtain ⟨_, a0, a1, a2, a3, a4, a5, a6, a7⟩ := id A
  by_cases hr2 : isR p q r s = true
  rotate_left 1
  · have hr' : isR p q r s = false := by simpa using hr2
    clear hr2
    go_wp2_with fail
    go_ret
    exact ⟨ret_int (by simp_all [rcd2]), by (repeat' (first | with_reducible exact Below.refl _ _ | with_reducible assumption | with_reducible refine gr_alloc ?_ _ | with_reducible refine gr_drew ?_ | with_reducible refine gr_drewN ?_ _ | with_reducible refine gr_trans ?_ (by assumption) | with_reducible refine gr_set ?_ ?_ _ | (simp; done) | omega | (simp; omega)))⟩
  go_wp2_with fail
  rw [rounds_succ]; go_wp2_with fail
  refine wp_loop_rounds 3 ?_
  rw [rounds_succ]; go_wp2_with fail
  have hs := fun W => iSign_any a b c d W
  by_cases hd1 : dsc a b c d = 0
  · rw [hd1] at hs
    have HS := hid hs
    clear hs
    refine (HS.out _).mono ?_
    rintro e w3 ⟨rfl, hb3⟩
    simp only [sg]
    have HD := hid hd1
    clear hd1
    go_wp2_with fail
    go_ret
    have hd' := HD.out
    exact ⟨ret_int (by simp_all [rcd2]), by (repeat' (first | with_reducible exact Below.refl _ _ | with_reducible assumption | with_reducible refine gr_alloc ?_ _ | with_reducible refine gr_drew ?_ | with_reducible refine gr_drewN ?_ _ | with_reducible refine gr_trans ?_ (by assumption) | with_reducible refine gr_set ?_ ?_ _ | (simp; done) | omega | (simp; omega)))⟩
  have HD1 := hid hd1
  obtain ⟨g1, hg1, hg1'⟩ : ∃ g, g = sg (dsc a b c d) ∧ (g == 0) = false := ⟨_, rfl, by unfold sg; simp only [beq_eq_false_iff_ne]; split <;> (try split) <;> omega⟩
  rw [← hg1] at hs
  have HS := hid hs
  clear hs hd1 hg1
  refine (HS.out _).mono ?_
  rintro e w3 ⟨rfl, hb3⟩
  have A1 := (A.alloc (.cells #[.int .i64 a, .int .i64 b, .int .i64 c, .int .i64 d] 26)).next hb3
  have U1 := gr_trans (gr_alloc U (.cells #[.int .i64 a, .int .i64 b, .int .i64 c, .int .i64 d] 26)) hb3
  clear a0 a1 a2 a3 a4 a5 a6 a7 A U hb3 HS
  obtain ⟨A, U⟩ := And.intro A1 U1
  clear A1 U1
  obtain ⟨_, a0, a1, a2, a3, a4, a5, a6, a7⟩ := id A
  go_wp2_with fail
  rw [rounds_succ]; go_wp2_with fail
  have hs := fun W => iSign_any p q r s W
  by_cases hd2 : dsc p q r s = 0
  · rw [hd2] at hs
    have HS := hid hs
    clear hs
    refine (HS.out _).mono ?_
    rintro e w3 ⟨rfl, hb3⟩
    simp only [sg]
    have HD := hid hd2
    clear hd2
    go_wp2_with fail
    go_ret
    have hd' := HD.out
    exact ⟨ret_int (by simp_all [rcd2]), by (repeat' (first | with_reducible exact Below.refl _ _ | with_reducible assumption | with_reducible refine gr_alloc ?_ _ | with_reducible refine gr_drew ?_ | with_reducible refine gr_drewN ?_ _ | with_reducible refine gr_trans ?_ (by assumption) | with_reducible refine gr_set ?_ ?_ _ | (simp; done) | omega | (simp; omega)))⟩
  have HD2 := hid hd2
  obtain ⟨g2, hg2, hg2'⟩ : ∃ g, g = sg (dsc p q r s) ∧ (g == 0) = false := ⟨_, rfl, by unfold sg; simp only [beq_eq_false_iff_ne]; split <;> (try split) <;> omega⟩
  rw [← hg2] at hs
  have HS := hid hs
  clear hs hd2 hg2
  refine (HS.out _).mono ?_
  rintro e w3 ⟨rfl, hb3⟩
  have A1 := (A.alloc (.cells #[.int .i64 p, .int .i64 q, .int .i64 r, .int .i64 s] 26)).next hb3
  have U1 := gr_trans (gr_alloc U (.cells #[.int .i64 p, .int .i64 q, .int .i64 r, .int .i64 s] 26)) hb3
  clear a0 a1 a2 a3 a4 a5 a6 a7 A U hb3 HS
  obtain ⟨A, U⟩ := And.intro A1 U1
  clear A1 U1
  obtain ⟨_, a0, a1, a2, a3, a4, a5, a6, a7⟩ := id A
  go_wp2_with fail
  rw [rounds_succ]; go_wp2_with fail
  go_ret
  have h1 := HD1.out
  have h2 := HD2.out
  exact ⟨ret_int (by simp_all [rcd2]), by (repeat' (first | with_reducible exact Below.refl _ _ | with_reducible assumption | with_reducible refine gr_alloc ?_ _ | with_reducible refine gr_drew ?_ | with_reducible refine gr_drewN ?_ _ | with_reducible refine gr_trans ?_ (by assumption) | with_reducible refine gr_set ?_ ?_ _ | (simp; done) | omega | (simp; omega)))⟩
set_option maxHeartbeats 400000 in
theorem iCheck2_any (k : Nat) (a b c d p q r s : Int) (w : World) (hA : Two4 w k a b c d p q r s) :
    Calls Try.prog 52 #[.slice (some ⟨k, 0, none⟩) 2 2] w fun e w' => e = .returned (.int .i64 (rcd2 a b c d p q r s)) ∧ Below w.heap.size w w' := by
  go_enter Try.func52, Try.ntmps52
  go_wp2_with fail
  refine (iSep2_any k a b c d p q r s _ hA).mono ?_
  rintro e w1 ⟨rfl, hb1⟩
  go_wp2
  go_ret
  exact ⟨rfl, hb1⟩

set_option maxRecDepth 100000 in
set_option maxHeartbeats 2000000 in
theorem sCode2_any (k : Nat) (a b c d p q r s : Int) (w : World) (A : Two4 w k a b c d p q r s) :
    Calls Try.prog 49 #[.slice (some ⟨k, 0, none⟩) 2 2] w fun e w' => e = .returned (.int .i64 (rcd2 a b c d p q r s)) ∧ Below w.heap.size w w' := by
  have U := Below.refl w.heap.size w
  obtain ⟨_, a0, a1, a2, a3, a4, a5, a6, a7⟩ := id A
  go_enter Try.func49, Try.ntmps49
  go_wp2_with fail
  refine wp_loop_rounds 3 ?_
  rw [rounds_succ]; go_wp2_with fail
  refine (l01Is_any a b c d _).mono ?_
  rintro e w1 ⟨rfl, hb1⟩
  have A1 := A.next hb1
  have U1 := gr_trans U hb1
  clear a0 a1 a2 a3 a4 a5 a6 a7 A U hb1
  obtain ⟨A, U⟩ := And.intro A1 U1
  clear A1 U1
  obtain ⟨_, a0, a1, a2, a3, a4, a5, a6, a7⟩ := id A
  by_cases hf1 : isF a b c d = true
  rotate_left 1
  · have hf' : isF a b c d = false := by simpa using hf1
    clear hf1
    go_wp2_with fail
    go_ret
    exact ⟨ret_int (by simp_all [rcd2]), by (repeat' (first | with_reducible exact Below.refl _ _ | with_reducible assumption | with_reducible refine gr_alloc ?_ _ | with_reducible refine gr_drew ?_ | with_reducible refine gr_drewN ?_ _ | with_reducible refine gr_trans ?_ (by assumption) | with_reducible refine gr_set ?_ ?_ _ | (simp; done) | omega | (simp; omega)))⟩
  go_wp2_with fail
  rw [rounds_succ]; go_wp2_with fail
  refine (l01Is_any p q r s _).mono ?_
  rintro e w1 ⟨rfl, hb1⟩
  have A1 := A.next hb1
  have U1 := gr_trans U hb1
  clear a0 a1 a2 a3 a4 a5 a6 a7 A U hb1
  obtain ⟨A, U⟩ := And.intro A1 U1
  clear A1 U1
  obtain ⟨_, a0, a1, a2, a3, a4, a5, a6, a7⟩ := id A
  by_cases hf2 : isF p q r s = true
  rotate_left 1
  · have hf' : isF p q r s = false := by simpa using hf2
    clear hf2
    go_wp2_with fail
    go_ret
    exact ⟨ret_int (by simp_all [rcd2]), by (repeat' (first | with_reducible exact Below.refl _ _ | with_reducible assumption | with_reducible refine gr_alloc ?_ _ | with_reducible refine gr_drew ?_ | with_reducible refine gr_drewN ?_ _ | with_reducible refine gr_trans ?_ (by assumption) | with_reducible refine gr_set ?_ ?_ _ | (simp; done) | omega | (simp; omega)))⟩
  go_wp2_with fail
  rw [rounds_succ]; go_wp2_with fail
  refine wp_loop_rounds 3 ?_
  rw [rounds_succ]; go_wp2_with fail
  refine wp_loop_rounds 5 ?_
  by_cases r10 : rng (-100) 100 a = true
  rotate_left 1
  · have r' : rng (-100) 100 a = false := by simpa using r10
    clear r10
    rw [rounds_succ]; go_wp2_with (go_at_call 96; refine (l01In_any _ _ _ _).mono ?_; rintro e w2 ⟨rfl, rfl⟩)
    go_ret
    exact ⟨ret_int (by have hr : isR a b c d = false := (by simp [isR, r']); simp_all [rcd2]), by (repeat' (first | with_reducible exact Below.refl _ _ | with_reducible assumption | with_reducible refine gr_alloc ?_ _ | with_reducible refine gr_drew ?_ | with_reducible refine gr_drewN ?_ _ | with_reducible refine gr_trans ?_ (by assumption) | with_reducible refine gr_set ?_ ?_ _ | (simp; done) | omega | (simp; omega)))⟩
  rw [rounds_succ]; go_wp2_with (go_at_call 96; refine (l01In_any _ _ _ _).mono ?_; rintro e w2 ⟨rfl, rfl⟩)
  by_cases r11 : rng (-100) 100 b = true
  rotate_left 1
  · have r' : rng (-100) 100 b = false := by simpa using r11
    clear r11
    rw [rounds_succ]; go_wp2_with (go_at_call 96; refine (l01In_any _ _ _ _).mono ?_; rintro e w2 ⟨rfl, rfl⟩)
    go_ret
    exact ⟨ret_int (by have hr : isR a b c d = false := (by simp [isR, r']); simp_all [rcd2]), by (repeat' (first | with_reducible exact Below.refl _ _ | with_reducible assumption | with_reducible refine gr_alloc ?_ _ | with_reducible refine gr_drew ?_ | with_reducible refine gr_drewN ?_ _ | with_reducible refine gr_trans ?_ (by assumption) | with_reducible refine gr_set ?_ ?_ _ | (simp; done) | omega | (simp; omega)))⟩
  rw [rounds_succ]; go_wp2_with (go_at_call 96; refine (l01In_any _ _ _ _).mono ?_; rintro e w2 ⟨rfl, rfl⟩)
  by_cases r12 : rng (-100) 100 c = true
  rotate_left 1
  · have r' : rng (-100) 100 c = false := by simpa using r12
    clear r12
    rw [rounds_succ]; go_wp2_with (go_at_call 96; refine (l01In_any _ _ _ _).mono ?_; rintro e w2 ⟨rfl, rfl⟩)
    go_ret
    exact ⟨ret_int (by have hr : isR a b c d = false := (by simp [isR, r']); simp_all [rcd2]), by (repeat' (first | with_reducible exact Below.refl _ _ | with_reducible assumption | with_reducible refine gr_alloc ?_ _ | with_reducible refine gr_drew ?_ | with_reducible refine gr_drewN ?_ _ | with_reducible refine gr_trans ?_ (by assumption) | with_reducible refine gr_set ?_ ?_ _ | (simp; done) | omega | (simp; omega)))⟩
  rw [rounds_succ]; go_wp2_with (go_at_call 96; refine (l01In_any _ _ _ _).mono ?_; rintro e w2 ⟨rfl, rfl⟩)
  by_cases r13 : rng (-100) 100 d = true
  rotate_left 1
  · have r' : rng (-100) 100 d = false := by simpa using r13
    clear r13
    rw [rounds_succ]; go_wp2_with (go_at_call 96; refine (l01In_any _ _ _ _).mono ?_; rintro e w2 ⟨rfl, rfl⟩)
    go_ret
    exact ⟨ret_int (by have hr : isR a b c d = false := (by simp [isR, r']); simp_all [rcd2]), by (repeat' (first | with_reducible exact Below.refl _ _ | with_reducible assumption | with_reducible refine gr_alloc ?_ _ | with_reducible refine gr_drew ?_ | with_reducible refine gr_drewN ?_ _ | with_reducible refine gr_trans ?_ (by assumption) | with_reducible refine gr_set ?_ ?_ _ | (simp; done) | omega | (simp; omega)))⟩
  rw [rounds_succ]; go_wp2_with (go_at_call 96; refine (l01In_any _ _ _ _).mono ?_; rintro e w2 ⟨rfl, rfl⟩)
  have hr1 : isR a b c d = true := by simp [isR, r10, r11, r12, r13]
  rw [rounds_succ]; go_wp2_with fail
  rw [rounds_succ]; go_wp2_with fail
  refine wp_loop_rounds 5 ?_
  by_cases r20 : rng (-100) 100 p = true
  rotate_left 1
  · have r' : rng (-100) 100 p = false := by simpa using r20
    clear r20
    rw [rounds_succ]; go_wp2_with (go_at_call 96; refine (l01In_any _ _ _ _).mono ?_; rintro e w2 ⟨rfl, rfl⟩)
    go_ret
    exact ⟨ret_int (by have hr : isR p q r s = false := (by simp [isR, r']); simp_all [rcd2]), by (repeat' (first | with_reducible exact Below.refl _ _ | with_reducible assumption | with_reducible refine gr_alloc ?_ _ | with_reducible refine gr_drew ?_ | with_reducible refine gr_drewN ?_ _ | with_reducible refine gr_trans ?_ (by assumption) | with_reducible refine gr_set ?_ ?_ _ | (simp; done) | omega | (simp; omega)))⟩
  rw [rounds_succ]; go_wp2_with (go_at_call 96; refine (l01In_any _ _ _ _).mono ?_; rintro e w2 ⟨rfl, rfl⟩)
  by_cases r21 : rng (-100) 100 q = true
  rotate_left 1
  · have r' : rng (-100) 100 q = false := by simpa using r21
    clear r21
    rw [rounds_succ]; go_wp2_with (go_at_call 96; refine (l01In_any _ _ _ _).mono ?_; rintro e w2 ⟨rfl, rfl⟩)
    go_ret
    exact ⟨ret_int (by have hr : isR p q r s = false := (by simp [isR, r']); simp_all [rcd2]), by (repeat' (first | with_reducible exact Below.refl _ _ | with_reducible assumption | with_reducible refine gr_alloc ?_ _ | with_reducible refine gr_drew ?_ | with_reducible refine gr_drewN ?_ _ | with_reducible refine gr_trans ?_ (by assumption) | with_reducible refine gr_set ?_ ?_ _ | (simp; done) | omega | (simp; omega)))⟩
  rw [rounds_succ]; go_wp2_with (go_at_call 96; refine (l01In_any _ _ _ _).mono ?_; rintro e w2 ⟨rfl, rfl⟩)
  by_cases r22 : rng (-100) 100 r = true
  rotate_left 1
  · have r' : rng (-100) 100 r = false := by simpa using r22
    clear r22
    rw [rounds_succ]; go_wp2_with (go_at_call 96; refine (l01In_any _ _ _ _).mono ?_; rintro e w2 ⟨rfl, rfl⟩)
    go_ret
    exact ⟨ret_int (by have hr : isR p q r s = false := (by simp [isR, r']); simp_all [rcd2]), by (repeat' (first | with_reducible exact Below.refl _ _ | with_reducible assumption | with_reducible refine gr_alloc ?_ _ | with_reducible refine gr_drew ?_ | with_reducible refine gr_drewN ?_ _ | with_reducible refine gr_trans ?_ (by assumption) | with_reducible refine gr_set ?_ ?_ _ | (simp; done) | omega | (simp; omega)))⟩
  rw [rounds_succ]; go_wp2_with (go_at_call 96; refine (l01In_any _ _ _ _).mono ?_; rintro e w2 ⟨rfl, rfl⟩)
  by_cases r23 : rng (-100) 100 s = true
  rotate_left 1
  · have r' : rng (-100) 100 s = false := by simpa using r23
    clear r23
    rw [rounds_succ]; go_wp2_with (go_at_call 96; refine (l01In_any _ _ _ _).mono ?_; rintro e w2 ⟨rfl, rfl⟩)
    go_ret
    exact ⟨ret_int (by have hr : isR p q r s = false := (by simp [isR, r']); simp_all [rcd2]), by (repeat' (first | with_reducible exact Below.refl _ _ | with_reducible assumption | with_reducible refine gr_alloc ?_ _ | with_reducible refine gr_drew ?_ | with_reducible refine gr_drewN ?_ _ | with_reducible refine gr_trans ?_ (by assumption) | with_reducible refine gr_set ?_ ?_ _ | (simp; done) | omega | (simp; omega)))⟩
  rw [rounds_succ]; go_wp2_with (go_at_call 96; refine (l01In_any _ _ _ _).mono ?_; rintro e w2 ⟨rfl, rfl⟩)
  have hr2 : isR p q r s = true := by simp [isR, r20, r21, r22, r23]
  rw [rounds_succ]; go_wp2_with fail
  rw [rounds_succ]; go_wp2_with fail
  refine wp_loop_rounds 3 ?_
  rw [rounds_succ]; go_wp2_with fail
  have hs := fun W => sDisc0_any a b c d W
  by_cases hd1 : dsc a b c d = 0
  · rw [hd1] at hs
    have HS := hid hs
    clear hs
    have HD := hid hd1
    clear hd1
    refine (HS.out _).mono ?_
    rintro e w3 ⟨rfl, hb3⟩
    go_wp2_with fail
    go_ret
    have hd' := HD.out
    exact ⟨ret_int (by simp_all [rcd2]), by (repeat' (first | with_reducible exact Below.refl _ _ | with_reducible assumption | with_reducible refine gr_alloc ?_ _ | with_reducible refine gr_drew ?_ | with_reducible refine gr_drewN ?_ _ | with_reducible refine gr_trans ?_ (by assumption) | with_reducible refine gr_set ?_ ?_ _ | (simp; done) | omega | (simp; omega)))⟩
  have hd1' : (dsc a b c d == 0) = false := by simpa using hd1
  have HD1 := hid hd1
  have HS := hid hs
  clear hs hd1
  refine (HS.out _).mono ?_
  rintro e w3 ⟨rfl, hb3⟩
  have A1 := A.next hb3
  have U1 := gr_trans U hb3
  clear a0 a1 a2 a3 a4 a5 a6 a7 A U hb3 HS
  obtain ⟨A, U⟩ := And.intro A1 U1
  clear A1 U1
  obtain ⟨_, a0, a1, a2, a3, a4, a5, a6, a7⟩ := id A
  go_wp2_with fail
  rw [rounds_succ]; go_wp2_with fail
  have hs := fun W => sDisc0_any p q r s W
  by_cases hd2 : dsc p q r s = 0
  · rw [hd2] at hs
    have HS := hid hs
    clear hs
    have HD := hid hd2
    clear hd2
    refine (HS.out _).mono ?_
    rintro e w3 ⟨rfl, hb3⟩
    go_wp2_with fail
    go_ret
    have hd' := HD.out
    exact ⟨ret_int (by simp_all [rcd2]), by (repeat' (first | with_reducible exact Below.refl _ _ | with_reducible assumption | with_reducible refine gr_alloc ?_ _ | with_reducible refine gr_drew ?_ | with_reducible refine gr_drewN ?_ _ | with_reducible refine gr_trans ?_ (by assumption) | with_reducible refine gr_set ?_ ?_ _ | (simp; done) | omega | (simp; omega)))⟩
  have hd2' : (dsc p q r s == 0) = false := by simpa using hd2
  have HD2 := hid hd2
  have HS := hid hs
  clear hs hd2
  refine (HS.out _).mono ?_
  rintro e w3 ⟨rfl, hb3⟩
  have A1 := A.next hb3
  have U1 := gr_trans U hb3
  clear a0 a1 a2 a3 a4 a5 a6 a7 A U hb3 HS
  obtain ⟨A, U⟩ := And.intro A1 U1
  clear A1 U1
  obtain ⟨_, a0, a1, a2, a3, a4, a5, a6, a7⟩ := id A
  go_wp2_with fail
  rw [rounds_succ]; go_wp2_with fail
  go_ret
  have h1 := HD1.out
  have h2 := HD2.out
  exact ⟨ret_int (by simp_all [rcd2]), by (repeat' (first | with_reducible exact Below.refl _ _ | with_reducible assumption | with_reducible refine gr_alloc ?_ _ | with_reducible refine gr_drew ?_ | with_reducible refine gr_drewN ?_ _ | with_reducible refine gr_trans ?_ (by assumption) | with_reducible refine gr_set ?_ ?_ _ | (simp; done) | omega | (simp; omega)))⟩

end Go.Proofs.Ytikmjefbjejbkaa
