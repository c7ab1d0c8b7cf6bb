/- Several texts in one: XRl1, XRl2. -/
import Derived.Test.YtikmjefbjejbkaaBbZ13

/- Which four numbers come first, in the model. -/
namespace Go.Proofs.Ytikmjefbjejbkaa
open Go.RowKit
namespace Rd
def ls (x y : Red.F4) : Bool := if x.1 ≠ y.1 then decide (x.1 < y.1) else if x.2.1 ≠ y.2.1 then decide (x.2.1 < y.2.1) else if x.2.2.1 ≠ y.2.2.1 then decide (x.2.2.1 < y.2.2.1) else decide (x.2.2.2 < y.2.2.2)
end Rd
set_option maxRecDepth 100000 in
set_option maxHeartbeats 4000000 in
theorem sLess_any (a b c d p q r s : Int) (w : World) : Calls Try.prog 117 #[.agg #[.int .i64 a, .int .i64 b, .int .i64 c, .int .i64 d], .agg #[.int .i64 p, .int .i64 q, .int .i64 r, .int .i64 s]] w fun e w' => e = .returned (.bool (Rd.ls (a, b, c, d) (p, q, r, s))) ∧ Below w.heap.size w w' := by
  have A0 := (Arr.new w a b c d 22).alloc (.cells #[.int .i64 p, .int .i64 q, .int .i64 r, .int .i64 s] 22)
  have B0 := Arr.new (w.alloc (.cells #[.int .i64 a, .int .i64 b, .int .i64 c, .int .i64 d] 22)) p q r s 22
  have U0 := gr_alloc (gr_alloc (Below.refl w.heap.size w) (.cells #[.int .i64 a, .int .i64 b, .int .i64 c, .int .i64 d] 22)) (.cells #[.int .i64 p, .int .i64 q, .int .i64 r, .int .i64 s] 22)
  simp only [World.size_alloc] at B0
  go_enter Try.func117, Try.ntmps117
  go_upto_region 1 with fail
  generalize (w.alloc (.cells #[.int .i64 a, .int .i64 b, .int .i64 c, .int .i64 d] 22)).alloc (.cells #[.int .i64 p, .int .i64 q, .int .i64 r, .int .i64 s] 22) = W0 at A0 B0 U0 ⊢
  obtain ⟨_, a0, a1, a2, a3, _⟩ := id A0
  obtain ⟨_, b0, b1, b2, b3, _⟩ := id B0
  have HE : Hid (Rd.ls (a, b, c, d) (p, q, r, s) = if a ≠ p then decide (a < p) else if b ≠ q then decide (b < q) else if c ≠ r then decide (c < r) else decide (d < s)) := hid rfl
  clear a0 a1 a2 a3 b0 b1 b2 b3
  have A1 := A0; have B1 := B0; have U1 := U0
  obtain ⟨_, a0, a1, a2, a3, _⟩ := id A1
  obtain ⟨_, b0, b1, b2, b3, _⟩ := id B1
  clear A0 B0 U0
  go_wp2_with fail
  refine wp_loop_rounds 5 ?_
  rw [rounds_succ]; go_wp2_with fail
  go_quiet (fail)
  have A2 := A1.drewN nq; have B2 := B1.drewN nq; have U2 := gr_drewN U1 nq
  clear a0 a1 a2 a3 b0 b1 b2 b3 A1 B1 U1
  generalize World.drewN _ nq = W1 at A2 B2 U2 ⊢
  have A1 := A2; have B1 := B2; have U1 := U2
  clear A2 B2 U2
  obtain ⟨_, a0, a1, a2, a3, _⟩ := id A1
  obtain ⟨_, b0, b1, b2, b3, _⟩ := id B1
  cases hz0 : (a == p) with
  | false =>
    have hne : (a != p) = true := by simp [bne, hz0]
    have hv : Rd.ls (a, b, c, d) (p, q, r, s) = decide (a < p) := by rw [HE.out]; simp at hz0; simp [*]
    go_wp2_with fail
    go_quiet (fail)
    have U2 := gr_drewN U1 nq
    go_wp2_with fail
    go_ret
    exact ⟨ret_bool hv.symm, by (repeat' (first | with_reducible exact Below.refl _ _ | with_reducible assumption | with_reducible refine gr_alloc ?_ _ | with_reducible refine gr_drew ?_ | with_reducible refine gr_drewN ?_ _ | with_reducible refine gr_trans ?_ (by assumption) | with_reducible refine gr_set ?_ ?_ _ | (simp; done) | omega | (simp; omega)))⟩
  | true =>
    have hne0 : (a != p) = false := by simp [bne, hz0]
    go_wp2_with fail
    rw [rounds_succ]; go_wp2_with fail
    go_quiet (fail)
    have A2 := A1.drewN nq; have B2 := B1.drewN nq; have U2 := gr_drewN U1 nq
    clear a0 a1 a2 a3 b0 b1 b2 b3 A1 B1 U1
    generalize World.drewN _ nq = W2 at A2 B2 U2 ⊢
    have A1 := A2; have B1 := B2; have U1 := U2
    clear A2 B2 U2
    obtain ⟨_, a0, a1, a2, a3, _⟩ := id A1
    obtain ⟨_, b0, b1, b2, b3, _⟩ := id B1
    cases hz1 : (b == q) with
    | false =>
      have hne : (b != q) = true := by simp [bne, hz1]
      have hv : Rd.ls (a, b, c, d) (p, q, r, s) = decide (b < q) := by rw [HE.out]; simp at hz0 hz1; simp [*]
      go_wp2_with fail
      go_quiet (fail)
      have U2 := gr_drewN U1 nq
      go_wp2_with fail
      go_ret
      exact ⟨ret_bool hv.symm, by (repeat' (first | with_reducible exact Below.refl _ _ | with_reducible assumption | with_reducible refine gr_alloc ?_ _ | with_reducible refine gr_drew ?_ | with_reducible refine gr_drewN ?_ _ | with_reducible refine gr_trans ?_ (by assumption) | with_reducible refine gr_set ?_ ?_ _ | (simp; done) | omega | (simp; omega)))⟩
    | true =>
      have hne1 : (b != q) = false := by simp [bne, hz1]
      go_wp2_with fail
      rw [rounds_succ]; go_wp2_with fail
      go_quiet (fail)
      have A2 := A1.drewN nq; have B2 := B1.drewN nq; have U2 := gr_drewN U1 nq
      clear a0 a1 a2 a3 b0 b1 b2 b3 A1 B1 U1
      generalize World.drewN _ nq = W3 at A2 B2 U2 ⊢
      have A1 := A2; have B1 := B2; have U1 := U2
      clear A2 B2 U2
      obtain ⟨_, a0, a1, a2, a3, _⟩ := id A1
      obtain ⟨_, b0, b1, b2, b3, _⟩ := id B1
      cases hz2 : (c == r) with
      | false =>
        have hne : (c != r) = true := by simp [bne, hz2]
        have hv : Rd.ls (a, b, c, d) (p, q, r, s) = decide (c < r) := by rw [HE.out]; simp at hz0 hz1 hz2; simp [*]
        go_wp2_with fail
        go_quiet (fail)
        have U2 := gr_drewN U1 nq
        go_wp2_with fail
        go_ret
        exact ⟨ret_bool hv.symm, by (repeat' (first | with_reducible exact Below.refl _ _ | with_reducible assumption | with_reducible refine gr_alloc ?_ _ | with_reducible refine gr_drew ?_ | with_reducible refine gr_drewN ?_ _ | with_reducible refine gr_trans ?_ (by assumption) | with_reducible refine gr_set ?_ ?_ _ | (simp; done) | omega | (simp; omega)))⟩
      | true =>
        have hne2 : (c != r) = false := by simp [bne, hz2]
        go_wp2_with fail
        rw [rounds_succ]; go_wp2_with fail
        go_quiet (fail)
        have A2 := A1.drewN nq; have B2 := B1.drewN nq; have U2 := gr_drewN U1 nq
        clear a0 a1 a2 a3 b0 b1 b2 b3 A1 B1 U1
        generalize World.drewN _ nq = W4 at A2 B2 U2 ⊢
        have A1 := A2; have B1 := B2; have U1 := U2
        clear A2 B2 U2
        obtain ⟨_, a0, a1, a2, a3, _⟩ := id A1
        obtain ⟨_, b0, b1, b2, b3, _⟩ := id B1
        cases hz3 : (d == s) with
        | false =>
          have hne : (d != s) = true := by simp [bne, hz3]
          have hv : Rd.ls (a, b, c, d) (p, q, r, s) = decide (d < s) := by rw [HE.out]; simp at hz0 hz1 hz2 hz3; simp [*]
          go_wp2_with fail
          go_quiet (fail)
          have U2 := gr_drewN U1 nq
          go_wp2_with fail
          go_ret
          exact ⟨ret_bool hv.symm, by (repeat' (first | with_reducible exact Below.refl _ _ | with_reducible assumption | with_reducible refine gr_alloc ?_ _ | with_reducible refine gr_drew ?_ | with_reducible refine gr_drewN ?_ _ | with_reducible refine gr_trans ?_ (by assumption) | with_reducible refine gr_set ?_ ?_ _ | (simp; done) | omega | (simp; omega)))⟩
        | true =>
          have hne3 : (d != s) = false := by simp [bne, hz3]
          go_wp2_with fail
          rw [rounds_succ]; go_wp2_with fail
          have hv : Rd.ls (a, b, c, d) (p, q, r, s) = false := by rw [HE.out]; simp at hz0 hz1 hz2 hz3; simp [*]
          go_ret
          exact ⟨ret_bool hv.symm, by (repeat' (first | with_reducible exact Below.refl _ _ | with_reducible assumption | with_reducible refine gr_alloc ?_ _ | with_reducible refine gr_drew ?_ | with_reducible refine gr_drewN ?_ _ | with_reducible refine gr_trans ?_ (by assumption) | with_reducible refine gr_set ?_ ?_ _ | (simp; done) | omega | (simp; omega)))⟩

end Go.Proofs.Ytikmjefbjejbkaa

/- Which four numbers come first, in the program. -/
namespace Go.Proofs.Ytikmjefbjejbkaa
open Go.RowKit
namespace Rd
def c3 (x y : Int) : Int := if x < y then -1 else if y < x then 1 else 0
def cm4 (x y : Red.F4) : Int := if x.1 ≠ y.1 then c3 x.1 y.1 else if x.2.1 ≠ y.2.1 then c3 x.2.1 y.2.1 else if x.2.2.1 ≠ y.2.2.1 then c3 x.2.2.1 y.2.2.1 else if x.2.2.2 ≠ y.2.2.2 then c3 x.2.2.2 y.2.2.2 else 0
theorem c3_ne {x y : Int} (h : x ≠ y) : c3 x y ≠ 0 := by
  unfold c3
  split
  · decide
  · split
    · decide
    · omega
theorem c3_eq (x : Int) : c3 x x = 0 := by simp [c3]
end Rd
theorem nan_any (n : Int) (w : World) : Calls Try.prog 163 #[.int .i64 n] w fun e w' => e = .returned (.bool false) ∧ Below w.heap.size w w' := by
  have U0 := Below.refl w.heap.size w
  have hn : (n != n) = false := by simp
  go_enter Try.func163, Try.ntmps163
  go_wp2
  go_ret
  exact ⟨ret_bool (by simp), by (repeat' (first | with_reducible exact Below.refl _ _ | with_reducible assumption | with_reducible refine gr_alloc ?_ _ | with_reducible refine gr_drew ?_ | with_reducible refine gr_drewN ?_ _ | with_reducible refine gr_trans ?_ (by assumption) | with_reducible refine gr_set ?_ ?_ _ | (simp; done) | omega | (simp; omega)))⟩
set_option maxHeartbeats 1000000 in
theorem cmp_any (x y : Int) (w : World) : Calls Try.prog 143 #[.int .i64 x, .int .i64 y] w fun e w' => e = .returned (.int .i64 (Rd.c3 x y)) ∧ Below w.heap.size w w' := by
  go_enter Try.func143, Try.ntmps143
  go_wp2_with fail
  refine (nan_any x _).mono ?_
  rintro e w1 ⟨rfl, hb1⟩
  go_wp2_with fail
  refine (nan_any y _).mono ?_
  rintro e w2 ⟨rfl, hb2⟩
  have U2 := gr_trans hb1 hb2
  go_wp2
  all_goals (go_ret; exact ⟨ret_int (by unfold Rd.c3; (repeat' split) <;> omega), by (repeat' (first | with_reducible exact Below.refl _ _ | with_reducible assumption | with_reducible refine gr_alloc ?_ _ | with_reducible refine gr_drew ?_ | with_reducible refine gr_drewN ?_ _ | with_reducible refine gr_trans ?_ (by assumption) | with_reducible refine gr_set ?_ ?_ _ | (simp; done) | omega | (simp; omega)))⟩)
set_option maxRecDepth 100000 in
set_option maxHeartbeats 4000000 in
theorem cmp4_any (i j : Nat) (ci cj : Nat) (a b c d p q r s : Int) (w : World) (hA : Arr w i a b c d) (hB : Arr w j p q r s) : Calls Try.prog 105 #[.slice (some ⟨i, 0, none⟩) 4 ci, .slice (some ⟨j, 0, none⟩) 4 cj] w fun e w' => e = .returned (.int .i64 (Rd.cm4 (a, b, c, d) (p, q, r, s))) ∧ Below w.heap.size w w' := by
  have U1 := Below.refl w.heap.size w
  have A1 := hA; have B1 := hB
  clear hA hB
  obtain ⟨_, a0, a1, a2, a3, _⟩ := id A1
  obtain ⟨_, b0, b1, b2, b3, _⟩ := id B1
  go_enter Try.func105, Try.ntmps105
  go_wp2_with fail
  refine wp_loop_rounds 5 ?_
  rw [rounds_succ]; go_wp2_with fail
  refine (cmp_any a p _).mono ?_
  rintro e w1 ⟨rfl, hb⟩
  have A2 := A1.next hb; have B2 := B1.next hb; have U2 := gr_trans U1 hb
  clear a0 a1 a2 a3 b0 b1 b2 b3 A1 B1 U1 hb
  have A1 := A2; have B1 := B2; have U1 := U2
  clear A2 B2 U2
  obtain ⟨_, a0, a1, a2, a3, _⟩ := id A1
  obtain ⟨_, b0, b1, b2, b3, _⟩ := id B1
  by_cases hz0 : a = p
  rotate_left 1
  · have hne : (Rd.c3 a p != 0) = true := by simpa [bne] using Rd.c3_ne hz0
    have hv : Rd.cm4 (a, b, c, d) (p, q, r, s) = Rd.c3 a p := by simp [Rd.cm4, hz0]
    clear hz0
    go_wp2_with fail
    go_ret
    exact ⟨ret_int hv.symm, by (repeat' (first | with_reducible exact Below.refl _ _ | with_reducible assumption | with_reducible refine gr_alloc ?_ _ | with_reducible refine gr_drew ?_ | with_reducible refine gr_drewN ?_ _ | with_reducible refine gr_trans ?_ (by assumption) | with_reducible refine gr_set ?_ ?_ _ | (simp; done) | omega | (simp; omega)))⟩
  have he0 : Rd.c3 a p = 0 := by rw [hz0]; exact Rd.c3_eq _
  rw [he0]
  go_wp2_with fail
  rw [rounds_succ]; go_wp2_with fail
  refine (cmp_any b q _).mono ?_
  rintro e w2 ⟨rfl, hb⟩
  have A2 := A1.next hb; have B2 := B1.next hb; have U2 := gr_trans U1 hb
  clear a0 a1 a2 a3 b0 b1 b2 b3 A1 B1 U1 hb
  have A1 := A2; have B1 := B2; have U1 := U2
  clear A2 B2 U2
  obtain ⟨_, a0, a1, a2, a3, _⟩ := id A1
  obtain ⟨_, b0, b1, b2, b3, _⟩ := id B1
  by_cases hz1 : b = q
  rotate_left 1
  · have hne : (Rd.c3 b q != 0) = true := by simpa [bne] using Rd.c3_ne hz1
    have hv : Rd.cm4 (a, b, c, d) (p, q, r, s) = Rd.c3 b q := by simp [Rd.cm4, hz0, hz1]
    clear hz0 hz1
    go_wp2_with fail
    go_ret
    exact ⟨ret_int hv.symm, by (repeat' (first | with_reducible exact Below.refl _ _ | with_reducible assumption | with_reducible refine gr_alloc ?_ _ | with_reducible refine gr_drew ?_ | with_reducible refine gr_drewN ?_ _ | with_reducible refine gr_trans ?_ (by assumption) | with_reducible refine gr_set ?_ ?_ _ | (simp; done) | omega | (simp; omega)))⟩
  have he1 : Rd.c3 b q = 0 := by rw [hz1]; exact Rd.c3_eq _
  rw [he1]
  go_wp2_with fail
  rw [rounds_succ]; go_wp2_with fail
  refine (cmp_any c r _).mono ?_
  rintro e w3 ⟨rfl, hb⟩
  have A2 := A1.next hb; have B2 := B1.next hb; have U2 := gr_trans U1 hb
  clear a0 a1 a2 a3 b0 b1 b2 b3 A1 B1 U1 hb
  have A1 := A2; have B1 := B2; have U1 := U2
  clear A2 B2 U2
  obtain ⟨_, a0, a1, a2, a3, _⟩ := id A1
  obtain ⟨_, b0, b1, b2, b3, _⟩ := id B1
  by_cases hz2 : c = r
  rotate_left 1
  · have hne : (Rd.c3 c r != 0) = true := by simpa [bne] using Rd.c3_ne hz2
    have hv : Rd.cm4 (a, b, c, d) (p, q, r, s) = Rd.c3 c r := by simp [Rd.cm4, hz0, hz1, hz2]
    clear hz0 hz1 hz2
    go_wp2_with fail
    go_ret
    exact ⟨ret_int hv.symm, by (repeat' (first | with_reducible exact Below.refl _ _ | with_reducible assumption | with_reducible refine gr_alloc ?_ _ | with_reducible refine gr_drew ?_ | with_reducible refine gr_drewN ?_ _ | with_reducible refine gr_trans ?_ (by assumption) | with_reducible refine gr_set ?_ ?_ _ | (simp; done) | omega | (simp; omega)))⟩
  have he2 : Rd.c3 c r = 0 := by rw [hz2]; exact Rd.c3_eq _
  rw [he2]
  go_wp2_with fail
  rw [rounds_succ]; go_wp2_with fail
  refine (cmp_any d s _).mono ?_
  rintro e w4 ⟨rfl, hb⟩
  have A2 := A1.next hb; have B2 := B1.next hb; have U2 := gr_trans U1 hb
  clear a0 a1 a2 a3 b0 b1 b2 b3 A1 B1 U1 hb
  have A1 := A2; have B1 := B2; have U1 := U2
  clear A2 B2 U2
  obtain ⟨_, a0, a1, a2, a3, _⟩ := id A1
  obtain ⟨_, b0, b1, b2, b3, _⟩ := id B1
  by_cases hz3 : d = s
  rotate_left 1
  · have hne : (Rd.c3 d s != 0) = true := by simpa [bne] using Rd.c3_ne hz3
    have hv : Rd.cm4 (a, b, c, d) (p, q, r, s) = Rd.c3 d s := by simp [Rd.cm4, hz0, hz1, hz2, hz3]
    clear hz0 hz1 hz2 hz3
    go_wp2_with fail
    go_ret
    exact ⟨ret_int hv.symm, by (repeat' (first | with_reducible exact Below.refl _ _ | with_reducible assumption | with_reducible refine gr_alloc ?_ _ | with_reducible refine gr_drew ?_ | with_reducible refine gr_drewN ?_ _ | with_reducible refine gr_trans ?_ (by assumption) | with_reducible refine gr_set ?_ ?_ _ | (simp; done) | omega | (simp; omega)))⟩
  have he3 : Rd.c3 d s = 0 := by rw [hz3]; exact Rd.c3_eq _
  rw [he3]
  go_wp2_with fail
  rw [rounds_succ]; go_wp2_with fail
  have hv : Rd.cm4 (a, b, c, d) (p, q, r, s) = 0 := by simp [Rd.cm4, hz0, hz1, hz2, hz3]
  go_ret
  exact ⟨ret_int hv.symm, by (repeat' (first | with_reducible exact Below.refl _ _ | with_reducible assumption | with_reducible refine gr_alloc ?_ _ | with_reducible refine gr_drew ?_ | with_reducible refine gr_drewN ?_ _ | with_reducible refine gr_trans ?_ (by assumption) | with_reducible refine gr_set ?_ ?_ _ | (simp; done) | omega | (simp; omega)))⟩

end Go.Proofs.Ytikmjefbjejbkaa
