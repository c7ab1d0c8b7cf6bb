/- Which four numbers come first, in the model. -/
import Derived.Test.YtipeeljapmiciaaBaZ7
namespace Go.Proofs.Ytipeeljapmiciaa
open Go.RowKit
namespace Rd
def ls (x y : Red.F4) : Bool := if x.1 ≠ y.1 then decide (x.1 < y.1) else if x.2.1 ≠ y.2.1 then decide (x.2.1 < y.2.1) else if x.2.2.1 ≠ y.2.2.1 then decide (x.2.2.1 < y.2.2.1) else decide (x.2.2.2 < y.2.2.2)
end Rd
set_option maxRecDepth 100000 in
set_option maxHeartbeats 4000000 in
theorem sLess_any (a b c d p q r s : Int) (w : World) : Calls Try.prog 77 #[.agg #[.int .i64 a, .int .i64 b, .int .i64 c, .int .i64 d], .agg #[.int .i64 p, .int .i64 q, .int .i64 r, .int .i64 s]] w fun e w' => e = .returned (.bool (Rd.ls (a, b, c, d) (p, q, r, s))) ∧ Below w.heap.size w w' := by
  have A0 := (Arr.new w a b c d 22).alloc (.cells #[.int .i64 p, .int .i64 q, .int .i64 r, .int .i64 s] 22)
  have B0 := Arr.new (w.alloc (.cells #[.int .i64 a, .int .i64 b, .int .i64 c, .int .i64 d] 22)) p q r s 22
  have U0 := gr_alloc (gr_alloc (Below.refl w.heap.size w) (.cells #[.int .i64 a, .int .i64 b, .int .i64 c, .int .i64 d] 22)) (.cells #[.int .i64 p, .int .i64 q, .int .i64 r, .int .i64 s] 22)
  simp only [World.size_alloc] at B0
  go_enter Try.func77, Try.ntmps77
  go_upto_region 1 with fail
  generalize (w.alloc (.cells #[.int .i64 a, .int .i64 b, .int .i64 c, .int .i64 d] 22)).alloc (.cells #[.int .i64 p, .int .i64 q, .int .i64 r, .int .i64 s] 22) = W0 at A0 B0 U0 ⊢
  obtain ⟨_, a0, a1, a2, a3, _⟩ := id A0
  obtain ⟨_, b0, b1, b2, b3, _⟩ := id B0
  have HE : Hid (Rd.ls (a, b, c, d) (p, q, r, s) = if a ≠ p then decide (a < p) else if b ≠ q then decide (b < q) else if c ≠ r then decide (c < r) else decide (d < s)) := hid rfl
  clear a0 a1 a2 a3 b0 b1 b2 b3
  have A1 := A0; have B1 := B0; have U1 := U0
  obtain ⟨_, a0, a1, a2, a3, _⟩ := id A1
  obtain ⟨_, b0, b1, b2, b3, _⟩ := id B1
  clear A0 B0 U0
  go_wp2_with fail
  refine wp_loop_rounds 5 ?_
  rw [rounds_succ]; go_wp2_with fail
  go_quiet (fail)
  have A2 := A1.drewN nq; have B2 := B1.drewN nq; have U2 := gr_drewN U1 nq
  clear a0 a1 a2 a3 b0 b1 b2 b3 A1 B1 U1
  generalize World.drewN _ nq = W1 at A2 B2 U2 ⊢
  have A1 := A2; have B1 := B2; have U1 := U2
  clear A2 B2 U2
  obtain ⟨_, a0, a1, a2, a3, _⟩ := id A1
  obtain ⟨_, b0, b1, b2, b3, _⟩ := id B1
  cases hz0 : (a == p) with
  | false =>
    have hne : (a != p) = true := by simp [bne, hz0]
    have hv : Rd.ls (a, b, c, d) (p, q, r, s) = decide (a < p) := by rw [HE.out]; simp at hz0; simp [*]
    go_wp2_with fail
    go_quiet (fail)
    have U2 := gr_drewN U1 nq
    go_wp2_with fail
    go_ret
    exact ⟨ret_bool hv.symm, by (repeat' (first | with_reducible exact Below.refl _ _ | with_reducible assumption | with_reducible refine gr_alloc ?_ _ | with_reducible refine gr_drew ?_ | with_reducible refine gr_drewN ?_ _ | with_reducible refine gr_trans ?_ (by assumption) | with_reducible refine gr_set ?_ ?_ _ | (simp; done) | omega | (simp; omega)))⟩
  | true =>
    have hne0 : (a != p) = false := by simp [bne, hz0]
    go_wp2_with fail
    rw [rounds_succ]; go_wp2_with fail
    go_quiet (fail)
    have A2 := A1.drewN nq; have B2 := B1.drewN nq; have U2 := gr_drewN U1 nq
    clear a0 a1 a2 a3 b0 b1 b2 b3 A1 B1 U1
    generalize World.drewN _ nq = W2 at A2 B2 U2 ⊢
    have A1 := A2; have B1 := B2; have U1 := U2
    clear A2 B2 U2
    obtain ⟨_, a0, a1, a2, a3, _⟩ := id A1
    obtain ⟨_, b0, b1, b2, b3, _⟩ := id B1
    cases hz1 : (b == q) with
    | false =>
      have hne : (b != q) = true := by simp [bne, hz1]
      have hv : Rd.ls (a, b, c, d) (p, q, r, s) = decide (b < q) := by rw [HE.out]; simp at hz0 hz1; simp [*]
      go_wp2_with fail
      go_quiet (fail)
      have U2 := gr_drewN U1 nq
      go_wp2_with fail
      go_ret
      exact ⟨ret_bool hv.symm, by (repeat' (first | with_reducible exact Below.refl _ _ | with_reducible assumption | with_reducible refine gr_alloc ?_ _ | with_reducible refine gr_drew ?_ | with_reducible refine gr_drewN ?_ _ | with_reducible refine gr_trans ?_ (by assumption) | with_reducible refine gr_set ?_ ?_ _ | (simp; done) | omega | (simp; omega)))⟩
    | true =>
      have hne1 : (b != q) = false := by simp [bne, hz1]
      go_wp2_with fail
      rw [rounds_succ]; go_wp2_with fail
      go_quiet (fail)
      have A2 := A1.drewN nq; have B2 := B1.drewN nq; have U2 := gr_drewN U1 nq
      clear a0 a1 a2 a3 b0 b1 b2 b3 A1 B1 U1
      generalize World.drewN _ nq = W3 at A2 B2 U2 ⊢
      have A1 := A2; have B1 := B2; have U1 := U2
      clear A2 B2 U2
      obtain ⟨_, a0, a1, a2, a3, _⟩ := id A1
      obtain ⟨_, b0, b1, b2, b3, _⟩ := id B1
      cases hz2 : (c == r) with
      | false =>
        have hne : (c != r) = true := by simp [bne, hz2]
        have hv : Rd.ls (a, b, c, d) (p, q, r, s) = decide (c < r) := by rw [HE.out]; simp at hz0 hz1 hz2; simp [*]
        go_wp2_with fail
        go_quiet (fail)
        have U2 := gr_drewN U1 nq
        go_wp2_with fail
        go_ret
        exact ⟨ret_bool hv.symm, by (repeat' (first | with_reducible exact Below.refl _ _ | with_reducible assumption | with_reducible refine gr_alloc ?_ _ | with_reducible refine gr_drew ?_ | with_reducible refine gr_drewN ?_ _ | with_reducible refine gr_trans ?_ (by assumption) | with_reducible refine gr_set ?_ ?_ _ | (simp; done) | omega | (simp; omega)))⟩
      | true =>
        have hne2 : (c != r) = false := by simp [bne, hz2]
        go_wp2_with fail
        rw [rounds_succ]; go_wp2_with fail
        go_quiet (fail)
        have A2 := A1.drewN nq; have B2 := B1.drewN nq; have U2 := gr_drewN U1 nq
        clear a0 a1 a2 a3 b0 b1 b2 b3 A1 B1 U1
        generalize World.drewN _ nq = W4 at A2 B2 U2 ⊢
        have A1 := A2; have B1 := B2; have U1 := U2
        clear A2 B2 U2
        obtain ⟨_, a0, a1, a2, a3, _⟩ := id A1
        obtain ⟨_, b0, b1, b2, b3, _⟩ := id B1
        cases hz3 : (d == s) with
        | false =>
          have hne : (d != s) = true := by simp [bne, hz3]
          have hv : Rd.ls (a, b, c, d) (p, q, r, s) = decide (d < s) := by rw [HE.out]; simp at hz0 hz1 hz2 hz3; simp [*]
          go_wp2_with fail
          go_quiet (fail)
          have U2 := gr_drewN U1 nq
          go_wp2_with fail
          go_ret
          exact ⟨ret_bool hv.symm, by (repeat' (first | with_reducible exact Below.refl _ _ | with_reducible assumption | with_reducible refine gr_alloc ?_ _ | with_reducible refine gr_drew ?_ | with_reducible refine gr_drewN ?_ _ | with_reducible refine gr_trans ?_ (by assumption) | with_reducible refine gr_set ?_ ?_ _ | (simp; done) | omega | (simp; omega)))⟩
        | true =>
          have hne3 : (d != s) = false := by simp [bne, hz3]
          go_wp2_with fail
          rw [rounds_succ]; go_wp2_with fail
          have hv : Rd.ls (a, b, c, d) (p, q, r, s) = false := by rw [HE.out]; simp at hz0 hz1 hz2 hz3; simp [*]
          go_ret
          exact ⟨ret_bool hv.symm, by (repeat' (first | with_reducible exact Below.refl _ _ | with_reducible assumption | with_reducible refine gr_alloc ?_ _ | with_reducible refine gr_drew ?_ | with_reducible refine gr_drewN ?_ _ | with_reducible refine gr_trans ?_ (by assumption) | with_reducible refine gr_set ?_ ?_ _ | (simp; done) | omega | (simp; omega)))⟩

end Go.Proofs.Ytipeeljapmiciaa
