/- Chapter 2: the Hessian of the program. -/
import Derived.Test.YtipeeljapmiciaaBaC1
import Derived.Test.YtipeeljapmiciaaBaZ5
namespace Go.Proofs.Ytipeeljapmiciaa
open Go.RowKit

def isR (a b c d : Int) : Bool := rng (-100) 100 a && rng (-100) 100 b && rng (-100) 100 c && rng (-100) 100 d
theorem isR_t {a b c d : Int} (h : isR a b c d = true) : (-100 ≤ a ∧ a ≤ 100) ∧ (-100 ≤ b ∧ b ≤ 100) ∧ (-100 ≤ c ∧ c ≤ 100) ∧ (-100 ≤ d ∧ d ≤ 100) := by
  simp only [isR, Bool.and_eq_true] at h
  exact ⟨rng_t h.1.1.1, rng_t h.1.1.2, rng_t h.1.2, rng_t h.2⟩
theorem isR_eq {a b c d : Int} {r : Bool} (h : r = true ↔ (-100 ≤ a ∧ a ≤ 100) ∧ (-100 ≤ b ∧ b ≤ 100) ∧ (-100 ≤ c ∧ c ≤ 100) ∧ (-100 ≤ d ∧ d ≤ 100)) : r = isR a b c d := by
  rw [Bool.eq_iff_iff, h]
  exact ⟨fun ⟨p, q, r, s⟩ => by simp [isR, rng_mk p.1 p.2, rng_mk q.1 q.2, rng_mk r.1 r.2, rng_mk s.1 s.2], isR_t⟩

set_option maxHeartbeats 400000 in
theorem allWithin100_any (k : Nat) (a b c d : Int) (w : World) (hA : Arr w k a b c d) :
    Calls Try.prog 86 #[.slice (some ⟨k, 0, none⟩) 4 4, .int .i64 100] w fun e w' => e = .returned (.bool (isR a b c d)) ∧ w = w' := by
  obtain ⟨lt, c0, c1, c2, c3, _⟩ := hA
  go_enter Try.func86, Try.ntmps86
  go_wp2
  go_rounds 5
  all_goals (go_ret; exact ⟨ret_bool (by apply isR_eq; go_light; simp at *; try omega), rfl⟩)

/-- The three numbers of the Hessian. -/
def hs1 (a b c : Int) : Int := b * b - 3 * a * c
def hs2 (a b c d : Int) : Int := b * c - 9 * a * d
def hs3 (b c d : Int) : Int := c * c - 3 * b * d

set_option maxRecDepth 100000 in
set_option maxHeartbeats 1000000 in
theorem iHess_any (a b c d : Int) (w : World) :
    Calls Try.prog 134 #[.agg #[.int .i64 a, .int .i64 b, .int .i64 c, .int .i64 d]] w fun e w' => e = .returned (.tuple #[.int .i64 (wrap64 (hs1 a b c)), .int .i64 (wrap64 (hs2 a b c d)), .int .i64 (wrap64 (hs3 b c d))]) ∧ Below w.heap.size w w' := by
  have A0 := Arr.new w a b c d 23
  have U0 := gr_alloc (Below.refl w.heap.size w) (.cells #[.int .i64 a, .int .i64 b, .int .i64 c, .int .i64 d] 23)
  go_enter Try.func134, Try.ntmps134
  go_upto_region 1 with fail
  generalize w.alloc (.cells #[.int .i64 a, .int .i64 b, .int .i64 c, .int .i64 d] 23) = W0 at A0 U0 ⊢
  obtain ⟨_, a0, a1, a2, a3, _⟩ := id A0
  go_quiet (fail)
  go_wp2
  go_ret3
  exact ⟨ret_tup3 (by simp only [hs1, wr_sl, wr_sr, wr_ml]) (by simp only [hs2, wr_sl, wr_sr, wr_ml]) (by simp only [hs3, wr_sl, wr_sr, wr_ml]), by (repeat' (first | with_reducible exact Below.refl _ _ | with_reducible assumption | with_reducible refine gr_alloc ?_ _ | with_reducible refine gr_drew ?_ | with_reducible refine gr_drewN ?_ _ | with_reducible refine gr_trans ?_ (by assumption) | with_reducible refine gr_set ?_ ?_ _ | (simp; done) | omega | (simp; omega)))⟩

end Go.Proofs.Ytipeeljapmiciaa
