/- Chapter 1: sums of forms. -/
import Derived.Test.YtipeeljapmiciaaBaC1d
namespace Go.Proofs.Ytipeeljapmiciaa
open Go.RowKit

/-- One number of a sum. -/
def am (x k y : Int) : Int := pl x (mu k y)

set_option maxRecDepth 100000 in
set_option maxHeartbeats 1000000 in
theorem iAddM_any (a b c d p q r s k : Int) (w : World) :
    Calls Try.prog 135 #[.agg #[.int .i64 a, .int .i64 b, .int .i64 c, .int .i64 d], .agg #[.int .i64 p, .int .i64 q, .int .i64 r, .int .i64 s], .int .i64 k] w fun e w' => e = .returned (.agg #[.int .i64 (am a k p), .int .i64 (am b k q), .int .i64 (am c k r), .int .i64 (am d k s)]) ∧ Below w.heap.size w w' := by
  have A0 := ((Arr.new w a b c d 23).alloc (.cells #[.int .i64 p, .int .i64 q, .int .i64 r, .int .i64 s] 23)).alloc (.cells #[.int .i64 0, .int .i64 0, .int .i64 0, .int .i64 0] 23)
  have G0 := (Arr.new (w.alloc (.cells #[.int .i64 a, .int .i64 b, .int .i64 c, .int .i64 d] 23)) p q r s 23).alloc (.cells #[.int .i64 0, .int .i64 0, .int .i64 0, .int .i64 0] 23)
  have R0 := (Arr.new ((w.alloc (.cells #[.int .i64 a, .int .i64 b, .int .i64 c, .int .i64 d] 23)).alloc (.cells #[.int .i64 p, .int .i64 q, .int .i64 r, .int .i64 s] 23)) 0 0 0 0 23)
  have B0 := gr_alloc (gr_alloc (gr_alloc (Below.refl w.heap.size w) (.cells #[.int .i64 a, .int .i64 b, .int .i64 c, .int .i64 d] 23)) (.cells #[.int .i64 p, .int .i64 q, .int .i64 r, .int .i64 s] 23)) (.cells #[.int .i64 0, .int .i64 0, .int .i64 0, .int .i64 0] 23)
  simp only [World.size_alloc] at A0 G0 R0
  go_enter Try.func135, Try.ntmps135
  go_wp2
  generalize (((w.alloc (.cells #[.int .i64 a, .int .i64 b, .int .i64 c, .int .i64 d] 23)).alloc (.cells #[.int .i64 p, .int .i64 q, .int .i64 r, .int .i64 s] 23)).alloc (.cells #[.int .i64 0, .int .i64 0, .int .i64 0, .int .i64 0] 23)) = W0 at A0 G0 R0 B0 ⊢
  refine wp_loop_rounds 5 ?_
  -- round 0
  obtain ⟨_, c0, c1, c2, c3, f0, f1, f2, f3⟩ := id A0
  obtain ⟨_, g0, g1, g2, g3, _⟩ := id G0
  rw [rounds_succ]; go_wp2
  go_still_tail 10, (by kernel_rfl)
  go_wp2
  have A1 := (A0.set0 (am a k p)).drew
  have G1 := (G0.oth (p := ⟨w.heap.size, 0, none⟩) (by simp) (.int .i64 (am a k p))).drew
  have R1 := (R0.oth (p := ⟨w.heap.size, 0, none⟩) (by simp; omega) (.int .i64 (am a k p))).drew
  have B1 := gr_drew (gr_set B0 (p := ⟨w.heap.size, 0, none⟩) (by simp) (.int .i64 (am a k p)))
  clear c0 c1 c2 c3 f0 f1 f2 f3 g0 g1 g2 g3
  simp only [am, pl, mu] at A1 G1 R1 B1
  generalize (World.setCell W0 ⟨w.heap.size, 0, none⟩ (.int .i64 (wrap64 (a + wrap64 (k * p))))).drew = W1 at A1 G1 R1 B1 ⊢
  clear A0 G0 R0 B0
  -- round 1
  obtain ⟨_, c0, c1, c2, c3, f0, f1, f2, f3⟩ := id A1
  obtain ⟨_, g0, g1, g2, g3, _⟩ := id G1
  rw [rounds_succ]; go_wp2
  go_still_tail 10, (by kernel_rfl)
  go_wp2
  have A2 := (A1.set1 (am b k q)).drew
  have G2 := (G1.oth (p := ⟨w.heap.size, 1, none⟩) (by simp) (.int .i64 (am b k q))).drew
  have R2 := (R1.oth (p := ⟨w.heap.size, 1, none⟩) (by simp; omega) (.int .i64 (am b k q))).drew
  have B2 := gr_drew (gr_set B1 (p := ⟨w.heap.size, 1, none⟩) (by simp) (.int .i64 (am b k q)))
  clear c0 c1 c2 c3 f0 f1 f2 f3 g0 g1 g2 g3
  simp only [am, pl, mu] at A2 G2 R2 B2
  generalize (World.setCell W1 ⟨w.heap.size, 1, none⟩ (.int .i64 (wrap64 (b + wrap64 (k * q))))).drew = W2 at A2 G2 R2 B2 ⊢
  clear A1 G1 R1 B1
  -- round 2
  obtain ⟨_, c0, c1, c2, c3, f0, f1, f2, f3⟩ := id A2
  obtain ⟨_, g0, g1, g2, g3, _⟩ := id G2
  rw [rounds_succ]; go_wp2
  go_still_tail 10, (by kernel_rfl)
  go_wp2
  have A3 := (A2.set2 (am c k r)).drew
  have G3 := (G2.oth (p := ⟨w.heap.size, 2, none⟩) (by simp) (.int .i64 (am c k r))).drew
  have R3 := (R2.oth (p := ⟨w.heap.size, 2, none⟩) (by simp; omega) (.int .i64 (am c k r))).drew
  have B3 := gr_drew (gr_set B2 (p := ⟨w.heap.size, 2, none⟩) (by simp) (.int .i64 (am c k r)))
  clear c0 c1 c2 c3 f0 f1 f2 f3 g0 g1 g2 g3
  simp only [am, pl, mu] at A3 G3 R3 B3
  generalize (World.setCell W2 ⟨w.heap.size, 2, none⟩ (.int .i64 (wrap64 (c + wrap64 (k * r))))).drew = W3 at A3 G3 R3 B3 ⊢
  clear A2 G2 R2 B2
  -- round 3
  obtain ⟨_, c0, c1, c2, c3, f0, f1, f2, f3⟩ := id A3
  obtain ⟨_, g0, g1, g2, g3, _⟩ := id G3
  rw [rounds_succ]; go_wp2
  go_still_tail 10, (by kernel_rfl)
  go_wp2
  have A4 := (A3.set3 (am d k s)).drew
  have G4 := (G3.oth (p := ⟨w.heap.size, 3, none⟩) (by simp) (.int .i64 (am d k s))).drew
  have R4 := (R3.oth (p := ⟨w.heap.size, 3, none⟩) (by simp; omega) (.int .i64 (am d k s))).drew
  have B4 := gr_drew (gr_set B3 (p := ⟨w.heap.size, 3, none⟩) (by simp) (.int .i64 (am d k s)))
  clear c0 c1 c2 c3 f0 f1 f2 f3 g0 g1 g2 g3
  simp only [am, pl, mu] at A4 G4 R4 B4
  generalize (World.setCell W3 ⟨w.heap.size, 3, none⟩ (.int .i64 (wrap64 (d + wrap64 (k * s))))).drew = W4 at A4 G4 R4 B4 ⊢
  clear A3 G3 R3 B3
  obtain ⟨_, c0, c1, c2, c3, f0, f1, f2, f3⟩ := id A4
  obtain ⟨_, r0, r1, r2, r3, g0, g1, g2, g3⟩ := id R4
  rw [rounds_succ]; go_wp2
  refine bodyPost_ret (res_A1 (e := 2) rfl Try.underlying23 (by kernel_rfl) rfl (by (repeat (first | with_reducible assumption | with_reducible exact Arr.box (by assumption) | with_reducible apply Arr.drew | with_reducible apply Arr.drewN | with_reducible refine Arr.store4 ?_ | with_reducible apply Arr.alloc | with_reducible refine Box.drew ?_ | with_reducible refine Box.drewN ?_ _ | with_reducible refine Box.alloc ?_ _ | refine Arr.oth ?_ (by first | (simp; done) | omega | (simp; omega)) _ | refine Box.oth ?_ (by first | (simp; done) | omega | (simp; omega)) _)))) rfl ?_
  exact ⟨rfl, by (repeat' (first | with_reducible exact Below.refl _ _ | with_reducible assumption | with_reducible refine gr_alloc ?_ _ | with_reducible refine gr_drew ?_ | with_reducible refine gr_drewN ?_ _ | with_reducible refine gr_trans ?_ (by assumption) | with_reducible refine gr_set ?_ ?_ _ | (simp; done) | omega | (simp; omega)))⟩

end Go.Proofs.Ytipeeljapmiciaa
