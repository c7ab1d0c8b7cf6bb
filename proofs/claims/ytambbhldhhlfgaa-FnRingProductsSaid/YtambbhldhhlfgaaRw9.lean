/- Lists of three rows that are the same, as FnRingProducts compares them. -/
import Derived.Test.YtambbhldhhlfgaaRws
import Derived.Test.YtambbhldhhlfgaaFj2
namespace Go.Proofs.Ytambbhldhhlfgaa
open Go.RowKit

set_option maxRecDepth 100000 in
set_option maxHeartbeats 1000000 in
theorem rows9_any (u v : Value) (n : Nat) (M : Nat → Nat → Int) (w : World) (hu : RdR w u n M) (hv : RdR w v n M) :
    Calls Try.prog 24 #[u, v] w fun e w' => e = .returned (.bool true) ∧ Below w.heap.size w w' := by
  rcases hu with ⟨rfl, hn⟩ | ⟨hn, rb, cap, t0, t1, t2, rfl, hc, hm, hlt, c0, c1, c2, a0, a1, a2⟩
  · rcases hv with ⟨rfl, _⟩ | ⟨hn3, _⟩
    · go_enter Try.func24, Try.ntmps24
      go_wp2
      refine wp_loop_rounds 1 ?_
      rw [rounds_succ]; go_wp2
      go_ret
      exact ⟨rfl, Below.refl _ _⟩
    · omega
  · rcases hv with ⟨_, hn0⟩ | ⟨_, rb', cap', t0', t1', t2', rfl, hc', hm', hlt', c0', c1', c2', a0', a1', a2'⟩
    · omega
    · unfold maxLen at hm hm'
      clear hn
      have HC := hid c0; have HC1 := hid c1; have HC2 := hid c2; have HD := hid c0'; have HD1 := hid c1'; have HD2 := hid c2'
      clear c0 c1 c2 c0' c1' c2'
      go_enter Try.func24, Try.ntmps24
      go_wp2_with fail
      refine wp_loop_rounds 4 ?_
      have hB0 : Below w.heap.size w w := Below.refl _ _
      have c0 := (hB0.cell (p := ⟨rb, 0, none⟩) hlt).trans HC.out
      have d0 := (hB0.cell (p := ⟨rb', 0, none⟩) hlt').trans HD.out
      have A0 := (a0.next hB0).rd
      have D0 := (a0'.next hB0).rd
      rw [rounds_succ]; go_wp2_with fail
      go_region_held3 (fun W => W.cell? ⟨rb, 0, none⟩ = some (.slice (some ⟨t0, 0, none⟩) 3 3) ∧ W.cell? ⟨rb', 0, none⟩ = some (.slice (some ⟨t0', 0, none⟩) 3 3)) (first | exact ⟨by assumption, by assumption⟩ | (refine ⟨?_, ?_⟩ <;> (refine (Below.cell (by assumption) ?_).trans (by assumption); (first | omega | (simp; omega) | (have := hB0.size; simp; omega))))) ((go_at_call 19; refine (likeI_any _ _ 3 _ _ (A0.next (by (repeat' (first | with_reducible exact Below.refl _ _ | with_reducible assumption | with_reducible refine gr_alloc ?_ _ | with_reducible refine gr_drew ?_ | with_reducible refine gr_drewN ?_ _ | with_reducible refine gr_trans ?_ (by assumption) | with_reducible refine gr_set ?_ ?_ _ | (simp; done) | omega | (simp; omega))))) (D0.next (by (repeat' (first | with_reducible exact Below.refl _ _ | with_reducible assumption | with_reducible refine gr_alloc ?_ _ | with_reducible refine gr_drew ?_ | with_reducible refine gr_drewN ?_ _ | with_reducible refine gr_trans ?_ (by assumption) | with_reducible refine gr_set ?_ ?_ _ | (simp; done) | omega | (simp; omega)))))).mono ?_; rintro e z1 ⟨rfl, hz1⟩; have hs1 := hz1.size; (try simp at hs1)))
      have hB1 : Below w.heap.size w z1 := by (repeat' (first | with_reducible exact Below.refl _ _ | with_reducible assumption | with_reducible refine gr_alloc ?_ _ | with_reducible refine gr_drew ?_ | with_reducible refine gr_drewN ?_ _ | with_reducible refine gr_trans ?_ (by assumption) | with_reducible refine gr_set ?_ ?_ _ | (simp; done) | omega | (simp; omega)))
      clear c0 d0 A0 D0
      go_wp2_with fail
      have c1 := (hB1.cell (p := ⟨rb, 1, none⟩) hlt).trans HC1.out
      have d1 := (hB1.cell (p := ⟨rb', 1, none⟩) hlt').trans HD1.out
      have A1 := (a1.next hB1).rd
      have D1 := (a1'.next hB1).rd
      rw [rounds_succ]; go_wp2_with fail
      go_region_held3 (fun W => W.cell? ⟨rb, 1, none⟩ = some (.slice (some ⟨t1, 0, none⟩) 3 3) ∧ W.cell? ⟨rb', 1, none⟩ = some (.slice (some ⟨t1', 0, none⟩) 3 3)) (first | exact ⟨by assumption, by assumption⟩ | (refine ⟨?_, ?_⟩ <;> (refine (Below.cell (by assumption) ?_).trans (by assumption); (first | omega | (simp; omega) | (have := hB1.size; simp; omega))))) ((go_at_call 19; refine (likeI_any _ _ 3 _ _ (A1.next (by (repeat' (first | with_reducible exact Below.refl _ _ | with_reducible assumption | with_reducible refine gr_alloc ?_ _ | with_reducible refine gr_drew ?_ | with_reducible refine gr_drewN ?_ _ | with_reducible refine gr_trans ?_ (by assumption) | with_reducible refine gr_set ?_ ?_ _ | (simp; done) | omega | (simp; omega))))) (D1.next (by (repeat' (first | with_reducible exact Below.refl _ _ | with_reducible assumption | with_reducible refine gr_alloc ?_ _ | with_reducible refine gr_drew ?_ | with_reducible refine gr_drewN ?_ _ | with_reducible refine gr_trans ?_ (by assumption) | with_reducible refine gr_set ?_ ?_ _ | (simp; done) | omega | (simp; omega)))))).mono ?_; rintro e z2 ⟨rfl, hz2⟩; have hs2 := hz2.size; (try simp at hs2)))
      have hB2 : Below w.heap.size w z2 := by (repeat' (first | with_reducible exact Below.refl _ _ | with_reducible assumption | with_reducible refine gr_alloc ?_ _ | with_reducible refine gr_drew ?_ | with_reducible refine gr_drewN ?_ _ | with_reducible refine gr_trans ?_ (by assumption) | with_reducible refine gr_set ?_ ?_ _ | (simp; done) | omega | (simp; omega)))
      clear c1 d1 A1 D1
      go_wp2_with fail
      have c2 := (hB2.cell (p := ⟨rb, 2, none⟩) hlt).trans HC2.out
      have d2 := (hB2.cell (p := ⟨rb', 2, none⟩) hlt').trans HD2.out
      have A2 := (a2.next hB2).rd
      have D2 := (a2'.next hB2).rd
      rw [rounds_succ]; go_wp2_with fail
      go_region_held3 (fun W => W.cell? ⟨rb, 2, none⟩ = some (.slice (some ⟨t2, 0, none⟩) 3 3) ∧ W.cell? ⟨rb', 2, none⟩ = some (.slice (some ⟨t2', 0, none⟩) 3 3)) (first | exact ⟨by assumption, by assumption⟩ | (refine ⟨?_, ?_⟩ <;> (refine (Below.cell (by assumption) ?_).trans (by assumption); (first | omega | (simp; omega) | (have := hB2.size; simp; omega))))) ((go_at_call 19; refine (likeI_any _ _ 3 _ _ (A2.next (by (repeat' (first | with_reducible exact Below.refl _ _ | with_reducible assumption | with_reducible refine gr_alloc ?_ _ | with_reducible refine gr_drew ?_ | with_reducible refine gr_drewN ?_ _ | with_reducible refine gr_trans ?_ (by assumption) | with_reducible refine gr_set ?_ ?_ _ | (simp; done) | omega | (simp; omega))))) (D2.next (by (repeat' (first | with_reducible exact Below.refl _ _ | with_reducible assumption | with_reducible refine gr_alloc ?_ _ | with_reducible refine gr_drew ?_ | with_reducible refine gr_drewN ?_ _ | with_reducible refine gr_trans ?_ (by assumption) | with_reducible refine gr_set ?_ ?_ _ | (simp; done) | omega | (simp; omega)))))).mono ?_; rintro e z3 ⟨rfl, hz3⟩; have hs3 := hz3.size; (try simp at hs3)))
      have hB3 : Below w.heap.size w z3 := by (repeat' (first | with_reducible exact Below.refl _ _ | with_reducible assumption | with_reducible refine gr_alloc ?_ _ | with_reducible refine gr_drew ?_ | with_reducible refine gr_drewN ?_ _ | with_reducible refine gr_trans ?_ (by assumption) | with_reducible refine gr_set ?_ ?_ _ | (simp; done) | omega | (simp; omega)))
      clear c2 d2 A2 D2
      go_wp2_with fail
      rw [rounds_succ]; go_wp2_with fail
      go_ret
      exact ⟨rfl, hB3⟩


end Go.Proofs.Ytambbhldhhlfgaa
