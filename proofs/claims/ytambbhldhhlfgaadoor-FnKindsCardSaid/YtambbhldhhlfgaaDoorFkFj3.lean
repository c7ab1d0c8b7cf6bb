/- Lists of rows compared in a law (rows5). -/
import Derived.Test.YtambbhldhhlfgaaDoorFkZ19
import Derived.Test.YtambbhldhhlfgaaDoorFkZ13
import Derived.Deep.RegionHeld3
namespace Go.Proofs.YtambbhldhhlfgaaDoor
open Go.RowKit

set_option maxRecDepth 100000 in
set_option maxHeartbeats 1000000 in
theorem rows5_any (B C B' C' : Nat) (u v : Value) (s n : Nat) (G : Nat → Nat → Int) (T T' : Nat → Nat) (w : World) (hs : s ≤ 1000) (hu : RowsC B C w u s n G T) (hv : RowsC B' C' w v s n G T') :
    Calls Tryd.prog 72 #[u, v] w fun e w' => e = .returned (.bool true) ∧ Below w.heap.size w w' := by
  have HU := hid hu; have HV := hid hv
  obtain ⟨a, cap, rfl, hc1, hm1, hw1, ha, hr, _⟩ := hu
  obtain ⟨a', cap', rfl, hc2, hm2, hw2, ha', hr', _⟩ := hv
  have HA := hid ha; have HA' := hid ha'; have HR := hid hr; have HR' := hid hr'
  clear ha ha' hr hr'
  unfold maxLen at hm1 hm2
  go_enter Tryd.func72, Tryd.ntmps72
  go_wp2_with fail
  go_loopw [5] (fun i wr => ∃ k : Nat, k ≤ n ∧ i = .int .i64 k ∧ Below w.heap.size w wr) (fun i _ => n - (intOf i).toNat)
  case atStart => exact ⟨0, Nat.zero_le _, rfl, Below.refl _ _⟩
  case round =>
    obtain ⟨k, hk, rfl, hB⟩ := hrel
    by_cases hlt : k < n
    · obtain ⟨g, rfl, _, hg, hcell⟩ := HA.out (by omega)
      obtain ⟨g', rfl, _, hg', hcell'⟩ := HA'.out (by omega)
      have c0 := (hB.cell (p := ⟨g, k, none⟩) (by show g < _; omega)).trans (hcell k hlt).1
      have d0 := (hB.cell (p := ⟨g', k, none⟩) (by show g' < _; omega)).trans (hcell' k hlt).1
      have A0 := ((HR.out k hlt).2.2.rd (by unfold maxLen; omega)).next hB
      have D0 := ((HR'.out k hlt).2.2.rd (by unfold maxLen; omega)).next hB
      have hsz := hB.size
      have hgs : g < w.heap.size := by omega
      have hgs' : g' < w.heap.size := by omega
      clear hcell hcell'
      generalize T k = t at c0 A0
      generalize T' k = t' at d0 D0
      generalize G k = gk at A0 D0
      go_wp2_with fail
      go_region_held3 (fun W => W.cell? ⟨g, k, none⟩ = some (.slice (some ⟨t, 0, none⟩) s s) ∧ W.cell? ⟨g', k, none⟩ = some (.slice (some ⟨t', 0, none⟩) s s)) (first | exact ⟨by assumption, by assumption⟩ | (refine ⟨?_, ?_⟩ <;> (refine (Below.cell (by assumption) ?_).trans (by assumption); (first | omega | (simp; omega))))) ((go_at_call 19; refine (likeI_any _ _ s gk _ (A0.next (by (repeat' (first | with_reducible exact Below.refl _ _ | with_reducible assumption | with_reducible refine gr_alloc ?_ _ | with_reducible refine gr_drew ?_ | with_reducible refine gr_drewN ?_ _ | with_reducible refine gr_trans ?_ (by assumption) | with_reducible refine gr_set ?_ ?_ _ | (simp; done) | omega | (simp; omega))))) (D0.next (by (repeat' (first | with_reducible exact Below.refl _ _ | with_reducible assumption | with_reducible refine gr_alloc ?_ _ | with_reducible refine gr_drew ?_ | with_reducible refine gr_drewN ?_ _ | with_reducible refine gr_trans ?_ (by assumption) | with_reducible refine gr_set ?_ ?_ _ | (simp; done) | omega | (simp; omega)))))).mono ?_; rintro e z1 ⟨rfl, hz1⟩; have hs1 := hz1.size; (try simp at hs1)))
      have hB1 : Below w.heap.size w z1 := by (repeat' (first | with_reducible exact Below.refl _ _ | with_reducible assumption | with_reducible refine gr_alloc ?_ _ | with_reducible refine gr_drew ?_ | with_reducible refine gr_drewN ?_ _ | with_reducible refine gr_trans ?_ (by assumption) | with_reducible refine gr_set ?_ ?_ _ | (simp; done) | omega | (simp; omega)))
      clear c0 d0 A0 D0
      go_wp2_with fail
      go_roundw
      case rel => exact ⟨k + 1, by omega, by go_num, hB1⟩
      case measure => simp [intOf]; omega
    · have e : k = n := by omega
      subst e
      go_wp2_with fail
      go_ret
      exact ⟨rfl, hB⟩

end Go.Proofs.YtambbhldhhlfgaaDoor
