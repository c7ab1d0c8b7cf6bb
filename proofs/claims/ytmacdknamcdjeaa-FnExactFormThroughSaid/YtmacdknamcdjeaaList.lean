/- Lists of integers: copies, comparisons. -/
import Derived.Test.YtmacdknamcdjeaaOpen
import Derived.Test.YtmacdknamcdjeaaMath
import Derived.Deep.OwnRows
namespace Go.Proofs.Ytmacdknamcdjeaa
open Go.ChangeShapes Go.WideShapes Go.ChangeAt Go.RowKit

theorem info_l64 : (Try.prog.info? 2).map (fun i => (i.zero, i.size, i.bytes)) = some (some (.int .i64 0), 1, 8) := by kernel_rfl

theorem add_block (x : Addr) (k : Nat) : (x.add k).block = x.block := by unfold Addr.add; split <;> rfl
/-- A slice of n integers, g 0, .., g (n - 1). -/
def Rd (w : World) (v : Value) (n : Nat) (g : Nat → Int) : Prop :=
  (v = .slice none 0 0 ∧ n = 0) ∨ ∃ b cap, v = .slice (some ⟨b, 0, none⟩) n cap ∧ n ≤ cap ∧ cap ≤ maxLen ∧ b < w.heap.size ∧ ∀ i, i < n → w.cell? ⟨b, i, none⟩ = some (.int .i64 (g i))
theorem Rd.next {w w' : World} {v : Value} {n : Nat} {g : Nat → Int} (h : Rd w v n g) (hb : Below w.heap.size w w') : Rd w' v n g := by
  rcases h with h | ⟨b, cap, h1, h2, h3, h4, h5⟩
  · exact .inl h
  · exact .inr ⟨b, cap, h1, h2, h3, Nat.lt_of_lt_of_le h4 hb.size, fun i hi => (hb.cell (p := ⟨b, i, none⟩) h4).trans (h5 i hi)⟩
theorem Rd.of_row {w : World} {k n : Nat} {g : Nat → Int} (h : w.rowIs k 2 n (fun i => .int .i64 (g i))) (hn : n ≤ maxLen) : Rd w (.slice (some ⟨k, 0, none⟩) n n) n g :=
  .inr ⟨k, n, rfl, Nat.le_refl _, hn, h.lt, fun _ hi => h.cell hi⟩

set_option maxRecDepth 100000 in
set_option maxHeartbeats 1000000 in
theorem toI_any (a : Option Addr) (len cap : Nat) (zs : List Int) (w : World) (hR : IsRow .i64 w a len cap zs) (hlen : len ≤ 1048576) :
    Calls Try.prog 22 #[.slice a len cap] w fun e w' => e = .returned (.slice (some ⟨w.heap.size, 0, none⟩) len len) ∧ w'.rowIs w.heap.size 2 len (fun i => .int .i64 (zs.getD i 0)) ∧ Below w.heap.size w w' := by
  have hmk := run_make_row' (P := Try.prog) 31 2 (.int .i64 0) 8 Try.underlying31 info_l64 rfl .i64 .i64 len (by omega) (by omega) w
  have hr0 := World.rowIs_made w (.int .i64 0) len 2
  have hU := gr_alloc (Below.refl w.heap.size w) (.cells (madeCells #[Value.int .i64 0] len) 2)
  have HR := hid hR
  clear hR
  go_enter Try.func22, Try.ntmps22
  go_wp2_with fail
  clear hmk
  go_loopw [4] (fun i wr => ∃ k : Nat, k ≤ len ∧ i = .int .i64 k ∧ wr.rowIs w.heap.size 2 len (fun j => .int .i64 (if j < k then zs.getD j 0 else 0)) ∧ Below w.heap.size w wr) (fun i _ => len - (intOf i).toNat)
  case atStart => exact ⟨0, Nat.zero_le _, rfl, hr0.congr (fun i _ => by simp), hU⟩
  case round =>
    obtain ⟨k, hk, rfl, hrow, hB⟩ := hrel
    by_cases hlt : k < len
    · rcases HR.out with ⟨_, h0, _⟩ | ⟨x, rfl, hlc, hcm, hz, hcell, _⟩
      · omega
      · have hc := hcell k (by omega)
        have hxb : x.block < w.heap.size := by have := World.block_lt_of_cell? w (x.add k) hc; rwa [add_block] at this
        have hcr : wr.cell? (x.add k) = some (.int .i64 (zs.getD k 0)) := (hB.cell (p := x.add k) (by rw [add_block]; exact hxb)).trans hc
        have hck := hrow.cell hlt
        have hfk := hrow.frozen k
        have hrs := hrow.set k (.int .i64 (zs.getD k 0))
        have hBs := gr_set hB (p := ⟨w.heap.size, k, none⟩) (Nat.le_refl _) (.int .i64 (zs.getD k 0))
        have HRS := hid hrs
        have HBS := hid hBs
        clear hrs hBs hc hcell hz hU hr0
        unfold maxLen at hcm
        go_wp2
        go_roundw
        case rel => exact ⟨k + 1, by omega, by go_num, HRS.out.congr (fun j hj => by
          by_cases e : j = k
          · subst e; simp
          · simp only [e, if_false]; by_cases h : j < k
            · simp [h, show j < k + 1 by omega]
            · simp [h, show ¬ j < k + 1 by omega]), HBS.out⟩
        case measure => simp [intOf]; omega
    · go_wp2
      go_ret
      exact ⟨rfl, hrow.congr (fun j hj => by simp [show j < k by omega]), hB⟩

set_option maxRecDepth 100000 in
set_option maxHeartbeats 1000000 in
theorem eqI_any (u v : Value) (n : Nat) (g : Nat → Int) (w : World) (hu : Rd w u n g) (hv : Rd w v n g) :
    Calls Try.prog 24 #[u, v] w fun e w' => e = .returned (.bool true) ∧ Below w.heap.size w w' := by
  rcases hu with ⟨rfl, hn⟩ | ⟨b, cap, rfl, hc1, hm1, hb1, hcell1⟩
  · rcases hv with ⟨rfl, _⟩ | ⟨b', cap', rfl, hc2, hm2, hb2, hcell2⟩
    · go_enter Try.func24, Try.ntmps24
      go_wp2
      refine wp_loop_rounds 1 ?_
      rw [rounds_succ]; go_wp2
      go_ret
      exact ⟨rfl, Below.refl _ _⟩
    · subst hn
      go_enter Try.func24, Try.ntmps24
      go_wp2
      refine wp_loop_rounds 1 ?_
      rw [rounds_succ]; go_wp2
      go_ret
      exact ⟨rfl, Below.refl _ _⟩
  · unfold maxLen at hm1
    have hlen : ∃ a' cap', v = .slice a' n cap' := by
      rcases hv with ⟨rfl, rfl⟩ | ⟨b', cap', rfl, _⟩
      · exact ⟨_, _, rfl⟩
      · exact ⟨_, _, rfl⟩
    obtain ⟨a', cap', rfl⟩ := hlen
    have HV := hid hv
    have HC := hid hcell1
    clear hv hcell1
    go_enter Try.func24, Try.ntmps24
    go_wp2
    go_loopw [5] (fun i wr => ∃ k : Nat, k ≤ n ∧ i = .int .i64 k ∧ Below w.heap.size w wr) (fun i _ => n - (intOf i).toNat)
    case atStart => exact ⟨0, Nat.zero_le _, rfl, Below.refl _ _⟩
    case round =>
      obtain ⟨k, hk, rfl, hB⟩ := hrel
      by_cases hlt : k < n
      · rcases HV.out with ⟨h0, rfl⟩ | ⟨b', cap'', h0, hc2, hm2, hb2, hcell2⟩
        · omega
        · cases h0
          have c1 : wr.cell? ⟨b, k, none⟩ = some (.int .i64 (g k)) := (hB.cell (p := ⟨b, k, none⟩) hb1).trans (HC.out k hlt)
          have c2 : wr.cell? ⟨b', k, none⟩ = some (.int .i64 (g k)) := (hB.cell (p := ⟨b', k, none⟩) hb2).trans (hcell2 k hlt)
          unfold maxLen at hm2
          clear hcell2
          go_wp2
          go_quiet (fail)
          go_wp2
          go_roundw
          case rel => exact ⟨k + 1, by omega, by go_num, gr_drewN hB _⟩
          case measure => simp [intOf]; omega
      · go_wp2
        go_ret
        exact ⟨rfl, hB⟩

end Go.Proofs.Ytmacdknamcdjeaa
