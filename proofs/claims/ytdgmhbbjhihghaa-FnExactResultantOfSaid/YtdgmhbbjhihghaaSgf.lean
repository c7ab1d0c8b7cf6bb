/- Chapter 3: the number of a row in a column, with its sign. -/
import Derived.Test.YtdgmhbbjhihghaaRsA
import Derived.Test.YtdgmhbbjhihghaaC1
namespace Go.Proofs.Ytdgmhbbjhihghaa
open Go.RowKit

/-- A slice of small counts. -/
def RdN (w : World) (v : Value) (L : List Nat) : Prop :=
  (v = .slice none 0 0 ∧ L = []) ∨ ∃ b cap, v = .slice (some ⟨b, 0, none⟩) L.length cap ∧ L.length ≤ cap ∧ cap ≤ maxLen ∧ b < w.heap.size ∧ ∀ i, i < L.length → w.cell? ⟨b, i, none⟩ = some (.int .i64 ((L.getD i 0 : Nat) : Int))
theorem drop_getD {L : List Nat} {k : Nat} (h : k < L.length) : L.drop k = L.getD k 0 :: L.drop (k + 1) := by
  rw [List.drop_eq_getElem_cons h]
  simp [List.getD, h]

set_option maxRecDepth 100000 in
set_option maxHeartbeats 1000000 in
theorem iSgf_any {n : Nat} (tb off cap : Nat) (tv : Value) (L : List Nat) (c : Nat) (x : Int) (w : World) (hrow : w.cell? ⟨tb, off + c, none⟩ = some (.int .i64 x)) (hc : c < n) (hx : -1000000000000 ≤ x ∧ x ≤ 1000000000000) (hT : RdN w tv L) (hL : L.length ≤ 6) (hLb : ∀ i, L.getD i 0 < 1000) :
    Calls Try.prog 16 #[.slice (some ⟨tb, off, none⟩) n cap, tv, .int .i64 c] w fun e w' => e = .returned (.int .i64 (sgf L c x)) ∧ w = w' := by
  rcases hT with ⟨rfl, rfl⟩ | ⟨b, cap', rfl, hlc, hcm, hb, hcells⟩
  · go_enter Try.func16, Try.ntmps16
    go_wp2
    refine wp_loop_rounds 1 ?_
    rw [rounds_succ]; go_wp2
    go_ret
    exact ⟨rfl, rfl⟩
  · have HC := hid hcells
    clear hcells
    unfold maxLen at hcm
    go_enter Try.func16, Try.ntmps16
    go_wp2
    go_loop [7, 16] (fun f i => ∃ (k : Nat) (y : Int), k ≤ L.length ∧ i = .int .i64 k ∧ f = .int .i64 y ∧ -1000000000000 ≤ y ∧ y ≤ 1000000000000 ∧ sgf (L.drop k) c y = sgf L c x) (fun _ i => L.length - (intOf i).toNat)
    case atStart => exact ⟨0, x, Nat.zero_le _, rfl, rfl, hx.1, hx.2, by simp⟩
    case round =>
      obtain ⟨k, y, hk, rfl, rfl, hy1, hy2, hs⟩ := hrel
      by_cases hlt : k < L.length
      · have hcell := HC.out k hlt
        have hdr := drop_getD hlt
        have htb := hLb k
        generalize L.getD k 0 = t at hcell hdr htb
        rw [hdr] at hs
        simp only [sgf] at hs
        clear hdr
        by_cases e1 : t = c
        · subst e1
          simp only [if_true] at hs
          have HS := hid hs
          clear hs
          go_wp2
          go_ret
          exact ⟨ret_int HS.out, rfl⟩
        · simp only [e1, if_false] at hs
          by_cases e2 : c < t
          · simp only [e2, if_true] at hs
            have HS := hid hs
            clear hs
            go_wp2
            go_round
            case rel => exact ⟨k + 1, -y, by omega, by go_num, by go_num, by omega, by omega, HS.out⟩
            case measure => simp [intOf]; omega
          · simp only [e2, if_false] at hs
            have HS := hid hs
            clear hs
            go_wp2
            go_round
            case rel => exact ⟨k + 1, y, by omega, by go_num, rfl, by omega, by omega, HS.out⟩
            case measure => simp [intOf]; omega
      · have e : L.drop k = [] := List.drop_eq_nil_of_le (by omega)
        rw [e] at hs
        simp only [sgf] at hs
        have HS := hid hs
        clear hs e
        go_wp2
        go_ret
        exact ⟨ret_int HS.out, rfl⟩

end Go.Proofs.Ytdgmhbbjhihghaa
