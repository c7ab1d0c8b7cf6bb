/- Lists of integers: copies, comparisons. -/
import Derived.Test.YtofoahdnkcbhbaaOpen
import Derived.Test.YtofoahdnkcbhbaaMath
import Derived.Deep.OwnRows
namespace Go.Proofs.Ytofoahdnkcbhbaa
open Go.ChangeShapes Go.WideShapes Go.ChangeAt Go.RowKit

theorem info_l64 : (Try.prog.info? 2).map (fun i => (i.zero, i.size, i.bytes)) = some (some (.int .i64 0), 1, 8) := by kernel_rfl

theorem add_block (x : Addr) (k : Nat) : (x.add k).block = x.block := by unfold Addr.add; split <;> rfl
/-- A slice of n integers, g 0, .., g (n - 1). -/
def Rd (w : World) (v : Value) (n : Nat) (g : Nat → Int) : Prop :=
  (v = .slice none 0 0 ∧ n = 0) ∨ ∃ b cap, v = .slice (some ⟨b, 0, none⟩) n cap ∧ n ≤ cap ∧ cap ≤ maxLen ∧ b < w.heap.size ∧ ∀ i, i < n → w.cell? ⟨b, i, none⟩ = some (.int .i64 (g i))
theorem Rd.next {w w' : World} {v : Value} {n : Nat} {g : Nat → Int} (h : Rd w v n g) (hb : Below w.heap.size w w') : Rd w' v n g := by
  rcases h with h | ⟨b, cap, h1, h2, h3, h4, h5⟩
  · exact .inl h
  · exact .inr ⟨b, cap, h1, h2, h3, Nat.lt_of_lt_of_le h4 hb.size, fun i hi => (hb.cell (p := ⟨b, i, none⟩) h4).trans (h5 i hi)⟩
theorem Rd.of_row {w : World} {k n : Nat} {g : Nat → Int} (h : w.rowIs k 2 n (fun i => .int .i64 (g i))) (hn : n ≤ maxLen) : Rd w (.slice (some ⟨k, 0, none⟩) n n) n g :=
  .inr ⟨k, n, rfl, Nat.le_refl _, hn, h.lt, fun _ hi => h.cell hi⟩





end Go.Proofs.Ytofoahdnkcbhbaa
