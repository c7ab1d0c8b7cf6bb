/- Slices of arrays of three numbers that a law takes: copies. -/
import Derived.Test.YtpbkadljclfogaaOpenE
import Derived.Test.YtpbkadljclfogaaElS
import Derived.Deep.OwnRows
namespace Go.Proofs.Ytpbkadljclfogaa
open Go.ChangeShapes Go.WideShapes Go.ChangeAt Go.RowKit

/-- A slice that came in, its numbers being g 0, .. -/
def RowG (w : World) (a : Option Addr) (n : Nat) (g : Nat → Int) : Prop :=
  n = 0 ∨ ∃ x, a = some x ∧ x.block < w.heap.size ∧ ∀ i, i < 3 * n → w.cell? (x.add i) = some (.int .i64 (g i))
theorem RowG.of {w : World} {a : Option Addr} {len cap : Nat} (h : IsRowE w a len cap) : ∃ g, RowG w a len g := by
  rcases h with ⟨_, rfl, _⟩ | ⟨x, rfl, _, _, g, hg⟩
  · exact ⟨fun _ => 0, .inl rfl⟩
  · by_cases h0 : len = 0
    · exact ⟨g, .inl h0⟩
    · refine ⟨g, .inr ⟨x, rfl, ?_, fun i hi => (hg i hi).1⟩⟩
      have hc := (hg 0 (by omega)).1
      have := World.block_lt_of_cell? w (x.add 0) hc
      rwa [add_block] at this
theorem RowG.next {w w' : World} {a : Option Addr} {n : Nat} {g : Nat → Int} (h : RowG w a n g) (hb : Below w.heap.size w w') : RowG w' a n g := by
  rcases h with h | ⟨x, h1, h2, h3⟩
  · exact .inl h
  · exact .inr ⟨x, h1, Nat.lt_of_lt_of_le h2 hb.size, fun i hi => (hb.cell (p := x.add i) (by rw [add_block]; exact h2)).trans (h3 i hi)⟩
theorem info_el : (Try.prog.info? 24).map (fun i => (i.zero, i.size, i.bytes)) = some (some (.agg #[.int .i64 0, .int .i64 0, .int .i64 0]), 3, 24) := by kernel_rfl
theorem make_el (n : Nat) (hn : n ≤ 1048576) (w : World) :
    (Instr.makeSlice 49 (.int .i64 (n : Int)) (.int .i64 (n : Int))).run Try.prog w = .ok (.slice (some ⟨w.heap.size, 0, none⟩) n n) (w.alloc (.cells (madeCells #[.int .i64 0, .int .i64 0, .int .i64 0] (n * 3)) 24)) := by
  obtain ⟨i, hi, hzz⟩ := Option.map_eq_some_iff.1 info_el
  simp only [Prod.mk.injEq] at hzz
  obtain ⟨hz, hs, hb⟩ := hzz
  have hr := run_make (P := Try.prog) w 49 24 i _ Try.underlying49 hi hz .i64 .i64 n n (by omega) (Int.le_refl _) (by rw [hb]; omega) (by omega)
  simp only [Int.toNat_natCast, hs] at hr
  exact hr
theorem made_el (w : World) (n : Nat) (t : TypeId) : (w.alloc (.cells (madeCells #[.int .i64 0, .int .i64 0, .int .i64 0] (n * 3)) t)).rowIs w.heap.size t (n * 3) (fun _ => .int .i64 0) := by
  refine ⟨_, Go.Deep.blk_alloc_new _ _, size_madeCells _ _, fun i hi => ?_⟩
  have h3 : i % 3 = 0 ∨ i % 3 = 1 ∨ i % 3 = 2 := by omega
  rcases h3 with h | h | h <;> simp [madeCells, hi, h]

set_option maxRecDepth 100000 in
set_option maxHeartbeats 1000000 in
theorem toE_any (a : Option Addr) (len cap : Nat) (g : Nat → Int) (w : World) (hR : RowG w a len g) (hlen : len ≤ 1048576) :
    Calls Try.prog 50 #[.slice a len cap] w fun e w' => e = .returned (.slice (some ⟨w.heap.size, 0, none⟩) len len) ∧ w'.rowIs w.heap.size 24 (len * 3) (fun i => .int .i64 (g i)) ∧ Below w.heap.size w w' := by
  have hmk := make_el len hlen w
  have hr0 := made_el w len 24
  have hU := gr_alloc (Below.refl w.heap.size w) (.cells (madeCells #[.int .i64 0, .int .i64 0, .int .i64 0] (len * 3)) 24)
  have HR := hid hR
  clear hR
  go_enter Try.func50, Try.ntmps50
  go_wp2_with fail
  clear hmk
  go_loopw [4] (fun i wr => ∃ k : Nat, k ≤ len ∧ i = .int .i64 k ∧ wr.rowIs w.heap.size 24 (len * 3) (fun j => .int .i64 (if j < 3 * k then g j else 0)) ∧ Below w.heap.size w wr) (fun i _ => len - (intOf i).toNat)
  case atStart => exact ⟨0, Nat.zero_le _, rfl, hr0.congr (fun i _ => by simp), hU⟩
  case round =>
    obtain ⟨k, hk, rfl, hrow, hB⟩ := hrel
    by_cases hlt : k < len
    · rcases HR.out with h0 | ⟨x, rfl, hxb, hcell⟩
      · omega
      · have c0 : wr.cell? (x.add (k * 3)) = some (.int .i64 (g (k * 3))) := (hB.cell (p := x.add (k * 3)) (by rw [add_block]; exact hxb)).trans (hcell _ (by omega))
        have c1 : wr.cell? ⟨(x.add (k * 3)).block, (x.add (k * 3)).off + 1, none⟩ = some (.int .i64 (g (k * 3 + 1))) := by
          show wr.cell? ((x.add (k * 3)).add 1) = _
          rw [Go.Deep.add_add]
          exact (hB.cell (p := x.add (k * 3 + 1)) (by rw [add_block]; exact hxb)).trans (hcell _ (by omega))
        have c2 : wr.cell? ⟨(x.add (k * 3)).block, (x.add (k * 3)).off + 2, none⟩ = some (.int .i64 (g (k * 3 + 2))) := by
          show wr.cell? ((x.add (k * 3)).add 2) = _
          rw [Go.Deep.add_add]
          exact (hB.cell (p := x.add (k * 3 + 2)) (by rw [add_block]; exact hxb)).trans (hcell _ (by omega))
        have HROW := hid hrow; have HB := hid hB
        clear hrow hB hcell hr0 hU
        obtain ⟨x0, hx0⟩ : ∃ y, y = g (k * 3) := ⟨_, rfl⟩
        obtain ⟨x1, hx1⟩ : ∃ y, y = g (k * 3 + 1) := ⟨_, rfl⟩
        obtain ⟨x2, hx2⟩ : ∃ y, y = g (k * 3 + 2) := ⟨_, rfl⟩
        rw [← hx0] at c0
        rw [← hx1] at c1
        rw [← hx2] at c2
        have HX0 := hid hx0; have HX1 := hid hx1; have HX2 := hid hx2
        clear hx0 hx1 hx2
        go_wp2_with fail
        refine (toElem_any _ _ _ _).mono ?_
        rintro e w1 ⟨rfl, hb1⟩
        have hrow1 := HROW.out.of_block (hb1.block _ HROW.out.lt)
        have hB1 := gr_trans HB.out hb1
        have e0 := hrow1.cell (i := k * 3) (by omega)
        have e1 := hrow1.cell (i := k * 3 + 1) (by omega)
        have e2 := hrow1.cell (i := k * 3 + 2) (by omega)
        have f0 := hrow1.frozen (k * 3)
        have f1 := hrow1.frozen (k * 3 + 1)
        have f2 := hrow1.frozen (k * 3 + 2)
        have HRS := hid (((hrow1.set (k * 3) (.int .i64 x0)).set (k * 3 + 1) (.int .i64 x1)).set (k * 3 + 2) (.int .i64 x2))
        have HBS := hid (gr_set (gr_set (gr_set hB1 (p := ⟨w.heap.size, k * 3, none⟩) (Nat.le_refl _) (.int .i64 x0)) (p := ⟨w.heap.size, k * 3 + 1, none⟩) (Nat.le_refl _) (.int .i64 x1)) (p := ⟨w.heap.size, k * 3 + 2, none⟩) (Nat.le_refl _) (.int .i64 x2))
        clear hrow1 hB1
        go_wp2_with fail
        go_roundw
        case rel => exact ⟨k + 1, by omega, by go_num, HRS.out.congr (fun j hj => by
          by_cases h2 : j = k * 3 + 2
          · subst h2; simp [HX2.out, show k * 3 + 2 < 3 * (k + 1) by omega]
          · by_cases h1 : j = k * 3 + 1
            · subst h1; simp [HX1.out, show k * 3 + 1 < 3 * (k + 1) by omega]
            · by_cases h0 : j = k * 3
              · subst h0; simp [HX0.out, show k * 3 < 3 * (k + 1) by omega]
              · simp only [h0, h1, h2, if_false]
                by_cases h : j < 3 * k
                · simp [h, show j < 3 * (k + 1) by omega]
                · simp [h, show ¬ j < 3 * (k + 1) by omega]), HBS.out⟩
        case measure => simp [intOf]; omega
    · go_wp2
      go_ret
      exact ⟨rfl, hrow.congr (fun j hj => by simp [show j < 3 * k by omega]), hB⟩

end Go.Proofs.Ytpbkadljclfogaa
