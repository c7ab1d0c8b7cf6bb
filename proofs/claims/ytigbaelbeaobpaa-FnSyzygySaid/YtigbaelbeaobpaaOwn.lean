/- Chapter 3: copies of lists in the model. -/
import Derived.Test.YtigbaelbeaobpaaDet2
namespace Go.Proofs.Ytigbaelbeaobpaa
open Go.RowKit

def nums (n : Nat) (g : Nat → Int) : List Value := (List.range n).map fun j => .int .i64 (g j)
theorem nums_get {n : Nat} {g : Nat → Int} {j : Nat} {u : Value} (h : (nums n g)[j]? = some u) : j < n ∧ u = .int .i64 (g j) := by
  unfold nums at h
  rw [List.getElem?_map] at h
  cases hj : (List.range n)[j]? with
  | none => rw [hj] at h; cases h
  | some x =>
    rw [hj] at h
    obtain ⟨h1, h2⟩ := List.getElem?_eq_some_iff.1 hj
    simp at h1 h2 h
    subst h2
    exact ⟨h1, h.symm⟩

set_option maxRecDepth 100000 in
set_option maxHeartbeats 1000000 in
theorem sOwn_any (b off len cap : Nat) (g : Nat → Int) (w : World) (hb : b < w.heap.size) (hcell : ∀ j, j < len → w.cell? ⟨b, off + j, none⟩ = some (.int .i64 (g j))) (hlen : len ≤ 1000) :
    Calls Try.prog 70 #[.slice (some ⟨b, off, none⟩) len cap] w fun e w' => ∃ v, e = .returned v ∧ w'.ownsRow w.heap.size 2 1 v len (nums len g) ∧ Below w.heap.size w w' := by
  obtain ⟨i0, hi, hz0, hz1, hz2⟩ := info_parts info_di
  have HI := hid hi; have HZ0 := hid hz0; have HZ1 := hid hz1; have HZ2 := hid hz2
  clear hi hz0 hz1 hz2
  have O0 : (w.alloc (.cells #[] 2)).ownsRow w.heap.size 2 1 (.slice (some ⟨w.heap.size, 0, none⟩) 0 0) 0 [] :=
    ⟨rfl, .inr ⟨w.heap.size, 0, #[], rfl, Nat.le_refl _, heap_alloc_new w _, Nat.le_refl _, by decide, rfl, rfl⟩⟩
  have hU := gr_alloc (Below.refl w.heap.size w) (.cells #[] 2)
  have HC := hid hcell
  clear hcell
  go_enter Try.func70, Try.ntmps70
  go_wp2_with (at_builtin; refine wpList_append_own _ rfl _ _ 28 rfl w.heap.size 2 i0 (.int .i64 0) 1 8 Try.underlying28 HI.out HZ0.out HZ1.out HZ2.out rfl (by decide) _ _ _ rfl O0 ⟨b, off, none⟩ len cap (nums len g) rfl ?l1 ?a1 ?b1 ?c1 ?d1 ?e1 ?_)
  case l1 => simp [nums]
  case a1 =>
    intro j u hj
    obtain ⟨h1, rfl⟩ := nums_get hj
    have hadd : (⟨b, off, none⟩ : Addr).add j = ⟨b, off + j, none⟩ := by unfold Addr.add; split <;> simp_all
    rw [hadd]
    exact (hU.cell (p := ⟨b, off + j, none⟩) hb).trans (HC.out j h1)
  case b1 =>
    intro u hu
    obtain ⟨j, hj, rfl⟩ := List.mem_map.1 hu
    rfl
  case c1 => unfold maxLen; omega
  case d1 => omega
  case e1 => simp
  intro y1 z1 P1 hg1 _
  have W1 := gr_grown2 hU hg1 (fun j hj => by simp [Value.ownBlock] at hj; omega)
  go_wp2
  go_ret
  exact ⟨_, rfl, by simpa using P1, W1⟩

end Go.Proofs.Ytigbaelbeaobpaa
