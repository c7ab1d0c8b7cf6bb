/- How an argument of a law is opened: a slice of arrays of three numbers. No Go function in sight. -/
import Derived.Test.YtpbkadljclfogaaOpen
import Derived.Deep.Slices
namespace Go.Proofs.Ytpbkadljclfogaa
open Go.ChangeShapes Go.WideShapes Go.ChangeAt Go.RowKit

/-- A slice of arrays of three numbers that came in: nil; or its numbers g 0, .. -/
def IsRowE (w : World) (a : Option Addr) (len cap : Nat) : Prop :=
  (a = none ∧ len = 0 ∧ cap = 0) ∨
  ∃ x, a = some x ∧ len ≤ cap ∧ cap ≤ maxLen ∧ ∃ g : Nat → Int, ∀ i, i < 3 * len → w.cell? (x.add i) = some (.int .i64 (g i)) ∧ (Lit.int .i64 (g i)).wf = true

def numC (v : Option Value) : Int := match v with
  | some (.int _ n) => n
  | _ => 0

section
variable {H : Type} {enc : TypeId × Value → H} {P : Program} {w : World} {base : Nat} {held : Bool}
theorem open_rowE {t e i : TypeId} {a : Option Addr} {len cap : Nat} {x : DataW H} {p : List MemPlace} (ht : P.underlying t = some (.slice e)) (he : P.underlying e = some (.array 3 i)) (hi : P.underlying i = some (.int .i64)) (hce : P.cellsOf e = 3) (hci : P.cellsOf i = 1)
    (h : DataW.Trod enc P w base (fun _ => true) held t (.slice a len cap) x p) : IsRowE w a len cap := by
  obtain ⟨fuel, hf⟩ := h
  rcases Go.Deep.open_slice ht hf with ⟨hcs, _⟩ | ⟨x, l, c, m, n, D, Pl, hcs, _, hl, hm, hmm, _, hel⟩
  · simp [Value.cells] at hcs
    obtain ⟨rfl, rfl, rfl⟩ := hcs
    exact .inl ⟨rfl, rfl, rfl⟩
  · simp [Value.cells] at hcs
    obtain ⟨rfl, rfl, rfl⟩ := hcs
    simp only [if_true] at hmm
    subst hmm
    refine .inr ⟨x, rfl, hl, hm, fun j => numC (w.cell? (x.add j)), fun j hj => ?_⟩
    obtain ⟨cs, hc, ht'⟩ := hel (j / 3) (by omega)
    rw [hce] at hc
    obtain ⟨_, hcl, hat⟩ := World.cells?_some hc
    obtain ⟨c0, c1, c2, rfl⟩ : ∃ c0 c1 c2, cs = [c0, c1, c2] := by
      match cs, hcl with
      | [c0, c1, c2], _ => exact ⟨c0, c1, c2, rfl⟩
    obtain ⟨y0, y1, y2, k, hx, hy0, hy1, hy2⟩ := trod_array3 he hci ht'
    obtain ⟨x0, e0, rfl, w0⟩ := DataW.trod_int hi hy0
    obtain ⟨x1, e1, rfl, w1⟩ := DataW.trod_int hi hy1
    obtain ⟨x2, e2, rfl, w2⟩ := DataW.trod_int hi hy2
    simp at e0 e1 e2
    subst e0 e1 e2
    have hjj := hat (j % 3) (by omega)
    rw [Go.Deep.add_add, show j / 3 * 3 + j % 3 = j by omega] at hjj
    have h3 : j % 3 = 0 ∨ j % 3 = 1 ∨ j % 3 = 2 := by omega
    have key : ∀ z, w.cell? (x.add j) = some (.int .i64 z) → (Lit.int .i64 z).wf = true → w.cell? (x.add j) = some (.int .i64 (numC (w.cell? (x.add j)))) ∧ (Lit.int .i64 (numC (w.cell? (x.add j)))).wf = true := by
      intro z h hw
      rw [h]
      exact ⟨rfl, hw⟩
    rcases h3 with h | h | h
    · rw [h] at hjj; exact key x0 hjj w0
    · rw [h] at hjj; exact key x1 hjj w1
    · rw [h] at hjj; exact key x2 hjj w2
end

end Go.Proofs.Ytpbkadljclfogaa
