/- Chapter 5: lists of primes, the program's and the model's. -/
import Derived.Test.YtdogkkmdccieiaaDoorPc
import Derived.Test.YtdogkkmdccieiaaDoorBx
import Derived.Test.YtdogkkmdccieiaaDoorDet0
import Derived.Test.YtdogkkmdccieiaaDoorZ3
namespace Go.Proofs.YtdogkkmdccieiaaDoor
open Go.RowKit

theorem OwnV.of_owns {B : Nat} {w : World} {v : Value} {t : TypeId} {L : List Int} (h : w.ownsRow B t 1 v L.length (L.map (Value.int .i64))) : OwnV B w v L.length (fun i => L.getD i 0) := by
  rcases h.2 with ⟨rfl, hn⟩ | ⟨g, cap, cur, rfl, hb, hg, hnc, hcm, hs, ht⟩
  · exact .inl ⟨rfl, hn⟩
  · refine .inr ⟨g, cap, rfl, hb, (Array.getElem?_eq_some_iff.1 hg).1, hnc, hcm, fun i hi => ⟨?_, by simp [World.frozen?, hg]⟩⟩
    have hx : (L.map (Value.int .i64))[i]? = some (.int .i64 (L.getD i 0)) := by simp [List.getD, hi]
    rw [← ht, List.getElem?_take] at hx
    split at hx
    · simp [World.cell?, hg]
      simpa using hx
    · cases hx
theorem owns_empty (w : World) (B : Nat) (t : TypeId) (s : Nat) (hB : B ≤ w.heap.size) : (w.alloc (.cells #[] t)).ownsRow B t s (.slice (some ⟨w.heap.size, 0, none⟩) 0 0) 0 [] :=
  ⟨by simp, .inr ⟨w.heap.size, 0, #[], rfl, hB, heap_alloc_new w _, Nat.le_refl _, by decide, by simp, by simp⟩⟩
theorem prl_app {w : World} {B : Nat} {t : TypeId} {v : Value} {k : Nat} (hp : prm k = true) (h : w.ownsRow B t 1 v ((prl k).length + 1) ((prl k).map (Value.int .i64) ++ [.int .i64 k])) : w.ownsRow B t 1 v (prl (k + 1)).length ((prl (k + 1)).map (Value.int .i64)) := by
  rw [prl_t hp]; simpa using h



theorem prl_le (n : Int) : (if nco n = 0 then (prl (n.toNat + 1)).length else 0) ≤ 1000 := by
  by_cases hr : rng 2 97 n = true
  · have h := rng_t hr
    have := prl_len (n.toNat + 1)
    split <;> omega
  · simp [nco, hr]

/-- A list that the call laid. -/
def LstV (len : Nat) (g : Nat → Int) (w : World) (e : Ending) (w' : World) : Prop := ∃ v, e = .returned v ∧ OwnV w.heap.size w' v len g ∧ Below w.heap.size w w'






end Go.Proofs.YtdogkkmdccieiaaDoor
