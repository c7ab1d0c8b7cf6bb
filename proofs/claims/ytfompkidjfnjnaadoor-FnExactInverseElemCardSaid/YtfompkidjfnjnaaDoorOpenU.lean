/- What the door's condition gives a walk: the package's error for what is no unit is laid. -/
import Derived.Test.YtfompkidjfnjnaaDoorOpen
import Derived.Test.YtfompkidjfnjnaaDoorIv
import Derived.Test.YtfompkidjfnjnaaDoorTie
import Derived.Test.YtfompkidjfnjnaaDoorCards
import Derived.Stop.LaidErr
import Derived.LaidMore
import Derived.Stop.Joined
import Derived.SevenTiedAt
namespace Go.Proofs.YtfompkidjfnjnaaDoor
open Go.ChangeShapes Go.WideShapes Go.ChangeAt Go.RowKit

theorem nuG : Tryd.prog.globalNamed "loop.example/g01342/impl.errNoUnit" = some 0 := by kernel_rfl
theorem nuT : (Tryd.prog.globals[0]?).map (·.type) = some 56 := by kernel_rfl
theorem esStar : "*" ++ "errors.errorString" = "*errors.errorString" := by decide
theorem esRow (u : TypeId) (h : Tryd.prog.typeName? 3 u = some "*errors.errorString") : u = 135 :=
  typeName_ptr_named (nm := "errors.errorString") (by rw [esStar]; kernel_rfl) (by kernel_rfl) (by decide) u (by rw [esStar]; exact h)
theorem esCells : Tryd.prog.cellsOf 154 = 1 := by kernel_rfl
theorem strCells : Tryd.prog.cellsOf 9 = 1 := by kernel_rfl
theorem var_below {P : Program} {W W' : World} {n : String} {cs : Array Value} (h : W.var? P n = some cs) (hb : Below W.heap.size W W') : W'.var? P n = some cs := by
  unfold World.var? at h ⊢
  cases hg : P.globalNamed n with
  | none => simp [hg] at h
  | some g =>
    simp only [hg, Option.bind_some] at h ⊢
    have hlt : g < W.heap.size := by
      rcases Nat.lt_or_ge g W.heap.size with h' | h'
      · exact h'
      · simp [Array.getElem?_eq_none h'] at h
    rw [hb.block g hlt]; exact h
def nuLaid : List (String × DataW Unit) := [("loop.example/g01342/impl.errNoUnit", .iface "*errors.errorString" (.ptr (.agg [.lit (.string [116, 104, 101, 32, 101, 108, 101, 109, 101, 110, 116, 32, 105, 115, 32, 110, 111, 32, 117, 110, 105, 116])])))]
theorem nu_laid {W : World} (h : laidMetH Tryd.prog nuLaid W) : ∃ x0, W.var? Tryd.prog "loop.example/g01342/impl.errNoUnit" = some #[.iface 135 x0] ∧ SenU W x0 := by
  have h' : laidMet Tryd.prog nuLaid W := h
  obtain ⟨a, s, hv, _⟩ := laid_sentinel h' nuG nuT Tryd.underlying56 esRow Tryd.underlying135 Tryd.underlying154 rfl rfl Tryd.underlying9 esCells strCells
  have hc : W.cell? ⟨0, 0, none⟩ = some (.iface 135 (.pointer (some a))) := by simpa using World.var?_cell nuG hv 0
  exact ⟨_, hv, hc, World.block_lt_of_cell? W _ hc⟩
theorem nu_door (os : Os) (args : Array Value) : laidMetH Tryd.prog nuLaid ((World.doorLaid Tryd.prog 400 os).forCall (fun _ _ => 0) ⟨#[], args, []⟩).memory :=
  laidMetH_of_parts3 (fuel := 8) (laidMet_of_run' 8 (by kernel_rfl) (by kernel_rfl)) (by kernel_rfl) (by kernel_rfl)


end Go.Proofs.YtfompkidjfnjnaaDoor
