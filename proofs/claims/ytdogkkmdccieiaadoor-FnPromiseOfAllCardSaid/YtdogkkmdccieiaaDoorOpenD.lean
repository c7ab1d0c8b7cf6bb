/- What the door's condition gives a walk: the package's error for forms without factors is laid. -/
import Derived.Test.YtdogkkmdccieiaaDoorZ1
import Derived.Test.YtdogkkmdccieiaaDoorRg
import Derived.Test.YtdogkkmdccieiaaDoorTie
import Derived.Test.YtdogkkmdccieiaaDoorCards
import Derived.Stop.LaidErr
import Derived.LaidMore
import Derived.Stop.Joined
import Derived.SevenTiedAt
namespace Go.Proofs.YtdogkkmdccieiaaDoor
open Go.ChangeShapes Go.WideShapes Go.ChangeAt Go.RowKit

theorem nfG : Tryd.prog.globalNamed "loop.example/g01342/impl.errNoFactors" = some 1 := by kernel_rfl
theorem nfT : (Tryd.prog.globals[1]?).map (·.type) = some 69 := by kernel_rfl
theorem esStar : "*" ++ "errors.errorString" = "*errors.errorString" := by decide
theorem esRow (u : TypeId) (h : Tryd.prog.typeName? 3 u = some "*errors.errorString") : u = 154 :=
  typeName_ptr_named (nm := "errors.errorString") (by rw [esStar]; kernel_rfl) (by kernel_rfl) (by decide) u (by rw [esStar]; exact h)
theorem esCells : Tryd.prog.cellsOf 172 = 1 := by kernel_rfl
theorem strCells : Tryd.prog.cellsOf 9 = 1 := by kernel_rfl
theorem var_below {P : Program} {W W' : World} {n : String} {cs : Array Value} (h : W.var? P n = some cs) (hb : Below W.heap.size W W') : W'.var? P n = some cs := by
  unfold World.var? at h ⊢
  cases hg : P.globalNamed n with
  | none => simp [hg] at h
  | some g =>
    simp only [hg, Option.bind_some] at h ⊢
    have hlt : g < W.heap.size := by
      rcases Nat.lt_or_ge g W.heap.size with h' | h'
      · exact h'
      · simp [Array.getElem?_eq_none h'] at h
    rw [hb.block g hlt]; exact h
def nfLaid : List (String × DataW Unit) := [("loop.example/g01342/impl.errNoFactors", .iface "*errors.errorString" (.ptr (.agg [.lit (.string [116, 104, 101, 32, 102, 111, 114, 109, 32, 105, 115, 32, 48, 32, 97, 110, 100, 32, 104, 97, 115, 32, 110, 111, 32, 102, 97, 99, 116, 111, 114, 115])])))]
theorem nf_laid {W : World} (h : laidMetH Tryd.prog nfLaid W) : ∃ x0, W.var? Tryd.prog "loop.example/g01342/impl.errNoFactors" = some #[.iface 154 x0] ∧ Sen W x0 := by
  have h' : laidMet Tryd.prog nfLaid W := h
  obtain ⟨a, s, hv, _⟩ := laid_sentinel h' nfG nfT Tryd.underlying69 esRow Tryd.underlying154 Tryd.underlying172 rfl rfl Tryd.underlying9 esCells strCells
  have hc : W.cell? ⟨1, 0, none⟩ = some (.iface 154 (.pointer (some a))) := by simpa using World.var?_cell nfG hv 0
  exact ⟨_, hv, hc, World.block_lt_of_cell? W _ hc⟩
theorem nf_door (os : Os) (args : Array Value) : laidMetH Tryd.prog nfLaid ((World.doorLaid Tryd.prog 400 os).forCall (fun _ _ => 0) ⟨#[], args, []⟩).memory :=
  laidMetH_of_parts3 (fuel := 8) (laidMet_of_run' 8 (by kernel_rfl) (by kernel_rfl)) (by kernel_rfl) (by kernel_rfl)


end Go.Proofs.YtdogkkmdccieiaaDoor
