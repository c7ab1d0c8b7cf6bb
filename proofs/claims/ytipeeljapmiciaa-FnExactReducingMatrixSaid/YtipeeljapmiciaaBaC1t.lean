/- Chapter 1: forms changed by matrices. -/
import Derived.Test.YtipeeljapmiciaaBaC1s
import Derived.Test.YtipeeljapmiciaaBaZ5
namespace Go.Proofs.Ytipeeljapmiciaa
open Go.RowKit Go.Shelf
attribute [local go_sem] Oper.semAt_some

/-- The four base places. -/
def basePl : List (Int × Int) := [(1, 0), (0, 1), (1, 1), (1, -1)]

set_option maxHeartbeats 1000000 in
theorem base_stops (F : Fence) (n n₀ : Nat) (hf : F.fn 102) (hro : F.round = none) (hn : 1 ≤ n) (w : World) :
    SeqStopsK F n Try.prog 102 #[] (fun v : Int × Int => #[.int .i64 v.1, .int .i64 v.2]) (Below n₀) (fun xs => xs = basePl) (fun pre => pre ≠ []) 4 w := fun l J Jx W _ _ _ hY h0 => by
  refine callsIn_of_wp Try.func102 rfl hf ?_ hro
  simp only [Try.ntmps102, List.size_toArray, List.length_cons, List.length_nil, Nat.reduceAdd, Nat.reduceSub, Array.replicate_succ, Array.replicate_zero, List.push_toArray, List.append_toArray, List.nil_append, List.cons_append]
  obtain ⟨f1, t1, a1, b1, hy1, hR1⟩ := hY [] (1, 0) W h0 (by simp)
  dsimp only at hy1
  gi_wp2
  refine hR1.mono ?_
  rintro e W1 (⟨rfl, hJ1, _⟩ | ⟨rfl, hx1⟩)
  · obtain ⟨f2, t2, a2, b2, hy2, hR2⟩ := hY [(1, 0)] (0, 1) W1 hJ1 (by simp)
    dsimp only at hy2
    gi_wp2
    refine hR2.mono ?_
    rintro e W2 (⟨rfl, hJ2, _⟩ | ⟨rfl, hx2⟩)
    · obtain ⟨f3, t3, a3, b3, hy3, hR3⟩ := hY [(1, 0), (0, 1)] (1, 1) W2 hJ2 (by simp)
      dsimp only at hy3
      gi_wp2
      refine hR3.mono ?_
      rintro e W3 (⟨rfl, hJ3, _⟩ | ⟨rfl, hx3⟩)
      · obtain ⟨f4, t4, a4, b4, hy4, hR4⟩ := hY [(1, 0), (0, 1), (1, 1)] (1, -1) W3 hJ3 (by simp)
        dsimp only at hy4
        gi_wp2
        refine hR4.mono ?_
        rintro e W4 (⟨rfl, hJ4, _⟩ | ⟨rfl, hx4⟩)
        · gi_wp2
          go_end0
          exact ⟨⟨_, rfl⟩, .inl ⟨basePl, rfl, hJ4⟩⟩
        · gi_wp2
          (repeat (refine ⟨fun _ h => (by cases h), ?_⟩; gi_wp2))
          go_end0
          exact ⟨⟨_, rfl⟩, .inr ⟨_, by simp, hx4⟩⟩
      · gi_wp2
        (repeat (refine ⟨fun _ h => (by cases h), ?_⟩; gi_wp2))
        go_end0
        exact ⟨⟨_, rfl⟩, .inr ⟨_, by simp, hx3⟩⟩
    · gi_wp2
      (repeat (refine ⟨fun _ h => (by cases h), ?_⟩; gi_wp2))
      go_end0
      exact ⟨⟨_, rfl⟩, .inr ⟨_, by simp, hx2⟩⟩
  · gi_wp2
    (repeat (refine ⟨fun _ h => (by cases h), ?_⟩; gi_wp2))
    go_end0
    exact ⟨⟨_, rfl⟩, .inr ⟨_, by simp, hx1⟩⟩

end Go.Proofs.Ytipeeljapmiciaa
