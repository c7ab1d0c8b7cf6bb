/- Several texts in one: XRound, XC1t. -/
import Derived.Test.YtikmjefbjejbkaaBbZ1
import Derived.RangeFuncNested
import Derived.RangeFuncBound
import Derived.RangeFuncCalls
import Derived.RangeFuncLeaves
import Derived.RangeFuncBox
import Derived.RangeFuncMany
import Derived.Shelf.Abstract
import Derived.Shelf.RegionOpen
import Derived.OwnWalkIn
import Derived.TacticsInMore
import Derived.LoopNIn
import Derived.LoopIn
import Derived.Maps.AppendAt
import Derived.Deep.RegionHeld3
import Derived.Test.YtikmjefbjejbkaaBbC1s
import Derived.Test.YtikmjefbjejbkaaBbZ2

/- A region that draws its order, in the body of a loop over an iterator: by the plain theory of regions with held facts. No Go function in sight. -/
namespace Go.Proofs.Ytikmjefbjejbkaa
open Go.RowKit Go.Shelf

theorem rows_in {l n : Nat} {P : Program} {row : String} {args : Array Value} {w : World} {R : Value → World → Prop} (h : Rows P row args w R) : RowsIn (Fence.wide.inRound l) n P row args w R :=
  fun c cs _ => let ⟨v, w', r, s⟩ := h c cs; ⟨v, w', r, stepsIn_wide.2 s⟩
theorem upon_in {l n : Nat} {P : Program} {o : Oper} {a : Act} {next : Act → World → Prop} {Q : Exit → Act → World → Prop} {r : Result Next} (h : o.upon P a next Q r) : o.uponIn (Fence.wide.inRound l) n P a next Q r := by
  cases r with
  | ok x w =>
    cases x <;> simp only [Oper.upon, Oper.uponIn] at h ⊢
    all_goals first
      | exact h
      | exact ⟨fun h => by simp [Fence.wide] at h, CallsIn.inRound l (callsIn_wide.2 h)⟩
      | exact ⟨fun h => by simp [Fence.wide] at h, rows_in h⟩
      | exact h.elim
  | halt x w =>
    cases x <;> simp only [Oper.upon, Oper.uponIn] at h ⊢ <;> exact h
theorem wp_in {l n : Nat} {P : Program} {o : Oper} {a : Act} {w : World} {next : Act → World → Prop} {Q : Exit → Act → World → Prop} (hd : ∀ c, o.op ≠ .defer c) (h : o.wp P a w next Q) : o.wpIn (Fence.wide.inRound l) n P a w next Q :=
  ⟨fun _ _ => trivial, by rw [Fence.inRound_round, Oper.semAt_some l _ _ hd]; exact upon_in h⟩
theorem wpAny_in {l n : Nat} {P : Program} {md : Region.Mode} {ops : Array Oper} {Q : Exit → Act → World → Prop} (hd : ∀ (i : Nat) (o : Oper), ops[i]? = some o → ∀ c, o.op ≠ .defer c) (hL : ¬ LetsOut Q) :
    ∀ (fuel : Nat) (listed : Array Bool) (a : Act) (w : World), wpAny P md ops Q fuel listed a w → wpAnyIn (Fence.wide.inRound l) n P md ops Q fuel listed a w
  | 0, _, _, _, h => h
  | fuel + 1, listed, a, w, h => by
    refine ⟨h.1, fun i hi => ?_⟩
    have h1 := h.2 i hi
    unfold wpOpIn
    unfold wpOp at h1
    cases ho : ops[i]? with
    | none => simp only [ho] at h1 ⊢; exact wpAny_in hd hL fuel _ _ _ h1
    | some o =>
      simp only [ho] at h1 ⊢
      split
      · rename_i hw
        simp only [hw, if_true] at h1
        rcases h1 with h1 | h1
        · exact Oper.wpIn_mono (fun a w h => wpAny_in hd hL fuel _ _ _ h) (wp_in (hd i o ho) h1)
        · exact absurd h1.2 hL
      · rename_i hw
        simp only [hw] at h1
        exact ⟨fun _ _ => trivial, wpAny_in hd hL fuel _ _ _ h1⟩
/-- A region without a 'defer' in a round: by the plain theory. -/
theorem wpIn_region_held {l n id : Nat} {P : Program} {ops : Array Oper} {Q : Exit → Act → World → Prop} {a : Act} {w : World} (S : World → Prop) (hm : P.follows .mixedOrders = true)
    (hd : ∀ (i : Nat) (o : Oper), ops[i]? = some o → ∀ c, o.op ≠ .defer c) (hL : ¬ LetsOut Q) (hS : S w.drew)
    (h : S w.drew → wpAnyH P .any ops Q S ops.size (Array.replicate ops.size false) a w.drew) : (Code.region id ops true).wpIn (Fence.wide.inRound l) n P Q a w :=
  wpIn_region_any hm (wpAny_in hd hL _ _ _ _ (wpAny_of_held _ _ _ _ (h hS)))
theorem ownPostG_in {α : Type} {B : Nat} {Kp : World → World → Prop} {I : List α → World → Prop} {Ix : Code → List α → World → Prop} {xs : List α} {W : World} : ¬ LetsOut (ownPostG B Kp I Ix xs W) := fun ⟨_, _, h⟩ => h
def noDefer (o : Oper) : Bool := match o.op with | .defer _ => false | _ => true
theorem noDefer_all {ops : Array Oper} (h : ops.toList.all noDefer = true) : ∀ (i : Nat) (o : Oper), ops[i]? = some o → ∀ c, o.op ≠ .defer c := fun i o ho c e => by
  have hm : o ∈ ops.toList := by simpa using Array.mem_of_getElem? ho
  have := List.all_eq_true.1 h o hm
  simp [noDefer, e] at this

theorem row_next {w w' : World} {base : Nat} {e : TypeId} {size : Nat} {v : Value} {n : Nat} {xs : List Value} (h : w.ownsRow base e size v n xs) (hb : Below w.heap.size w w') : w'.ownsRow base e size v n xs := by
  refine ⟨h.1, ?_⟩
  rcases h.2 with h | ⟨g, cap, cur, h1, h2, h3, h4⟩
  · exact .inl h
  · exact .inr ⟨g, cap, cur, h1, h2, (hb.block g (Array.getElem?_eq_some_iff.1 h3).1).trans h3, h4⟩
theorem box_next {w w' : World} {B : Nat} {t : TypeId} {v : Value} (h : Boxed w B t v) (hb : Below w.heap.size w w') : Boxed w' B t v := (hb.block B h.lt).trans h
theorem keeps_next {w w' : World} (hb : Below w.heap.size w w') : KeepsOthers w w' := ⟨hb.size, fun k _ hk _ => (hb.block k (Array.getElem?_eq_some_iff.1 hk).1).trans hk⟩

end Go.Proofs.Ytikmjefbjejbkaa

/- Chapter 1: forms changed by matrices. -/
namespace Go.Proofs.Ytikmjefbjejbkaa
open Go.RowKit Go.Shelf
attribute [local go_sem] Oper.semAt_some

/-- The four base places. -/
def basePl : List (Int × Int) := [(1, 0), (0, 1), (1, 1), (1, -1)]

set_option maxHeartbeats 1000000 in
theorem base_stops (F : Fence) (n n₀ : Nat) (hf : F.fn 119) (hro : F.round = none) (hn : 1 ≤ n) (w : World) :
    SeqStopsK F n Try.prog 119 #[] (fun v : Int × Int => #[.int .i64 v.1, .int .i64 v.2]) (Below n₀) (fun xs => xs = basePl) (fun pre => pre ≠ []) 4 w := fun l J Jx W _ _ _ hY h0 => by
  refine callsIn_of_wp Try.func119 rfl hf ?_ hro
  simp only [Try.ntmps119, List.size_toArray, List.length_cons, List.length_nil, Nat.reduceAdd, Nat.reduceSub, Array.replicate_succ, Array.replicate_zero, List.push_toArray, List.append_toArray, List.nil_append, List.cons_append]
  obtain ⟨f1, t1, a1, b1, hy1, hR1⟩ := hY [] (1, 0) W h0 (by simp)
  dsimp only at hy1
  gi_wp2
  refine hR1.mono ?_
  rintro e W1 (⟨rfl, hJ1, _⟩ | ⟨rfl, hx1⟩)
  · obtain ⟨f2, t2, a2, b2, hy2, hR2⟩ := hY [(1, 0)] (0, 1) W1 hJ1 (by simp)
    dsimp only at hy2
    gi_wp2
    refine hR2.mono ?_
    rintro e W2 (⟨rfl, hJ2, _⟩ | ⟨rfl, hx2⟩)
    · obtain ⟨f3, t3, a3, b3, hy3, hR3⟩ := hY [(1, 0), (0, 1)] (1, 1) W2 hJ2 (by simp)
      dsimp only at hy3
      gi_wp2
      refine hR3.mono ?_
      rintro e W3 (⟨rfl, hJ3, _⟩ | ⟨rfl, hx3⟩)
      · obtain ⟨f4, t4, a4, b4, hy4, hR4⟩ := hY [(1, 0), (0, 1), (1, 1)] (1, -1) W3 hJ3 (by simp)
        dsimp only at hy4
        gi_wp2
        refine hR4.mono ?_
        rintro e W4 (⟨rfl, hJ4, _⟩ | ⟨rfl, hx4⟩)
        · gi_wp2
          go_end0
          exact ⟨⟨_, rfl⟩, .inl ⟨basePl, rfl, hJ4⟩⟩
        · gi_wp2
          (repeat (refine ⟨fun _ h => (by cases h), ?_⟩; gi_wp2))
          go_end0
          exact ⟨⟨_, rfl⟩, .inr ⟨_, by simp, hx4⟩⟩
      · gi_wp2
        (repeat (refine ⟨fun _ h => (by cases h), ?_⟩; gi_wp2))
        go_end0
        exact ⟨⟨_, rfl⟩, .inr ⟨_, by simp, hx3⟩⟩
    · gi_wp2
      (repeat (refine ⟨fun _ h => (by cases h), ?_⟩; gi_wp2))
      go_end0
      exact ⟨⟨_, rfl⟩, .inr ⟨_, by simp, hx2⟩⟩
  · gi_wp2
    (repeat (refine ⟨fun _ h => (by cases h), ?_⟩; gi_wp2))
    go_end0
    exact ⟨⟨_, rfl⟩, .inr ⟨_, by simp, hx1⟩⟩

end Go.Proofs.Ytikmjefbjejbkaa
