/- Chapter 5: roots with multiplicities, as the program finds them. No Go function in sight. -/
import Derived.Test.YtmhlolimaeejfaaDoorRb
import Derived.Test.YtmhlolimaeejfaaDoorRc
namespace Go.Proofs.YtmhlolimaeejfaaDoor
open Go.RowKit

theorem info_rt : (Tryd.prog.info? 49).map (fun i => (i.zero, i.size, i.bytes)) = some (some (.agg #[.int .i64 0, .int .i64 0, .int .i64 0]), 3, 24) := by kernel_rfl

/-- How often y X - x Y divides a form, of a degree less than f; does the search end? -/
def mlt (m x y : Int) : Nat → List Int → Nat
  | 0, _ => 0
  | f + 1, L => if mul0 (nva L x y) m then mlt m x y f (dvd L x y) + 1 else 0
def stp (m x y : Int) : Nat → List Int → Bool
  | 0, _ => false
  | f + 1, L => if mul0 (nva L x y) m then stp m x y f (dvd L x y) else true
/-- The root at a place, if there is one. -/
def rt1 (m : Int) (L : List Int) (q : Int × Int) : List (Int × Int × Int) := if mlt m q.1 q.2 4 L = 0 then [] else [(q.1, q.2, ((mlt m q.1 q.2 4 L : Nat) : Int))]
/-- The roots at the first k places. -/
def rtK (m : Int) (L : List Int) (P : List (Int × Int)) (k : Nat) : List (Int × Int × Int) := (P.take k).flatMap (rt1 m L)
def rts (m : Int) (L : List Int) (P : List (Int × Int)) : List (Int × Int × Int) := P.flatMap (rt1 m L)
theorem rt1_0 {m : Int} {L : List Int} {q : Int × Int} (h : mlt m q.1 q.2 4 L = 0) : rt1 m L q = [] := by simp [rt1, h]
theorem rt1_n {m : Int} {L : List Int} {q : Int × Int} {n : Nat} (h : mlt m q.1 q.2 4 L = n + 1) : rt1 m L q = [(q.1, q.2, ((n + 1 : Nat) : Int))] := by simp [rt1, h]
theorem rt1_len (m : Int) (L : List Int) (q : Int × Int) : (rt1 m L q).length ≤ 1 := by unfold rt1; split <;> simp
theorem rtK_s {m : Int} {L : List Int} {P : List (Int × Int)} {k : Nat} (h : k < P.length) : rtK m L P (k + 1) = rtK m L P k ++ rt1 m L P[k] := by
  unfold rtK; rw [List.take_succ_eq_append_getElem h, List.flatMap_append, List.flatMap_cons, List.flatMap_nil, List.append_nil]
theorem rtK_e {m : Int} {L : List Int} {P : List (Int × Int)} : rtK m L P P.length = rts m L P := by unfold rtK rts; rw [List.take_length]
theorem rtK_len (m : Int) (L : List Int) (P : List (Int × Int)) (k : Nat) : (rtK m L P k).length ≤ k := by
  induction k with
  | zero => simp [rtK]
  | succ k ih =>
    by_cases h : k < P.length
    · rw [rtK_s h, List.length_append]; have := rt1_len m L P[k]; omega
    · have e : rtK m L P (k + 1) = rtK m L P k := by unfold rtK; rw [List.take_of_length_le (by omega), List.take_of_length_le (by omega)]
      rw [e]; omega
def tr3 (r : Int × Int × Int) : List Value := [.int .i64 r.1, .int .i64 r.2.1, .int .i64 r.2.2]

theorem owns_formS {w : World} {B : Nat} {t : TypeId} {s : Nat} {v : Value} {n : Nat} {xs : List Value} (h : w.ownsRow B t s v n xs) (hn : 0 < n) : ∃ g cap, v = .slice (some ⟨g, 0, none⟩) n cap ∧ B ≤ g ∧ g < w.heap.size ∧ n ≤ cap ∧ cap ≤ maxLen ∧ ∀ i x, xs[i]? = some x → w.cell? ⟨g, i, none⟩ = some x := by
  rcases h.2 with ⟨_, h⟩ | ⟨g, cap, cur, rfl, hb, hg, hnc, hcm, hs, ht⟩
  · omega
  · refine ⟨g, cap, rfl, hb, (Array.getElem?_eq_some_iff.1 hg).1, hnc, hcm, fun i x hx => ?_⟩
    rw [← ht, List.getElem?_take] at hx
    split at hx
    · simp [World.cell?, hg]
      simpa using hx
    · cases hx
theorem owns_next {w w' : World} {B : Nat} {t : TypeId} {s : Nat} {v : Value} {n : Nat} {xs : List Value} (h : w.ownsRow B t s v n xs) (hb : Below w.heap.size w w') : w'.ownsRow B t s v n xs :=
  h.kept (row := none) ⟨hb.os, hb.tape, hb.output, hb.size, fun k hk _ => hb.block k hk⟩ (by cases (Value.ownBlock v) <;> simp)
theorem owns_apart {w : World} {B B' : Nat} {t t' : TypeId} {s s' : Nat} {v v' : Value} {n n' : Nat} {xs xs' : List Value} (h : w.ownsRow B t s v n xs) (h' : w.ownsRow B' t' s' v' n' xs') (ht : t ≠ t') : v.ownBlock = none ∨ v.ownBlock ≠ v'.ownBlock := by
  rcases h.2 with ⟨rfl, _⟩ | ⟨g, cap, cur, rfl, _, hg, _⟩
  · exact .inl rfl
  · rcases h'.2 with ⟨rfl, _⟩ | ⟨g', cap', cur', rfl, _, hg', _⟩
    · exact .inr (by simp [Value.ownBlock])
    · refine .inr fun e => ht ?_
      simp only [Value.ownBlock, Option.some.injEq] at e
      subst e
      rw [hg] at hg'
      cases hg'; rfl
/-- What the search of roots keeps: the form's box, the places, the roots so far. -/
structure Rst (w wr : World) (a b c d : Int) (vp : Value) (P : List (Int × Int)) (vr : Value) (R : List (Int × Int × Int)) : Prop where
  box : Bx wr w.heap.size #[.int .i64 a, .int .i64 b, .int .i64 c, .int .i64 d] 26
  pts : wr.ownsRow w.heap.size 47 2 vp P.length (P.flatMap pr2)
  rts : wr.ownsRow w.heap.size 49 3 vr R.length (R.flatMap tr3)
  bel : Below w.heap.size w wr

theorem Rst.next {w wr w' : World} {a b c d : Int} {vp vr : Value} {P : List (Int × Int)} {R : List (Int × Int × Int)} (h : Rst w wr a b c d vp P vr R) (hb : Below wr.heap.size wr w') : Rst w w' a b c d vp P vr R :=
  ⟨h.box.next hb, owns_next h.pts hb, owns_next h.rts hb, gr_trans h.bel hb⟩

theorem Rst.app {w wr w' : World} {a b c d : Int} {vp vr vr' : Value} {P : List (Int × Int)} {R : List (Int × Int × Int)} (h : Rst w wr a b c d vp P vr R) {o : Obj} (hg : (wr.alloc o).grownBy w' vr.ownBlock) {r : Int × Int × Int} (hO : w'.ownsRow w.heap.size 49 3 vr' (R.length + 1) (R.flatMap tr3 ++ tr3 r)) : Rst w w' a b c d vp P vr' (R ++ [r]) :=
  ⟨h.box.app h.rts (by decide) hg, (h.pts.alloc o).kept hg (owns_apart (h.pts.alloc o) (h.rts.alloc o) (by decide)), by simpa using hO, gr_own (gr_alloc h.bel o) hg (fun j hj => (h.rts.lt j hj).1)⟩


end Go.Proofs.YtmhlolimaeejfaaDoor
