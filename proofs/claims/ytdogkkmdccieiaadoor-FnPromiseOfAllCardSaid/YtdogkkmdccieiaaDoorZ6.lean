/- Several texts in one: XRc, XRe. -/
import Derived.Test.YtdogkkmdccieiaaDoorPl
import Derived.Test.YtdogkkmdccieiaaDoorZ5
import Derived.Test.YtdogkkmdccieiaaDoorRb

/- Chapter 5: points modulo a prime, the program's; rows of pairs and triples. -/
namespace Go.Proofs.YtdogkkmdccieiaaDoor
open Go.RowKit

theorem info_pl : (Tryd.prog.info? 132).map (fun i => (i.zero, i.size, i.bytes)) = some (some (.agg #[.int .i64 0, .int .i64 0]), 2, 16) := by kernel_rfl

theorem flat_get {α : Type} (f : α → List Value) (s : Nat) (hf : ∀ a, (f a).length = s) : ∀ (L : List α) (i j : Nat) (hi : i < L.length), j < s → (L.flatMap f)[i * s + j]? = (f L[i])[j]? := by
  intro L
  induction L with
  | nil => intro i j hi; simp at hi
  | cons a L ih =>
    intro i j hi hj
    cases i with
    | zero => simp only [Nat.zero_mul, Nat.zero_add, List.flatMap_cons, List.getElem_cons_zero]; rw [List.getElem?_append_left (by rw [hf]; exact hj)]
    | succ i =>
      simp only [List.flatMap_cons, List.getElem_cons_succ]
      rw [List.getElem?_append_right (by rw [hf, Nat.succ_mul]; omega), hf]
      rw [show (i + 1) * s + j - s = i * s + j by rw [Nat.succ_mul]; omega]
      exact ih i j (by simpa using hi) hj
/-- The two cells of a pair. -/
def pr2 (q : Int × Int) : List Value := [.int .i64 q.1, .int .i64 q.2]
/-- The points 0, 1 and so on; then 1, 0. -/
def ptl (k : Nat) : List (Int × Int) := (List.range k).map fun x : Nat => ((x : Int), 1)
def ptm (p : Int) : List (Int × Int) := ptl p.toNat ++ [(1, 0)]
theorem ptl_s (k : Nat) : ptl (k + 1) = ptl k ++ [((k : Int), 1)] := by simp [ptl, List.range_succ]
theorem ptl_len (k : Nat) : (ptl k).length = k := by simp [ptl]
theorem ptm_len (p : Int) : (ptm p).length = p.toNat + 1 := by simp [ptm, ptl]
/-- A row of pairs that a call has laid. -/
def PlOut (P : List (Int × Int)) (w : World) (e : Ending) (w' : World) : Prop := ∃ v, e = .returned v ∧ w'.ownsRow w.heap.size 132 2 v P.length (P.flatMap pr2) ∧ Below w.heap.size w w'
theorem pl_app {w : World} {B : Nat} {t : TypeId} {v : Value} {k : Nat} {P P' : List (Int × Int)} {q : Int × Int} (hl : P.length = k) (hs : P' = P ++ [q]) (h : w.ownsRow B t 2 v (k + 1) (P.flatMap pr2 ++ [.int .i64 q.1, .int .i64 q.2])) : w.ownsRow B t 2 v P'.length (P'.flatMap pr2) := by
  subst hs; simpa [hl, pr2] using h

set_option maxRecDepth 100000 in
set_option maxHeartbeats 1000000 in
theorem pointsModulo_any (p : Int) (w : World) (h2 : 2 ≤ p) (h97 : p ≤ 499) : Calls Tryd.prog 126 #[.int .i64 p] w (PlOut (ptm p) w) := by
  obtain ⟨i0, hi, hi0, hi1, hi2⟩ := info_parts info_pl
  have HI := hid hi; have HZ0 := hid hi0; have HZ1 := hid hi1; have HZ2 := hid hi2
  clear hi hi0 hi1 hi2
  obtain ⟨n, rfl⟩ : ∃ n : Nat, p = n := ⟨p.toNat, by omega⟩
  have HE := hid (show ptm (n : Int) = ptl n ++ [(1, 0)] by simp [ptm])
  generalize ptm (n : Int) = PM at HE ⊢
  have O0 := World.ownsRow_nil w w.heap.size 132 2
  go_enter Tryd.func126, Tryd.ntmps126
  go_wp2
  go_loopw [3, 4, 6] (fun s3 _ s6 wr => ∃ k : Nat, k ≤ n ∧ s6 = .int .i64 ((k : Int)) ∧ wr.ownsRow w.heap.size 132 2 s3 k ((ptl k).flatMap pr2) ∧ Below w.heap.size w wr) (fun _ _ s6 _ => n - (intOf s6).toNat)
  case atStart => exact ⟨0, Nat.zero_le _, rfl, O0, Below.refl _ _⟩
  case round =>
    obtain ⟨k, hk, rfl, hO, hU⟩ := hrel
    have HO := hid hO; have HU := hid hU
    have hv := hU.size
    clear hO hU O0
    by_cases hlt : k < n
    · have HS := hid (ptl_s k)
      have HN := hid (ptl_len k)
      go_wp2_with (at_builtin; refine wpList_append_own _ rfl _ _ 148 rfl w.heap.size 132 i0 (.agg #[.int .i64 0, .int .i64 0]) 2 16 Tryd.underlying148 HI.out HZ0.out HZ1.out HZ2.out rfl (by decide) _ _ _ rfl (HO.out.alloc _) ⟨wr.heap.size, 0, none⟩ 1 1 [.int .i64 ((k : Int)), .int .i64 1] rfl rfl ?a1 ?b1 ?c1 ?d1 ?e1 ?_)
      case a1 =>
        intro j u hj
        match j, hj with
        | 0, hj => simp at hj; subst hj; simp [Addr.add, go_sem]
        | 1, hj => simp at hj; subst hj; simp [Addr.add, go_sem]
      case b1 => intro u hu; simp at hu; rcases hu with rfl | rfl <;> rfl
      case c1 => unfold maxLen; omega
      case d1 => omega
      case e1 => first | omega | (simp; omega)
      intro y1 W1 O1 hg1 _
      have HO2 := hid (pl_app (q := ((k : Int), 1)) HN.out HS.out O1)
      have HU1 := hid (gr_own (gr_alloc HU.out _) hg1 (fun j hj => (HO.out.lt j hj).1))
      clear O1 hg1
      go_wp2
      go_roundw
      case rel => exact ⟨k + 1, by omega, by go_num, by have := HO2.out; rwa [ptl_len] at this, HU1.out⟩
      case measure => simp [intOf]; omega
    · have e : k = n := by omega
      subst e
      have HN := hid (ptl_len k)
      go_wp2_with (at_builtin; refine wpList_append_own _ rfl _ _ 148 rfl w.heap.size 132 i0 (.agg #[.int .i64 0, .int .i64 0]) 2 16 Tryd.underlying148 HI.out HZ0.out HZ1.out HZ2.out rfl (by decide) _ _ _ rfl (HO.out.alloc _) ⟨wr.heap.size, 0, none⟩ 1 1 [.int .i64 1, .int .i64 0] rfl rfl ?a2 ?b2 ?c2 ?d2 ?e2 ?_)
      case a2 =>
        intro j u hj
        match j, hj with
        | 0, hj => simp at hj; subst hj; simp [Addr.add, go_sem]
        | 1, hj => simp at hj; subst hj; simp [Addr.add, go_sem]
      case b2 => intro u hu; simp at hu; rcases hu with rfl | rfl <;> rfl
      case c2 => unfold maxLen; omega
      case d2 => omega
      case e2 => first | omega | (simp; omega)
      intro y1 W1 O1 hg1 _
      have HO2 := hid (pl_app (q := (1, 0)) HN.out HE.out O1)
      have HU1 := hid (gr_own (gr_alloc HU.out _) hg1 (fun j hj => (HO.out.lt j hj).1))
      clear O1 hg1
      go_wp2
      go_ret
      exact ⟨_, rfl, HO2.out, HU1.out⟩


end Go.Proofs.YtdogkkmdccieiaaDoor

/- Chapter 5: roots with multiplicities, as the program finds them. No Go function in sight. -/
namespace Go.Proofs.YtdogkkmdccieiaaDoor
open Go.RowKit

theorem info_rt : (Tryd.prog.info? 134).map (fun i => (i.zero, i.size, i.bytes)) = some (some (.agg #[.int .i64 0, .int .i64 0, .int .i64 0]), 3, 24) := by kernel_rfl

/-- How often y X - x Y divides a form, of a degree less than f; does the search end? -/
def mlt (m x y : Int) : Nat → List Int → Nat
  | 0, _ => 0
  | f + 1, L => if mul0 (nva L x y) m then mlt m x y f (dvd L x y) + 1 else 0
def stp (m x y : Int) : Nat → List Int → Bool
  | 0, _ => false
  | f + 1, L => if mul0 (nva L x y) m then stp m x y f (dvd L x y) else true
/-- The root at a place, if there is one. -/
def rt1 (m : Int) (L : List Int) (q : Int × Int) : List (Int × Int × Int) := if mlt m q.1 q.2 4 L = 0 then [] else [(q.1, q.2, ((mlt m q.1 q.2 4 L : Nat) : Int))]
/-- The roots at the first k places. -/
def rtK (m : Int) (L : List Int) (P : List (Int × Int)) (k : Nat) : List (Int × Int × Int) := (P.take k).flatMap (rt1 m L)
def rts (m : Int) (L : List Int) (P : List (Int × Int)) : List (Int × Int × Int) := P.flatMap (rt1 m L)
theorem rt1_0 {m : Int} {L : List Int} {q : Int × Int} (h : mlt m q.1 q.2 4 L = 0) : rt1 m L q = [] := by simp [rt1, h]
theorem rt1_n {m : Int} {L : List Int} {q : Int × Int} {n : Nat} (h : mlt m q.1 q.2 4 L = n + 1) : rt1 m L q = [(q.1, q.2, ((n + 1 : Nat) : Int))] := by simp [rt1, h]
theorem rt1_len (m : Int) (L : List Int) (q : Int × Int) : (rt1 m L q).length ≤ 1 := by unfold rt1; split <;> simp
theorem rtK_s {m : Int} {L : List Int} {P : List (Int × Int)} {k : Nat} (h : k < P.length) : rtK m L P (k + 1) = rtK m L P k ++ rt1 m L P[k] := by
  unfold rtK; rw [List.take_succ_eq_append_getElem h, List.flatMap_append, List.flatMap_cons, List.flatMap_nil, List.append_nil]
theorem rtK_e {m : Int} {L : List Int} {P : List (Int × Int)} : rtK m L P P.length = rts m L P := by unfold rtK rts; rw [List.take_length]
theorem rtK_len (m : Int) (L : List Int) (P : List (Int × Int)) (k : Nat) : (rtK m L P k).length ≤ k := by
  induction k with
  | zero => simp [rtK]
  | succ k ih =>
    by_cases h : k < P.length
    · rw [rtK_s h, List.length_append]; have := rt1_len m L P[k]; omega
    · have e : rtK m L P (k + 1) = rtK m L P k := by unfold rtK; rw [List.take_of_length_le (by omega), List.take_of_length_le (by omega)]
      rw [e]; omega
def tr3 (r : Int × Int × Int) : List Value := [.int .i64 r.1, .int .i64 r.2.1, .int .i64 r.2.2]

theorem owns_formS {w : World} {B : Nat} {t : TypeId} {s : Nat} {v : Value} {n : Nat} {xs : List Value} (h : w.ownsRow B t s v n xs) (hn : 0 < n) : ∃ g cap, v = .slice (some ⟨g, 0, none⟩) n cap ∧ B ≤ g ∧ g < w.heap.size ∧ n ≤ cap ∧ cap ≤ maxLen ∧ ∀ i x, xs[i]? = some x → w.cell? ⟨g, i, none⟩ = some x := by
  rcases h.2 with ⟨_, h⟩ | ⟨g, cap, cur, rfl, hb, hg, hnc, hcm, hs, ht⟩
  · omega
  · refine ⟨g, cap, rfl, hb, (Array.getElem?_eq_some_iff.1 hg).1, hnc, hcm, fun i x hx => ?_⟩
    rw [← ht, List.getElem?_take] at hx
    split at hx
    · simp [World.cell?, hg]
      simpa using hx
    · cases hx
theorem owns_next {w w' : World} {B : Nat} {t : TypeId} {s : Nat} {v : Value} {n : Nat} {xs : List Value} (h : w.ownsRow B t s v n xs) (hb : Below w.heap.size w w') : w'.ownsRow B t s v n xs :=
  h.kept (row := none) ⟨hb.os, hb.tape, hb.output, hb.size, fun k hk _ => hb.block k hk⟩ (by cases (Value.ownBlock v) <;> simp)
theorem owns_apart {w : World} {B B' : Nat} {t t' : TypeId} {s s' : Nat} {v v' : Value} {n n' : Nat} {xs xs' : List Value} (h : w.ownsRow B t s v n xs) (h' : w.ownsRow B' t' s' v' n' xs') (ht : t ≠ t') : v.ownBlock = none ∨ v.ownBlock ≠ v'.ownBlock := by
  rcases h.2 with ⟨rfl, _⟩ | ⟨g, cap, cur, rfl, _, hg, _⟩
  · exact .inl rfl
  · rcases h'.2 with ⟨rfl, _⟩ | ⟨g', cap', cur', rfl, _, hg', _⟩
    · exact .inr (by simp [Value.ownBlock])
    · refine .inr fun e => ht ?_
      simp only [Value.ownBlock, Option.some.injEq] at e
      subst e
      rw [hg] at hg'
      cases hg'; rfl
/-- What the search of roots keeps: the form's box, the places, the roots so far. -/
structure Rst (w wr : World) (a b c d : Int) (vp : Value) (P : List (Int × Int)) (vr : Value) (R : List (Int × Int × Int)) : Prop where
  box : Bx wr w.heap.size #[.int .i64 a, .int .i64 b, .int .i64 c, .int .i64 d] 25
  pts : wr.ownsRow w.heap.size 132 2 vp P.length (P.flatMap pr2)
  rts : wr.ownsRow w.heap.size 134 3 vr R.length (R.flatMap tr3)
  bel : Below w.heap.size w wr

theorem Rst.next {w wr w' : World} {a b c d : Int} {vp vr : Value} {P : List (Int × Int)} {R : List (Int × Int × Int)} (h : Rst w wr a b c d vp P vr R) (hb : Below wr.heap.size wr w') : Rst w w' a b c d vp P vr R :=
  ⟨h.box.next hb, owns_next h.pts hb, owns_next h.rts hb, gr_trans h.bel hb⟩

theorem Rst.app {w wr w' : World} {a b c d : Int} {vp vr vr' : Value} {P : List (Int × Int)} {R : List (Int × Int × Int)} (h : Rst w wr a b c d vp P vr R) {o : Obj} (hg : (wr.alloc o).grownBy w' vr.ownBlock) {r : Int × Int × Int} (hO : w'.ownsRow w.heap.size 134 3 vr' (R.length + 1) (R.flatMap tr3 ++ tr3 r)) : Rst w w' a b c d vp P vr' (R ++ [r]) :=
  ⟨h.box.app h.rts (by decide) hg, (h.pts.alloc o).kept hg (owns_apart (h.pts.alloc o) (h.rts.alloc o) (by decide)), by simpa using hO, gr_own (gr_alloc h.bel o) hg (fun j hj => (h.rts.lt j hj).1)⟩


end Go.Proofs.YtdogkkmdccieiaaDoor
