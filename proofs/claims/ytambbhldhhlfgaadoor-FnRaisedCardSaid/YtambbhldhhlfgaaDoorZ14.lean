/- Several texts in one: XOe, XOg. -/
import Derived.Test.YtambbhldhhlfgaaDoorZ13
import Derived.Test.YtambbhldhhlfgaaDoorZ12
import Derived.Test.YtambbhldhhlfgaaDoorZ5

/- Chapter 6: the points at which a step can be taken, as a function that is ranged over. -/
namespace Go.Proofs.YtambbhldhhlfgaaDoor
open Go.RowKit Go.Shelf
attribute [local go_sem] Oper.semAt_some

abbrev Frm := Int × Int × Int × Int
/-- The points k at which a step can be taken, each with the form reached. -/
def stl (ok : Int → Bool) (g : Int → Frm) (k : Nat) : List (Int × Frm) := ((List.range k).filter fun i : Nat => ok i).map fun i : Nat => ((i : Int), g i)
theorem stl_0 (ok : Int → Bool) (g : Int → Frm) : stl ok g 0 = [] := rfl
theorem stl_t {ok : Int → Bool} {g : Int → Frm} {k : Nat} (h : ok k = true) : stl ok g (k + 1) = stl ok g k ++ [((k : Int), g k)] := by simp [stl, List.range_succ, List.filter_append, h]
theorem stl_f {ok : Int → Bool} {g : Int → Frm} {k : Nat} (h : ok k = false) : stl ok g (k + 1) = stl ok g k := by simp [stl, List.range_succ, List.filter_append, h]
theorem stl_len (ok : Int → Bool) (g : Int → Frm) (k : Nat) : (stl ok g k).length ≤ k := by
  have := List.length_filter_le (fun i : Nat => ok i) (List.range k)
  simpa [stl] using this
theorem stl_pre {ok : Int → Bool} {g : Int → Frm} {k m : Nat} (h : k ≤ m) : stl ok g k <+: stl ok g m := by
  induction m with
  | zero => have : k = 0 := by omega
            subst this; exact List.prefix_rfl
  | succ m ih =>
    by_cases e : k = m + 1
    · subst e; exact List.prefix_rfl
    · refine (ih (by omega)).trans ?_
      cases hk : ok m with
      | true => rw [stl_t hk]; exact List.prefix_append _ _
      | false => rw [stl_f hk]; exact List.prefix_rfl
def encSt (x : Int × Frm) : Array Value := #[.int .i64 x.1, .agg #[.int .i64 x.2.1, .int .i64 x.2.2.1, .int .i64 x.2.2.2.1, .int .i64 x.2.2.2.2]]

/-- The blocks from s to e lie as they lay. -/
def KpR (s e : Nat) (W W' : World) : Prop := W.heap.size ≤ W'.heap.size ∧ ∀ k, s ≤ k → k < e → W'.heap[k]? = W.heap[k]?
theorem KpR.trans {s e : Nat} {A B C : World} (h : KpR s e A B) (k : KpR s e B C) : KpR s e A C := ⟨Nat.le_trans h.1 k.1, fun i h1 h2 => (k.2 i h1 h2).trans (h.2 i h1 h2)⟩
theorem KpR.put {s e : Nat} {w : World} (he : e ≤ w.heap.size) (W : World) (l : Nat) (o o' : Obj) (hl : w.heap.size ≤ l) (h : W.heap[l]? = some o) (_ : o.isCells = false) (_ : o.isWalk = false) : KpR s e W (W.putObj l o') := by
  have hg := grownBy_putObj' W l o'
  have := (Array.getElem?_eq_some_iff.1 h).1
  exact ⟨hg.size, fun k _ hk => hg.block k (by omega) (fun e => by cases e; omega)⟩
theorem KpR.below {s e : Nat} {A B : World} {n : Nat} (h : Below n A B) (he : e ≤ n) : KpR s e A B := ⟨h.size, fun k _ hk => h.block k (by omega)⟩
theorem abides_below {β : Type} {B : Nat} {J : β → World → Prop} (hJ : AbidesFrom B J) {x : β} {A C : World} (h : J x A) (hb : Below A.heap.size A C) : J x C :=
  hJ x A C none h ⟨hb.os, hb.tape, hb.output, hb.size, fun k hk _ => hb.block k hk⟩ (fun r e => by cases e)

/-- What the function that is ranged over has caught: f in block s, p, and the step. -/
structure StB (W : World) (s : Nat) (a b c d p : Int) (gf : Nat) : Prop where
  lt : s + 3 ≤ W.heap.size
  c0 : W.cell? ⟨s, 0, none⟩ = some (.int .i64 a)
  c1 : W.cell? ⟨s, 1, none⟩ = some (.int .i64 b)
  c2 : W.cell? ⟨s, 2, none⟩ = some (.int .i64 c)
  c3 : W.cell? ⟨s, 3, none⟩ = some (.int .i64 d)
  cp : W.cell? ⟨s + 1, 0, none⟩ = some (.int .i64 p)
  cf : W.cell? ⟨s + 2, 0, none⟩ = some (.func (.func gf) #[] #[])
theorem StB.kp {W W' : World} {s : Nat} {a b c d p : Int} {gf : Nat} (h : StB W s a b c d p gf) (k : KpR s (s + 3) W W') : StB W' s a b c d p gf := by
  have q : ∀ i o, s ≤ i → i < s + 3 → W'.cell? ⟨i, o, none⟩ = W.cell? ⟨i, o, none⟩ := fun i o h1 h2 => World.cell?_of_block (a := ⟨i, o, none⟩) (k.2 i h1 h2)
  exact ⟨Nat.le_trans h.lt k.1, (q s 0 (by omega) (by omega)).trans h.c0, (q s 1 (by omega) (by omega)).trans h.c1, (q s 2 (by omega) (by omega)).trans h.c2, (q s 3 (by omega) (by omega)).trans h.c3, (q (s + 1) 0 (by omega) (by omega)).trans h.cp, (q (s + 2) 0 (by omega) (by omega)).trans h.cf⟩

set_option maxHeartbeats 1000000 in
theorem stepsFrom_any (a b c d p : Int) (gf : Nat) (w : World) :
    Calls Tryd.prog 89 #[.agg #[.int .i64 a, .int .i64 b, .int .i64 c, .int .i64 d], .int .i64 p, .func (.func gf) #[] #[]] w fun e w' => e = .returned (.func (.func 157) #[] #[.pointer (some ⟨w.heap.size + 1, 0, none⟩), .pointer (some ⟨w.heap.size + 2, 0, none⟩), .pointer (some ⟨w.heap.size, 0, none⟩)]) ∧ StB w' w.heap.size a b c d p gf ∧ w'.heap.size = w.heap.size + 3 ∧ Below w.heap.size w w' := by
  go_enter Tryd.func89, Tryd.ntmps89
  go_wp2
  go_ret
  refine ⟨rfl, ⟨by simp, ?_, ?_, ?_, ?_, ?_, ?_⟩, by simp, by (repeat' (first | with_reducible exact Below.refl _ _ | with_reducible assumption | with_reducible refine gr_alloc ?_ _ | with_reducible refine gr_drew ?_ | with_reducible refine gr_drewN ?_ _ | with_reducible refine gr_trans ?_ (by assumption) | with_reducible refine gr_set ?_ ?_ _ | (simp; done) | omega | (simp; omega)))⟩ <;> simp [go_sem]

def raG (a b c d p r : Int) : Frm := (raA a b c d p r, raB a b c d p r, raC a b c d p r, raD a b c d p r)
def loG (a b c d p r : Int) : Frm := (loA a b c d p r, loB a b c d p r, loC a b c d p r, loD a b c d p r)

set_option maxRecDepth 100000 in
set_option maxHeartbeats 4000000 in
theorem raisedAt_stops (a b c d p : Int) (s n : Nat) (w : World) (hn : 1 ≤ n) (ha : -1000 ≤ a ∧ a ≤ 1000) (hb : -1000 ≤ b ∧ b ≤ 1000) (hc : -1000 ≤ c ∧ c ≤ 1000) (hd : -1000 ≤ d ∧ d ≤ 1000) (h2 : 2 ≤ p) (h97 : p ≤ 97) (hB : StB w s a b c d p 75) :
    SeqStopsK Fence.wide n Tryd.prog 157 #[.pointer (some ⟨s + 1, 0, none⟩), .pointer (some ⟨s + 2, 0, none⟩), .pointer (some ⟨s, 0, none⟩)] encSt (KpR s (s + 3)) (fun xs => xs = stl (rOk a b c d p) (raG a b c d p) (p.toNat + 1)) (fun pre => pre <+: stl (rOk a b c d p) (raG a b c d p) (p.toNat + 1)) (p.toNat + 1) w := fun l J Jx W hW hJ hJx hY h0 => by
  have hB1 := hB.kp (KpR.below hW hB.lt)
  have hT : ∀ r, 0 ≤ r → r ≤ p → rOk a b c d p r = true → ∀ W, Calls Tryd.prog 75 #[.agg #[.int .i64 a, .int .i64 b, .int .i64 c, .int .i64 d], .int .i64 p, .int .i64 r] W fun e w' => e = .returned (.tuple #[.agg #[.int .i64 ((raG a b c d p r).1), .int .i64 ((raG a b c d p r).2.1), .int .i64 ((raG a b c d p r).2.2.1), .int .i64 ((raG a b c d p r).2.2.2)], .bool true]) ∧ Below W.heap.size W w' := fun r h0 hr ho W => by
    have h := raisedAt_any a b c d p r W ha hb hc hd h2 h97 h0 hr
    unfold StP at h
    rw [ho] at h
    simp only [ifB, if_true] at h
    exact h
  have hF : ∀ r, 0 ≤ r → r ≤ p → rOk a b c d p r = false → ∀ W, Calls Tryd.prog 75 #[.agg #[.int .i64 a, .int .i64 b, .int .i64 c, .int .i64 d], .int .i64 p, .int .i64 r] W fun e w' => e = .returned (.tuple #[.agg #[.int .i64 0, .int .i64 0, .int .i64 0, .int .i64 0], .bool false]) ∧ Below W.heap.size W w' := fun r h0 hr ho W => by
    have h := raisedAt_any a b c d p r W ha hb hc hd h2 h97 h0 hr
    unfold StP at h
    rw [ho] at h
    simpa [ifB] using h
  generalize rOk a b c d p = ok at *
  generalize raG a b c d p = g at *
  have HT := hid hT; have HF := hid hF; have HB1 := hid hB1
  clear hT hF ha hb hc hd hB hB1
  obtain ⟨_, c0, c1, c2, c3, cp, cf⟩ := id HB1.out
  refine callsIn_of_wp Tryd.func157 rfl trivial ?_ rfl
  simp only [Tryd.ntmps157, List.size_toArray, List.length_cons, List.length_nil, Nat.reduceAdd, Nat.reduceSub, Array.replicate_succ, Array.replicate_zero, List.push_toArray, List.append_toArray, List.nil_append, List.cons_append]
  gi_wp2
  clear c0 c1 c2 c3 cp cf
  gi_loopw [10] (fun s10 wr => ∃ k : Nat, (k : Int) ≤ p + 1 ∧ s10 = .int .i64 k ∧ J (stl ok g k) wr ∧ StB wr s a b c d p 75) (fun s10 _ => (p + 1 - intOf s10).toNat)
  case atStart => exact ⟨0, by omega, rfl, h0, HB1.out⟩
  case round =>
    obtain ⟨k, hk, rfl, hJk, hBk⟩ := hrel
    have hlt := hBk.lt
    have HBk := hid hBk
    by_cases hle : (k : Int) < p + 1
    · obtain ⟨_, c0, c1, c2, c3, cp, cf⟩ := id hBk
      have hln := stl_len ok g k
      cases hok : ok k with
      | false =>
        have HC := hid (HF.out k (by omega) (by omega) hok)
        have HS := hid (stl_f (g := g) hok)
        clear hok hBk
        gi_wp2_with (refine ⟨trivial, ?_⟩; gi_at_call 75; refine (callsIn_wide.2 (HC.out _)).mono ?_; rintro e w1 ⟨rfl, hb1⟩)
        (repeat (refine ⟨fun _ h => (by cases h), ?_⟩; gi_wp2))
        have hbW := gr_alloc hb1 (.cells #[.int .i64 0, .int .i64 0, .int .i64 0, .int .i64 0] 25)
        go_roundw
        case rel => exact ⟨k + 1, by omega, by go_num, by rw [HS.out]; exact abides_below hJ hJk hbW, HBk.out.kp (KpR.below hbW hlt)⟩
        case measure => simp [intOf]; omega
      | true =>
        have HC := hid (HT.out k (by omega) (by omega) hok)
        have HS := hid (stl_t (g := g) hok)
        clear hok hBk
        gi_wp2_with (refine ⟨trivial, ?_⟩; gi_at_call 75; refine (callsIn_wide.2 (HC.out _)).mono ?_; rintro e w1 ⟨rfl, hb1⟩; have hbW := gr_alloc hb1 (.cells #[.int .i64 ((g k).1), .int .i64 ((g k).2.1), .int .i64 ((g k).2.2.1), .int .i64 ((g k).2.2.2)] 25); obtain ⟨fn, tmps, assign, body, hy, hR⟩ := hY (stl ok g k) ((k : Int), g k) _ (abides_below hJ hJk hbW) (by omega); dsimp only [encSt] at hy)
        refine hR.mono ?_
        rintro e W3 (⟨rfl, hJ3, hk3⟩ | ⟨rfl, hJx3⟩)
        · gi_wp2
          go_roundw
          case rel => exact ⟨k + 1, by omega, by go_num, by rw [HS.out]; exact hJ3, (HBk.out.kp (KpR.below hbW hlt)).kp hk3⟩
          case measure => simp [intOf]; omega
        · gi_wp2
          (repeat (refine ⟨fun _ h => (by cases h), ?_⟩; gi_wp2))
          refine bodyPost_ret (results_none rfl _ _ _) rfl ?_
          exact ⟨⟨_, rfl⟩, .inr ⟨_, by rw [← HS.out]; exact stl_pre (by omega), hJx3⟩⟩
    · have e : k = p.toNat + 1 := by omega
      subst e
      clear hBk
      gi_wp2
      go_end0
      first | exact ⟨⟨_, rfl⟩, .inl hJk⟩ | exact ⟨⟨_, rfl⟩, .inl ⟨_, rfl, hJk⟩⟩

set_option maxRecDepth 100000 in
set_option maxHeartbeats 4000000 in
theorem loweredAt_stops (a b c d p : Int) (s n : Nat) (w : World) (hn : 1 ≤ n) (ha : -1000 ≤ a ∧ a ≤ 1000) (hb : -1000 ≤ b ∧ b ≤ 1000) (hc : -1000 ≤ c ∧ c ≤ 1000) (hd : -1000 ≤ d ∧ d ≤ 1000) (h2 : 2 ≤ p) (h97 : p ≤ 97) (hB : StB w s a b c d p 80) :
    SeqStopsK Fence.wide n Tryd.prog 157 #[.pointer (some ⟨s + 1, 0, none⟩), .pointer (some ⟨s + 2, 0, none⟩), .pointer (some ⟨s, 0, none⟩)] encSt (KpR s (s + 3)) (fun xs => xs = stl (lOk a b c d p) (loG a b c d p) (p.toNat + 1)) (fun pre => pre <+: stl (lOk a b c d p) (loG a b c d p) (p.toNat + 1)) (p.toNat + 1) w := fun l J Jx W hW hJ hJx hY h0 => by
  have hB1 := hB.kp (KpR.below hW hB.lt)
  have hT : ∀ r, 0 ≤ r → r ≤ p → lOk a b c d p r = true → ∀ W, Calls Tryd.prog 80 #[.agg #[.int .i64 a, .int .i64 b, .int .i64 c, .int .i64 d], .int .i64 p, .int .i64 r] W fun e w' => e = .returned (.tuple #[.agg #[.int .i64 ((loG a b c d p r).1), .int .i64 ((loG a b c d p r).2.1), .int .i64 ((loG a b c d p r).2.2.1), .int .i64 ((loG a b c d p r).2.2.2)], .bool true]) ∧ Below W.heap.size W w' := fun r h0 hr ho W => by
    have h := loweredAt_any a b c d p r W ha hb hc hd h2 h97 h0 hr
    unfold StP at h
    rw [ho] at h
    simp only [ifB, if_true] at h
    exact h
  have hF : ∀ r, 0 ≤ r → r ≤ p → lOk a b c d p r = false → ∀ W, Calls Tryd.prog 80 #[.agg #[.int .i64 a, .int .i64 b, .int .i64 c, .int .i64 d], .int .i64 p, .int .i64 r] W fun e w' => e = .returned (.tuple #[.agg #[.int .i64 0, .int .i64 0, .int .i64 0, .int .i64 0], .bool false]) ∧ Below W.heap.size W w' := fun r h0 hr ho W => by
    have h := loweredAt_any a b c d p r W ha hb hc hd h2 h97 h0 hr
    unfold StP at h
    rw [ho] at h
    simpa [ifB] using h
  generalize lOk a b c d p = ok at *
  generalize loG a b c d p = g at *
  have HT := hid hT; have HF := hid hF; have HB1 := hid hB1
  clear hT hF ha hb hc hd hB hB1
  obtain ⟨_, c0, c1, c2, c3, cp, cf⟩ := id HB1.out
  refine callsIn_of_wp Tryd.func157 rfl trivial ?_ rfl
  simp only [Tryd.ntmps157, List.size_toArray, List.length_cons, List.length_nil, Nat.reduceAdd, Nat.reduceSub, Array.replicate_succ, Array.replicate_zero, List.push_toArray, List.append_toArray, List.nil_append, List.cons_append]
  gi_wp2
  clear c0 c1 c2 c3 cp cf
  gi_loopw [10] (fun s10 wr => ∃ k : Nat, (k : Int) ≤ p + 1 ∧ s10 = .int .i64 k ∧ J (stl ok g k) wr ∧ StB wr s a b c d p 80) (fun s10 _ => (p + 1 - intOf s10).toNat)
  case atStart => exact ⟨0, by omega, rfl, h0, HB1.out⟩
  case round =>
    obtain ⟨k, hk, rfl, hJk, hBk⟩ := hrel
    have hlt := hBk.lt
    have HBk := hid hBk
    by_cases hle : (k : Int) < p + 1
    · obtain ⟨_, c0, c1, c2, c3, cp, cf⟩ := id hBk
      have hln := stl_len ok g k
      cases hok : ok k with
      | false =>
        have HC := hid (HF.out k (by omega) (by omega) hok)
        have HS := hid (stl_f (g := g) hok)
        clear hok hBk
        gi_wp2_with (refine ⟨trivial, ?_⟩; gi_at_call 80; refine (callsIn_wide.2 (HC.out _)).mono ?_; rintro e w1 ⟨rfl, hb1⟩)
        (repeat (refine ⟨fun _ h => (by cases h), ?_⟩; gi_wp2))
        have hbW := gr_alloc hb1 (.cells #[.int .i64 0, .int .i64 0, .int .i64 0, .int .i64 0] 25)
        go_roundw
        case rel => exact ⟨k + 1, by omega, by go_num, by rw [HS.out]; exact abides_below hJ hJk hbW, HBk.out.kp (KpR.below hbW hlt)⟩
        case measure => simp [intOf]; omega
      | true =>
        have HC := hid (HT.out k (by omega) (by omega) hok)
        have HS := hid (stl_t (g := g) hok)
        clear hok hBk
        gi_wp2_with (refine ⟨trivial, ?_⟩; gi_at_call 80; refine (callsIn_wide.2 (HC.out _)).mono ?_; rintro e w1 ⟨rfl, hb1⟩; have hbW := gr_alloc hb1 (.cells #[.int .i64 ((g k).1), .int .i64 ((g k).2.1), .int .i64 ((g k).2.2.1), .int .i64 ((g k).2.2.2)] 25); obtain ⟨fn, tmps, assign, body, hy, hR⟩ := hY (stl ok g k) ((k : Int), g k) _ (abides_below hJ hJk hbW) (by omega); dsimp only [encSt] at hy)
        refine hR.mono ?_
        rintro e W3 (⟨rfl, hJ3, hk3⟩ | ⟨rfl, hJx3⟩)
        · gi_wp2
          go_roundw
          case rel => exact ⟨k + 1, by omega, by go_num, by rw [HS.out]; exact hJ3, (HBk.out.kp (KpR.below hbW hlt)).kp hk3⟩
          case measure => simp [intOf]; omega
        · gi_wp2
          (repeat (refine ⟨fun _ h => (by cases h), ?_⟩; gi_wp2))
          refine bodyPost_ret (results_none rfl _ _ _) rfl ?_
          exact ⟨⟨_, rfl⟩, .inr ⟨_, by rw [← HS.out]; exact stl_pre (by omega), hJx3⟩⟩
    · have e : k = p.toNat + 1 := by omega
      subst e
      clear hBk
      gi_wp2
      go_end0
      first | exact ⟨⟨_, rfl⟩, .inl hJk⟩ | exact ⟨⟨_, rfl⟩, .inl ⟨_, rfl, hJk⟩⟩


end Go.Proofs.YtambbhldhhlfgaaDoor

/- Chapter 6: points to raise, the program's. -/
namespace Go.Proofs.YtambbhldhhlfgaaDoor
open Go.RowKit Go.Shelf
attribute [local go_sem] Oper.semAt_some

/-- The points at which f can be raised. -/
def prp (a b c d p : Int) : List Int := (stl (rOk a b c d p) (raG a b c d p) (p.toNat + 1)).map (·.1)
theorem prp_len {a b c d p : Int} (h : p ≤ 97) : (prp a b c d p).length ≤ 98 := by
  have := stl_len (rOk a b c d p) (raG a b c d p) (p.toNat + 1)
  unfold prp; rw [List.length_map]; omega
theorem kpr_append {s e B : Nat} {W w1 : World} {v v' : Value} {T : TypeId} {sz k : Nat} {xs : List Value} {tmp : Obj} (hrow : W.ownsRow e T sz v k xs) (he : e ≤ W.heap.size) (hg : (W.alloc tmp).grownBy w1 v.ownBlock) (hB : B < s) : KpR s e W (w1.setCell ⟨B, 0, none⟩ v') := by
  have hs := hg.size
  simp only [World.size_alloc] at hs
  refine ⟨by rw [World.size_setCell]; omega, fun i h1 h2 => ?_⟩
  rw [Below.heap_setCell _ _ _ i (by show i ≠ B; omega), hg.block i (by simp; omega) (fun e' => by have := (hrow.lt i e'.symm).1; omega), Below.heap_alloc _ _ _ (by omega)]

set_option maxRecDepth 100000 in
set_option maxHeartbeats 4000000 in
theorem iPoints_any (a b c d p : Int) (w : World) : Calls Tryd.prog 17 #[.agg #[.int .i64 a, .int .i64 b, .int .i64 c, .int .i64 d], .int .i64 p] w (LstOut (fpc a b c d p) (prp a b c d p).length (fun i => (prp a b c d p).getD i 0) w) := by
  have hC := fun W => iCheckFP_any a b c d p W
  have hk : fpc a b c d p = 0 → isF a b c d = true ∧ prm p = true := fpc_0.1
  generalize fpc a b c d p = k at hC hk ⊢
  have HC := hid hC; have HK := hid hk
  clear hC hk
  obtain ⟨i0, hi, hz0, hz1, hz2⟩ := info_parts info_i64
  have HI := hid hi; have HZ0 := hid hz0; have HZ1 := hid hz1; have HZ2 := hid hz2
  clear hi hz0 hz1 hz2
  have A0 := Arr.new w a b c d 25
  have U0 := gr_alloc (Below.refl w.heap.size w) (.cells #[.int .i64 a, .int .i64 b, .int .i64 c, .int .i64 d] 25)
  refine (callsIn_wide (n := 3)).1 ?_
  refine callsIn_of_wp_marks Tryd.func17 rfl trivial ?_ rfl
  simp only [Tryd.ntmps17, List.size_toArray, List.length_cons, List.length_nil, Nat.reduceAdd, Nat.reduceSub, Array.replicate_succ, Array.replicate_zero, List.push_toArray, List.append_toArray, List.nil_append, List.cons_append]
  gi_wp2_with fail
  refine ⟨trivial, (callsIn_wide.2 (HC.out _)).mono ?_⟩
  rintro e w1 ⟨rfl, hb1⟩
  have A1 := A0.next hb1
  have U1 := gr_trans U0 hb1
  clear A0 U0
  by_cases hk0 : k = 0
  · obtain ⟨hF, hp⟩ := HK.out hk0
    obtain ⟨ha, hb, hc, hd⟩ := isF_t hF
    obtain ⟨h2, h97⟩ := prm_rng hp
    subst hk0
    have HS := hid (fun s n W hn hB => raisedAt_stops a b c d p s n W hn ha hb hc hd h2 h97 hB)
    have HR := hid (fun W => stepsFrom_any a b c d p 75 W)
    clear hF hp ha hb hc hd HK
    obtain ⟨_, a0, a1, a2, a3, _⟩ := id A1
    gi_wp2_with fail
    refine ⟨trivial, (callsIn_wide.2 (HR.out _)).mono ?_⟩
    rintro e W0 ⟨rfl, hB0, hz, hb0⟩
    simp only [World.size_alloc] at hB0 hz
    have hW1 := U1.size
    have U2 := gr_alloc U1 (.cells #[.slice none 0 0] 32)
    have bV := (Boxed.new w1 32 (.slice none 0 0)).kept (W' := W0) (row := none) ⟨hb0.os, hb0.tape, hb0.output, hb0.size, fun k hk _ => hb0.block k hk⟩ (by simp)
    have U3 := gr_trans U2 hb0
    have HB0 := hid hB0
    have HV := hid bV
    clear hB0 a0 a1 a2 a3 A1 U1 U2 bV HC
    have hsz : W0.heap.size = w1.heap.size + 4 := by omega
    have HZ := hid hsz
    clear hz
    gi_wp2_with fail
    refine wpIn_rangeFunc_ownG (n := 3) rfl (by omega) (gf := 157) (lb := #[.pointer (some ⟨w1.heap.size + 1 + 1, 0, none⟩), .pointer (some ⟨w1.heap.size + 1 + 2, 0, none⟩), .pointer (some ⟨w1.heap.size + 1, 0, none⟩)]) rfl trivial (enters_of Tryd.func157 (by kernel_rfl) rfl)
      (HS.out (w1.heap.size + 1) 2 W0 (by omega) HB0.out) (fun h k => KpR.trans h k) (KpR.put (by omega)) (Below.refl _ _) (fun _ => rfl)
      (fun pre W => (∃ v, Boxed W w1.heap.size 32 v ∧ W.ownsRow (w1.heap.size + 4) 2 1 v pre.length (pre.map fun x : Int × Frm => Value.int .i64 x.1) ∧ (v = .slice none 0 0 ↔ pre = [])) ∧ (Below w.heap.size w W ∧ w1.heap.size + 4 ≤ W.heap.size))
      (fun _ _ _ => False)
      (OwnFrom.and (Own.from (holdsRow_own (w1.heap.size + 4) w1.heap.size 32 2 1 (fun pre => pre.length) (fun pre => pre.map fun x : Int × Frm => Value.int .i64 x.1) (fun pre v => v = .slice none 0 0 ↔ pre = [])) _) (OwnFrom.and (ownFrom_below (Nat.le_refl _) (by omega)) (fun s A B row hs hg hr => Nat.le_trans hs hg.size)))
      (fun _ _ _ _ _ hs _ _ => hs)
      ⟨⟨_, HV.out, World.ownsRow_nil _ _ _ _, by simp⟩, U3, by omega⟩
      (fun x => { tmps := #[.agg #[.int .i64 a, .int .i64 b, .int .i64 c, .int .i64 d], .int .i64 p, .pointer (some ⟨w.heap.size, 0, none⟩), undef, .slice none 0 0, .int .i64 0, .int .i64 0, .pointer (some ⟨w1.heap.size, 0, none⟩), .int .i64 x.1, .agg #[.int .i64 a, .int .i64 b, .int .i64 c, .int .i64 d], .int .i64 p, .int .i64 0, .int .i64 0, .bool false, undef, .agg #[.int .i64 a, .int .i64 b, .int .i64 c, .int .i64 d], .int .i64 p, .func (.func 157) #[] #[.pointer (some ⟨w1.heap.size + 1 + 1, 0, none⟩), .pointer (some ⟨w1.heap.size + 1 + 2, 0, none⟩), .pointer (some ⟨w1.heap.size + 1, 0, none⟩)], .int .i64 x.1, .agg #[.int .i64 x.2.1, .int .i64 x.2.2.1, .int .i64 x.2.2.2.1, .int .i64 x.2.2.2.2], undef, undef, undef, undef, undef], defers := [] }) ?assign ?body ?done ?stop
    case assign =>
      intro l x W K hK
      dsimp only [encSt]
      gi_wp2
      exact hK
    case body =>
      rintro l pre x W ⟨⟨v, hv, hrow, hnil⟩, hB, hrs⟩ hlt
      have hcv := hv.cell
      have hBs := hB.size
      have hvl := hv.lt
      gi_wp2_with (gi_at_builtin; refine wpListIn_append_own _ rfl _ _ 32 rfl (w1.heap.size + 4) 2 i0 (.int .i64 0) 1 8 Tryd.underlying32 HI.out HZ0.out HZ1.out HZ2.out rfl (by decide) _ _ _ rfl (hrow.alloc _) ⟨W.heap.size, 0, none⟩ 1 1 [.int .i64 x.1] rfl rfl (cell_one_new _ _ _) (by simp [Value.oneCell']) (by unfold maxLen; omega) (by omega) (by simp; omega) ?_; intro v' w2 hown' hgrow _; obtain ⟨g', cap', rfl⟩ := ownsRow_succ hown'; obtain ⟨hv1, hv2, hr2, hk2, hb2⟩ := hv.appended (by decide) (row_weak hrow (base' := w.heap.size) (by omega)) hBs (by omega) (row_weak hown' (by omega)) hgrow; have hkp := kpr_append (s := w1.heap.size + 1) (B := w1.heap.size) (v' := .slice (some ⟨g', 0, none⟩) (pre.length + 1) cap') hrow hrs hgrow (by omega); have hc1 := hv1.cell; have hf1 := hv1.frozen)
      have hr3 := hown'.kept (grownBy_setCell' w2 w1.heap.size (.slice (some ⟨g', 0, none⟩) (pre.length + 1) cap')) (.inr (hv1.not_row (by decide) hown').symm)
      exact ⟨hk2.from _, hkp, ⟨_, hv2, by simpa using hr3, by simp⟩, hB.trans hb2, Nat.le_trans hrs hkp.1⟩
    case done =>
      rintro D ys W hD rfl ⟨⟨v, hv, hrow, hnil⟩, hB, hrs⟩ hK
      have hcv := hv.cell
      have HKD := hid hK
      clear hK hnil
      gi_wp2_with fail
      refine ⟨by simp, .inl ⟨_, _, rfl, run_takeDeferred HKD.out, ?_⟩⟩
      have hro := ownsRow_putObj hrow (.deferred none) HKD.out rfl
      have hL : (stl (rOk a b c d p) (raG a b c d p) (p.toNat + 1)).map (fun x : Int × Frm => Value.int .i64 x.1) = (prp a b c d p).map (Value.int .i64) := by unfold prp; rw [List.map_map]; rfl
      have hn : (stl (rOk a b c d p) (raG a b c d p) (p.toNat + 1)).length = (prp a b c d p).length := by unfold prp; rw [List.length_map]
      rw [hL, hn] at hro
      exact ⟨_, results_tmp2 rfl _ _ _, _, rfl, (OwnV.of_owns hro).base (by omega), hB.trans (belowK_b (w := w) (Nat.le_refl _) W D _ _ (by omega) HKD.out rfl rfl)⟩
    case stop =>
      rintro D c pre W _ _ h _
      exact h.elim
  · have HE := hid hk0
    have hk' : (k == 0) = false := by simpa using hk0
    clear hk0
    gi_wp2_with fail
    exact ⟨_, results_tmp2 rfl _ _ _, _, rfl, .inl ⟨rfl, by rw [if_neg HE.out]⟩, U1⟩

end Go.Proofs.YtambbhldhhlfgaaDoor
