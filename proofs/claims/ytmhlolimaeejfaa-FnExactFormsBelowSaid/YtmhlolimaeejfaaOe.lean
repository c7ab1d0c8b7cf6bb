/- Chapter 6: the points at which a step can be taken, as a function that is ranged over. -/
import Derived.Test.YtmhlolimaeejfaaOd
import Derived.Test.YtmhlolimaeejfaaRound
namespace Go.Proofs.Ytmhlolimaeejfaa
open Go.RowKit Go.Shelf
attribute [local go_sem] Oper.semAt_some

abbrev Frm := Int × Int × Int × Int
/-- The points k at which a step can be taken, each with the form reached. -/
def stl (ok : Int → Bool) (g : Int → Frm) (k : Nat) : List (Int × Frm) := ((List.range k).filter fun i : Nat => ok i).map fun i : Nat => ((i : Int), g i)
theorem stl_0 (ok : Int → Bool) (g : Int → Frm) : stl ok g 0 = [] := rfl
theorem stl_t {ok : Int → Bool} {g : Int → Frm} {k : Nat} (h : ok k = true) : stl ok g (k + 1) = stl ok g k ++ [((k : Int), g k)] := by simp [stl, List.range_succ, List.filter_append, h]
theorem stl_f {ok : Int → Bool} {g : Int → Frm} {k : Nat} (h : ok k = false) : stl ok g (k + 1) = stl ok g k := by simp [stl, List.range_succ, List.filter_append, h]
theorem stl_len (ok : Int → Bool) (g : Int → Frm) (k : Nat) : (stl ok g k).length ≤ k := by
  have := List.length_filter_le (fun i : Nat => ok i) (List.range k)
  simpa [stl] using this
theorem stl_pre {ok : Int → Bool} {g : Int → Frm} {k m : Nat} (h : k ≤ m) : stl ok g k <+: stl ok g m := by
  induction m with
  | zero => have : k = 0 := by omega
            subst this; exact List.prefix_rfl
  | succ m ih =>
    by_cases e : k = m + 1
    · subst e; exact List.prefix_rfl
    · refine (ih (by omega)).trans ?_
      cases hk : ok m with
      | true => rw [stl_t hk]; exact List.prefix_append _ _
      | false => rw [stl_f hk]; exact List.prefix_rfl
def encSt (x : Int × Frm) : Array Value := #[.int .i64 x.1, .agg #[.int .i64 x.2.1, .int .i64 x.2.2.1, .int .i64 x.2.2.2.1, .int .i64 x.2.2.2.2]]

/-- The blocks from s to e lie as they lay. -/
def KpR (s e : Nat) (W W' : World) : Prop := W.heap.size ≤ W'.heap.size ∧ ∀ k, s ≤ k → k < e → W'.heap[k]? = W.heap[k]?
theorem KpR.trans {s e : Nat} {A B C : World} (h : KpR s e A B) (k : KpR s e B C) : KpR s e A C := ⟨Nat.le_trans h.1 k.1, fun i h1 h2 => (k.2 i h1 h2).trans (h.2 i h1 h2)⟩
theorem KpR.put {s e : Nat} {w : World} (he : e ≤ w.heap.size) (W : World) (l : Nat) (o o' : Obj) (hl : w.heap.size ≤ l) (h : W.heap[l]? = some o) (_ : o.isCells = false) (_ : o.isWalk = false) : KpR s e W (W.putObj l o') := by
  have hg := grownBy_putObj' W l o'
  have := (Array.getElem?_eq_some_iff.1 h).1
  exact ⟨hg.size, fun k _ hk => hg.block k (by omega) (fun e => by cases e; omega)⟩
theorem KpR.below {s e : Nat} {A B : World} {n : Nat} (h : Below n A B) (he : e ≤ n) : KpR s e A B := ⟨h.size, fun k _ hk => h.block k (by omega)⟩
theorem abides_below {β : Type} {B : Nat} {J : β → World → Prop} (hJ : AbidesFrom B J) {x : β} {A C : World} (h : J x A) (hb : Below A.heap.size A C) : J x C :=
  hJ x A C none h ⟨hb.os, hb.tape, hb.output, hb.size, fun k hk _ => hb.block k hk⟩ (fun r e => by cases e)

/-- What the function that is ranged over has caught: f in block s, p, and the step. -/
structure StB (W : World) (s : Nat) (a b c d p : Int) (gf : Nat) : Prop where
  lt : s + 3 ≤ W.heap.size
  c0 : W.cell? ⟨s, 0, none⟩ = some (.int .i64 a)
  c1 : W.cell? ⟨s, 1, none⟩ = some (.int .i64 b)
  c2 : W.cell? ⟨s, 2, none⟩ = some (.int .i64 c)
  c3 : W.cell? ⟨s, 3, none⟩ = some (.int .i64 d)
  cp : W.cell? ⟨s + 1, 0, none⟩ = some (.int .i64 p)
  cf : W.cell? ⟨s + 2, 0, none⟩ = some (.func (.func gf) #[] #[])
theorem StB.kp {W W' : World} {s : Nat} {a b c d p : Int} {gf : Nat} (h : StB W s a b c d p gf) (k : KpR s (s + 3) W W') : StB W' s a b c d p gf := by
  have q : ∀ i o, s ≤ i → i < s + 3 → W'.cell? ⟨i, o, none⟩ = W.cell? ⟨i, o, none⟩ := fun i o h1 h2 => World.cell?_of_block (a := ⟨i, o, none⟩) (k.2 i h1 h2)
  exact ⟨Nat.le_trans h.lt k.1, (q s 0 (by omega) (by omega)).trans h.c0, (q s 1 (by omega) (by omega)).trans h.c1, (q s 2 (by omega) (by omega)).trans h.c2, (q s 3 (by omega) (by omega)).trans h.c3, (q (s + 1) 0 (by omega) (by omega)).trans h.cp, (q (s + 2) 0 (by omega) (by omega)).trans h.cf⟩

set_option maxHeartbeats 1000000 in
theorem stepsFrom_any (a b c d p : Int) (gf : Nat) (w : World) :
    Calls Try.prog 87 #[.agg #[.int .i64 a, .int .i64 b, .int .i64 c, .int .i64 d], .int .i64 p, .func (.func gf) #[] #[]] w fun e w' => e = .returned (.func (.func 115) #[] #[.pointer (some ⟨w.heap.size + 1, 0, none⟩), .pointer (some ⟨w.heap.size + 2, 0, none⟩), .pointer (some ⟨w.heap.size, 0, none⟩)]) ∧ StB w' w.heap.size a b c d p gf ∧ w'.heap.size = w.heap.size + 3 ∧ Below w.heap.size w w' := by
  go_enter Try.func87, Try.ntmps87
  go_wp2
  go_ret
  refine ⟨rfl, ⟨by simp, ?_, ?_, ?_, ?_, ?_, ?_⟩, by simp, by (repeat' (first | with_reducible exact Below.refl _ _ | with_reducible assumption | with_reducible refine gr_alloc ?_ _ | with_reducible refine gr_drew ?_ | with_reducible refine gr_drewN ?_ _ | with_reducible refine gr_trans ?_ (by assumption) | with_reducible refine gr_set ?_ ?_ _ | (simp; done) | omega | (simp; omega)))⟩ <;> simp [go_sem]

def raG (a b c d p r : Int) : Frm := (raA a b c d p r, raB a b c d p r, raC a b c d p r, raD a b c d p r)
def loG (a b c d p r : Int) : Frm := (loA a b c d p r, loB a b c d p r, loC a b c d p r, loD a b c d p r)

set_option maxRecDepth 100000 in
set_option maxHeartbeats 4000000 in
theorem raisedAt_stops (a b c d p : Int) (s n : Nat) (w : World) (hn : 1 ≤ n) (ha : -1000 ≤ a ∧ a ≤ 1000) (hb : -1000 ≤ b ∧ b ≤ 1000) (hc : -1000 ≤ c ∧ c ≤ 1000) (hd : -1000 ≤ d ∧ d ≤ 1000) (h2 : 2 ≤ p) (h97 : p ≤ 97) (hB : StB w s a b c d p 88) :
    SeqStopsK Fence.wide n Try.prog 115 #[.pointer (some ⟨s + 1, 0, none⟩), .pointer (some ⟨s + 2, 0, none⟩), .pointer (some ⟨s, 0, none⟩)] encSt (KpR s (s + 3)) (fun xs => xs = stl (rOk a b c d p) (raG a b c d p) (p.toNat + 1)) (fun pre => pre <+: stl (rOk a b c d p) (raG a b c d p) (p.toNat + 1)) (p.toNat + 1) w := fun l J Jx W hW hJ hJx hY h0 => by
  have hB1 := hB.kp (KpR.below hW hB.lt)
  have hT : ∀ r, 0 ≤ r → r ≤ p → rOk a b c d p r = true → ∀ W, Calls Try.prog 88 #[.agg #[.int .i64 a, .int .i64 b, .int .i64 c, .int .i64 d], .int .i64 p, .int .i64 r] W fun e w' => e = .returned (.tuple #[.agg #[.int .i64 ((raG a b c d p r).1), .int .i64 ((raG a b c d p r).2.1), .int .i64 ((raG a b c d p r).2.2.1), .int .i64 ((raG a b c d p r).2.2.2)], .bool true]) ∧ Below W.heap.size W w' := fun r h0 hr ho W => by
    have h := raisedAt_any a b c d p r W ha hb hc hd h2 h97 h0 hr
    unfold StP at h
    rw [ho] at h
    simp only [ifB, if_true] at h
    exact h
  have hF : ∀ r, 0 ≤ r → r ≤ p → rOk a b c d p r = false → ∀ W, Calls Try.prog 88 #[.agg #[.int .i64 a, .int .i64 b, .int .i64 c, .int .i64 d], .int .i64 p, .int .i64 r] W fun e w' => e = .returned (.tuple #[.agg #[.int .i64 0, .int .i64 0, .int .i64 0, .int .i64 0], .bool false]) ∧ Below W.heap.size W w' := fun r h0 hr ho W => by
    have h := raisedAt_any a b c d p r W ha hb hc hd h2 h97 h0 hr
    unfold StP at h
    rw [ho] at h
    simpa [ifB] using h
  generalize rOk a b c d p = ok at *
  generalize raG a b c d p = g at *
  have HT := hid hT; have HF := hid hF; have HB1 := hid hB1
  clear hT hF ha hb hc hd hB hB1
  obtain ⟨_, c0, c1, c2, c3, cp, cf⟩ := id HB1.out
  refine callsIn_of_wp Try.func115 rfl trivial ?_ rfl
  simp only [Try.ntmps115, List.size_toArray, List.length_cons, List.length_nil, Nat.reduceAdd, Nat.reduceSub, Array.replicate_succ, Array.replicate_zero, List.push_toArray, List.append_toArray, List.nil_append, List.cons_append]
  gi_wp2
  clear c0 c1 c2 c3 cp cf
  gi_loopw [10] (fun s10 wr => ∃ k : Nat, (k : Int) ≤ p + 1 ∧ s10 = .int .i64 k ∧ J (stl ok g k) wr ∧ StB wr s a b c d p 88) (fun s10 _ => (p + 1 - intOf s10).toNat)
  case atStart => exact ⟨0, by omega, rfl, h0, HB1.out⟩
  case round =>
    obtain ⟨k, hk, rfl, hJk, hBk⟩ := hrel
    have hlt := hBk.lt
    have HBk := hid hBk
    by_cases hle : (k : Int) < p + 1
    · obtain ⟨_, c0, c1, c2, c3, cp, cf⟩ := id hBk
      have hln := stl_len ok g k
      cases hok : ok k with
      | false =>
        have HC := hid (HF.out k (by omega) (by omega) hok)
        have HS := hid (stl_f (g := g) hok)
        clear hok hBk
        gi_wp2_with (refine ⟨trivial, ?_⟩; gi_at_call 88; refine (callsIn_wide.2 (HC.out _)).mono ?_; rintro e w1 ⟨rfl, hb1⟩)
        (repeat (refine ⟨fun _ h => (by cases h), ?_⟩; gi_wp2))
        have hbW := gr_alloc hb1 (.cells #[.int .i64 0, .int .i64 0, .int .i64 0, .int .i64 0] 23)
        go_roundw
        case rel => exact ⟨k + 1, by omega, by go_num, by rw [HS.out]; exact abides_below hJ hJk hbW, HBk.out.kp (KpR.below hbW hlt)⟩
        case measure => simp [intOf]; omega
      | true =>
        have HC := hid (HT.out k (by omega) (by omega) hok)
        have HS := hid (stl_t (g := g) hok)
        clear hok hBk
        gi_wp2_with (refine ⟨trivial, ?_⟩; gi_at_call 88; refine (callsIn_wide.2 (HC.out _)).mono ?_; rintro e w1 ⟨rfl, hb1⟩; have hbW := gr_alloc hb1 (.cells #[.int .i64 ((g k).1), .int .i64 ((g k).2.1), .int .i64 ((g k).2.2.1), .int .i64 ((g k).2.2.2)] 23); obtain ⟨fn, tmps, assign, body, hy, hR⟩ := hY (stl ok g k) ((k : Int), g k) _ (abides_below hJ hJk hbW) (by omega); dsimp only [encSt] at hy)
        refine hR.mono ?_
        rintro e W3 (⟨rfl, hJ3, hk3⟩ | ⟨rfl, hJx3⟩)
        · gi_wp2
          go_roundw
          case rel => exact ⟨k + 1, by omega, by go_num, by rw [HS.out]; exact hJ3, (HBk.out.kp (KpR.below hbW hlt)).kp hk3⟩
          case measure => simp [intOf]; omega
        · gi_wp2
          (repeat (refine ⟨fun _ h => (by cases h), ?_⟩; gi_wp2))
          refine bodyPost_ret (results_none rfl _ _ _) rfl ?_
          exact ⟨⟨_, rfl⟩, .inr ⟨_, by rw [← HS.out]; exact stl_pre (by omega), hJx3⟩⟩
    · have e : k = p.toNat + 1 := by omega
      subst e
      clear hBk
      gi_wp2
      go_end0
      first | exact ⟨⟨_, rfl⟩, .inl hJk⟩ | exact ⟨⟨_, rfl⟩, .inl ⟨_, rfl, hJk⟩⟩

set_option maxRecDepth 100000 in
set_option maxHeartbeats 4000000 in
theorem loweredAt_stops (a b c d p : Int) (s n : Nat) (w : World) (hn : 1 ≤ n) (ha : -1000 ≤ a ∧ a ≤ 1000) (hb : -1000 ≤ b ∧ b ≤ 1000) (hc : -1000 ≤ c ∧ c ≤ 1000) (hd : -1000 ≤ d ∧ d ≤ 1000) (h2 : 2 ≤ p) (h97 : p ≤ 97) (hB : StB w s a b c d p 96) :
    SeqStopsK Fence.wide n Try.prog 115 #[.pointer (some ⟨s + 1, 0, none⟩), .pointer (some ⟨s + 2, 0, none⟩), .pointer (some ⟨s, 0, none⟩)] encSt (KpR s (s + 3)) (fun xs => xs = stl (lOk a b c d p) (loG a b c d p) (p.toNat + 1)) (fun pre => pre <+: stl (lOk a b c d p) (loG a b c d p) (p.toNat + 1)) (p.toNat + 1) w := fun l J Jx W hW hJ hJx hY h0 => by
  have hB1 := hB.kp (KpR.below hW hB.lt)
  have hT : ∀ r, 0 ≤ r → r ≤ p → lOk a b c d p r = true → ∀ W, Calls Try.prog 96 #[.agg #[.int .i64 a, .int .i64 b, .int .i64 c, .int .i64 d], .int .i64 p, .int .i64 r] W fun e w' => e = .returned (.tuple #[.agg #[.int .i64 ((loG a b c d p r).1), .int .i64 ((loG a b c d p r).2.1), .int .i64 ((loG a b c d p r).2.2.1), .int .i64 ((loG a b c d p r).2.2.2)], .bool true]) ∧ Below W.heap.size W w' := fun r h0 hr ho W => by
    have h := loweredAt_any a b c d p r W ha hb hc hd h2 h97 h0 hr
    unfold StP at h
    rw [ho] at h
    simp only [ifB, if_true] at h
    exact h
  have hF : ∀ r, 0 ≤ r → r ≤ p → lOk a b c d p r = false → ∀ W, Calls Try.prog 96 #[.agg #[.int .i64 a, .int .i64 b, .int .i64 c, .int .i64 d], .int .i64 p, .int .i64 r] W fun e w' => e = .returned (.tuple #[.agg #[.int .i64 0, .int .i64 0, .int .i64 0, .int .i64 0], .bool false]) ∧ Below W.heap.size W w' := fun r h0 hr ho W => by
    have h := loweredAt_any a b c d p r W ha hb hc hd h2 h97 h0 hr
    unfold StP at h
    rw [ho] at h
    simpa [ifB] using h
  generalize lOk a b c d p = ok at *
  generalize loG a b c d p = g at *
  have HT := hid hT; have HF := hid hF; have HB1 := hid hB1
  clear hT hF ha hb hc hd hB hB1
  obtain ⟨_, c0, c1, c2, c3, cp, cf⟩ := id HB1.out
  refine callsIn_of_wp Try.func115 rfl trivial ?_ rfl
  simp only [Try.ntmps115, List.size_toArray, List.length_cons, List.length_nil, Nat.reduceAdd, Nat.reduceSub, Array.replicate_succ, Array.replicate_zero, List.push_toArray, List.append_toArray, List.nil_append, List.cons_append]
  gi_wp2
  clear c0 c1 c2 c3 cp cf
  gi_loopw [10] (fun s10 wr => ∃ k : Nat, (k : Int) ≤ p + 1 ∧ s10 = .int .i64 k ∧ J (stl ok g k) wr ∧ StB wr s a b c d p 96) (fun s10 _ => (p + 1 - intOf s10).toNat)
  case atStart => exact ⟨0, by omega, rfl, h0, HB1.out⟩
  case round =>
    obtain ⟨k, hk, rfl, hJk, hBk⟩ := hrel
    have hlt := hBk.lt
    have HBk := hid hBk
    by_cases hle : (k : Int) < p + 1
    · obtain ⟨_, c0, c1, c2, c3, cp, cf⟩ := id hBk
      have hln := stl_len ok g k
      cases hok : ok k with
      | false =>
        have HC := hid (HF.out k (by omega) (by omega) hok)
        have HS := hid (stl_f (g := g) hok)
        clear hok hBk
        gi_wp2_with (refine ⟨trivial, ?_⟩; gi_at_call 96; refine (callsIn_wide.2 (HC.out _)).mono ?_; rintro e w1 ⟨rfl, hb1⟩)
        (repeat (refine ⟨fun _ h => (by cases h), ?_⟩; gi_wp2))
        have hbW := gr_alloc hb1 (.cells #[.int .i64 0, .int .i64 0, .int .i64 0, .int .i64 0] 23)
        go_roundw
        case rel => exact ⟨k + 1, by omega, by go_num, by rw [HS.out]; exact abides_below hJ hJk hbW, HBk.out.kp (KpR.below hbW hlt)⟩
        case measure => simp [intOf]; omega
      | true =>
        have HC := hid (HT.out k (by omega) (by omega) hok)
        have HS := hid (stl_t (g := g) hok)
        clear hok hBk
        gi_wp2_with (refine ⟨trivial, ?_⟩; gi_at_call 96; refine (callsIn_wide.2 (HC.out _)).mono ?_; rintro e w1 ⟨rfl, hb1⟩; have hbW := gr_alloc hb1 (.cells #[.int .i64 ((g k).1), .int .i64 ((g k).2.1), .int .i64 ((g k).2.2.1), .int .i64 ((g k).2.2.2)] 23); obtain ⟨fn, tmps, assign, body, hy, hR⟩ := hY (stl ok g k) ((k : Int), g k) _ (abides_below hJ hJk hbW) (by omega); dsimp only [encSt] at hy)
        refine hR.mono ?_
        rintro e W3 (⟨rfl, hJ3, hk3⟩ | ⟨rfl, hJx3⟩)
        · gi_wp2
          go_roundw
          case rel => exact ⟨k + 1, by omega, by go_num, by rw [HS.out]; exact hJ3, (HBk.out.kp (KpR.below hbW hlt)).kp hk3⟩
          case measure => simp [intOf]; omega
        · gi_wp2
          (repeat (refine ⟨fun _ h => (by cases h), ?_⟩; gi_wp2))
          refine bodyPost_ret (results_none rfl _ _ _) rfl ?_
          exact ⟨⟨_, rfl⟩, .inr ⟨_, by rw [← HS.out]; exact stl_pre (by omega), hJx3⟩⟩
    · have e : k = p.toNat + 1 := by omega
      subst e
      clear hBk
      gi_wp2
      go_end0
      first | exact ⟨⟨_, rfl⟩, .inl hJk⟩ | exact ⟨⟨_, rfl⟩, .inl ⟨_, rfl, hJk⟩⟩


end Go.Proofs.Ytmhlolimaeejfaa
