/- Chapter 2: a range over a map from forms to lists of matrices; its keys as a function that is ranged over. -/
import Derived.Test.YtipeeljapmiciaaBaZ7
import Derived.Test.YtipeeljapmiciaaBaZ5
import Derived.Maps.Range
import Derived.Sort.MapsRangeIn
import Derived.RangeFuncNested
namespace Go.Proofs.Ytipeeljapmiciaa
open Go.RowKit Go.Shelf
open Go.ChangeMaps (setBlock)
attribute [local go_sem] Oper.semAt_some

/-- Block r is a walk over the map L in block b; the entries of sn have been told. -/
def ItM (w : World) (r b : Nat) (L : List (Red.F4 × Value)) (sn : List Nat) : Prop := w.heap[r]? = some (.mapIter (some b) L.length sn.toArray L.length)
theorem mes_mem {L : List (Red.F4 × Value)} {n : Nat} {e : MapEntry} (h : e ∈ mes n L) : ∃ i k v, L[i]? = some (k, v) ∧ e = { key := vF k, val := v, born := n + i } := by
  obtain ⟨i, hi⟩ := List.mem_iff_getElem?.1 h
  rw [mes_get] at hi
  cases hL : L[i]? with
  | none => rw [hL] at hi; cases hi
  | some p => rw [hL] at hi; cases hi; exact ⟨i, p.1, p.2, hL, rfl⟩
theorem range_M {w : World} {b : Nat} {L : List (Red.F4 × Value)} (hb : Mp w b L) :
    (Instr.range 62 (.map (some b))).run Try.prog w = .ok (.pointer (some ⟨w.heap.size, 0, none⟩)) (w.alloc (.mapIter (some b) L.length #[] L.length)) :=
  run_range_map w _ _ _ b _ _ Try.underlying62 hb
theorem ItM.new {w : World} (b : Nat) (L : List (Red.F4 × Value)) : ItM (w.alloc (.mapIter (some b) L.length #[] L.length)) w.heap.size b L [] := World.alloc_heap_new w _
theorem next_M {w : World} {r b : Nat} {L : List (Red.F4 × Value)} {sn : List Nat} (ty : TypeId) (hb : Mp w b L) (hr : ItM w r b L sn) :
    ((∀ i, i < L.length → i ∈ sn) ∧ (Instr.next (.pointer (some ⟨r, 0, none⟩)) false ty).run Try.prog w = .ok (.tuple #[.bool false]) w) ∨
    ∃ i k v w', L[i]? = some (k, v) ∧ i ∉ sn ∧ (Instr.next (.pointer (some ⟨r, 0, none⟩)) false ty).run Try.prog w = .ok (.tuple #[.bool true, vF k, v]) w' ∧ ItM w' r b L (sn ++ [i]) ∧ Mp w' b L ∧
      w.grownBy w' (some r) ∧ w'.heap.size = w.heap.size ∧ (Instr.entry (.pointer (some ⟨r, 0, none⟩))).run Try.prog w' = .ok (.tuple #[vF k, v]) w' := by
  have hne : r ≠ b := by
    rintro rfl
    unfold Mp at hb; unfold ItM at hr
    rw [hb] at hr; cases hr
  unfold Mp at hb; unfold ItM at hr
  have hold : ∀ x ∈ ((mes 0 L).toArray).toList, x.born < L.length := fun x hx => by
    obtain ⟨i, k, v, hi, rfl⟩ := mes_mem (by simpa using hx)
    have := (List.getElem?_eq_some_iff.1 hi).1
    simpa using this
  rcases run_next_at (P := Try.prog) w ty r b L.length L.length sn.toArray (mes 0 L).toArray L.length hr hb hold (Nat.le_refl _) with ⟨h0, hrun⟩ | ⟨e, he, w1, hal, hrun⟩
  · refine .inl ⟨fun i hi => ?_, hrun⟩
    have h0' : leftOf (mes 0 L).toArray sn.toArray = #[] := Array.size_eq_zero_iff.1 h0
    unfold leftOf at h0'
    rw [Array.filter_eq_empty_iff] at h0'
    obtain ⟨p, hp⟩ : ∃ p, L[i]? = some p := ⟨_, List.getElem?_eq_getElem hi⟩
    have hm : ({ key := vF p.1, val := p.2, born := 0 + i } : MapEntry) ∈ (mes 0 L).toArray := by
      rw [List.mem_toArray]
      exact List.mem_iff_getElem?.2 ⟨i, by rw [mes_get, hp]; rfl⟩
    have := h0' _ hm
    simpa using this
  · unfold leftOf at he
    have he' : e ∈ mes 0 L ∧ ¬ e.born ∈ sn := by simpa using he
    obtain ⟨i, k, v, hi, rfl⟩ := mes_mem he'.1
    have hns : i ∉ sn := by simpa using he'.2
    have hr1 : w1.heap[r]? = some (.mapIter (some b) L.length sn.toArray L.length) := by rcases hal with rfl | rfl <;> exact hr
    have hb1 : w1.heap[b]? = some (.map (mes 0 L).toArray L.length) := by rcases hal with rfl | rfl <;> exact hb
    have hset := MapKept.heap_set (o' := .mapIter (some b) L.length (sn.toArray.push (0 + i)) L.length) hr1
    have hb' : (setBlock w1 r (.mapIter (some b) L.length (sn.toArray.push (0 + i)) L.length)).heap[b]? = some (.map (mes 0 L).toArray L.length) := (hset.2 b (fun e1 => hne e1.symm)).trans hb1
    refine .inr ⟨i, k, v, _, hi, hns, hrun, ?_, hb', ?_, ?_, run_entry_at _ r b L.length sn.toArray (mes 0 L).toArray L.length { key := vF k, val := v, born := 0 + i } hset.1 hb' (by simpa using he'.1) (by simpa using mes_nodup L 0)⟩
    · show (w1.heap.setIfInBounds r _)[r]? = _
      rw [hset.1]; simp
    · rcases hal with rfl | rfl <;> exact ⟨rfl, rfl, rfl, by simp [setBlock], fun i _ hi => hset.2 i (fun e1 => hi (by rw [e1]))⟩
    · rcases hal with rfl | rfl <;> simp [setBlock]
theorem Mp.grown {w w' : World} {b : Nat} {L : List (Red.F4 × Value)} {row : Option Nat} (h : Mp w b L) (hg : w.grownBy w' row) (hne : some b ≠ row) : Mp w' b L :=
  (hg.block b (Array.getElem?_eq_some_iff.1 h).1 hne).trans h
theorem Mp.lt {w : World} {b : Nat} {L : List (Red.F4 × Value)} (h : Mp w b L) : b < w.heap.size := (Array.getElem?_eq_some_iff.1 h).1
theorem ItM.lt {w : World} {r b : Nat} {L : List (Red.F4 × Value)} {sn : List Nat} (h : ItM w r b L sn) : r < w.heap.size := (Array.getElem?_eq_some_iff.1 h).1
theorem Mp.next {w w' : World} {b : Nat} {L : List (Red.F4 × Value)} (h : Mp w b L) {B : Nat} (hb : Below B w w') (hB : b < B) : Mp w' b L := (hb.block b hB).trans h
/-- What has been told, as the keys. -/
def tol (L : List (Red.F4 × Value)) (sn : List Nat) : List Red.F4 := sn.map fun i => (L.getD i ((0, 0, 0, 0), .bool false)).1
theorem tol_app {L : List (Red.F4 × Value)} {sn : List Nat} {i : Nat} {k : Red.F4} {v : Value} (h : L[i]? = some (k, v)) : tol L (sn ++ [i]) = tol L sn ++ [k] := by
  simp [tol, List.getD, h]
theorem tol_perm {L : List (Red.F4 × Value)} {sn : List Nat} (hn : sn.Nodup) (hs : ∀ i ∈ sn, i < L.length) (ha : ∀ i, i < L.length → i ∈ sn) : (tol L sn).Perm (L.map (·.1)) := by
  have hp : sn.Perm (List.range L.length) := by
    refine (List.perm_ext_iff_of_nodup hn List.nodup_range).2 fun i => ?_
    rw [List.mem_range]
    exact ⟨hs i, ha i⟩
  have h1 : (tol L sn).Perm (tol L (List.range L.length)) := hp.map _
  have h2 : tol L (List.range L.length) = L.map (·.1) := by
    apply List.ext_getElem?
    intro i
    simp only [tol, List.getElem?_map]
    rcases Nat.lt_or_ge i L.length with h | h
    · simp [h, List.getD]
    · simp [h]
  rw [h2] at h1; exact h1
section
variable {F : Fence} {n : Nat} (w : World) {ops : Array Oper} {rest : List Oper} {o : Oper} {a : Act} {Q : Exit → Act → World → Prop}
theorem wpListIn_range_M (hg : o.guard = none) (m : Operand) (hop : o.op = Op.range 62 m) (b : Nat) (L : List (Red.F4 × Value)) (hm : a.eval m = .map (some b)) (hb : Mp w b L)
    (hK : wpListIn F n Try.prog ops Q rest (a.put o.dst (.pointer (some ⟨w.heap.size, 0, none⟩))) (w.alloc (.mapIter (some b) L.length #[] L.length))) :
    wpListIn F n Try.prog ops Q (o :: rest) a w := by
  refine wpListIn_plain hg fun K' hK' => ?_
  have hrun := range_M hb
  unfold Oper.wpIn
  refine ⟨?_, ?_⟩
  · simp [Oper.about, hop]
  · rw [Oper.semAt_plain F _ _ (by rw [hop]; intro c hc'; cases hc')]
    simp [execOp, hop, hm, hrun, Result.andThen]
    exact hK' _ _ hK
theorem wpListIn_next_M (hg : o.guard = none) (it : Operand) (hop : o.op = Op.next it false) (r b : Nat) (L : List (Red.F4 × Value)) (sn : List Nat) (hit : a.eval it = .pointer (some ⟨r, 0, none⟩)) (hb : Mp w b L) (hr : ItM w r b L sn)
    (hDone : (∀ i, i < L.length → i ∈ sn) → wpListIn F n Try.prog ops Q rest (a.put o.dst (.tuple #[.bool false])) w)
    (hMore : ∀ i k v w', L[i]? = some (k, v) → i ∉ sn → ItM w' r b L (sn ++ [i]) → Mp w' b L → w.grownBy w' (some r) → w'.heap.size = w.heap.size → (Instr.entry (.pointer (some ⟨r, 0, none⟩))).run Try.prog w' = .ok (.tuple #[vF k, v]) w' → wpListIn F n Try.prog ops Q rest (a.put o.dst (.tuple #[.bool true, vF k, v])) w') :
    wpListIn F n Try.prog ops Q (o :: rest) a w := by
  refine wpListIn_plain hg fun K' hK' => ?_
  unfold Oper.wpIn
  refine ⟨by simp [Oper.about, hop], ?_⟩
  rw [Oper.semAt_plain F _ _ (by rw [hop]; intro c hc'; cases hc')]
  rcases next_M o.type hb hr with ⟨hl, hrun⟩ | ⟨i, k, v, w', hi, hn, hrun, hrg, hb', hgr, hsz, hen⟩
  · simp [execOp, hop, hit, hrun, Result.andThen]
    exact hK' _ _ (hDone hl)
  · simp [execOp, hop, hit, hrun, Result.andThen]
    exact hK' _ _ (hMore i k v w' hi hn hrg hb' hgr hsz hen)
end
theorem ItM.seen {w : World} {r b : Nat} {L : List (Red.F4 × Value)} {sn : List Nat} (h : ItM w r b L sn) : (w.iterSeen r).size = sn.length := by
  unfold ItM at h
  simp [World.iterSeen, h]
theorem ItM.walks {w w' : World} {r b : Nat} {L : List (Red.F4 × Value)} {sn : List Nat} (h : ItM w r b L sn) (k : KeepsWalks w w') : ItM w' r b L sn := k.same r _ h rfl
theorem Mp.walks {w w' : World} {b : Nat} {L : List (Red.F4 × Value)} (h : Mp w b L) (k : KeepsWalks w w') : Mp w' b L := k.same b _ h rfl
theorem ItM.alloc {w : World} {r b : Nat} {L : List (Red.F4 × Value)} {sn : List Nat} (h : ItM w r b L sn) (o : Obj) : ItM (w.alloc o) r b L sn := h.walks (KeepsWalks.alloc w o)
theorem abidesM {β : Type} {B : Nat} {J : β → World → Prop} (hJ : AbidesFrom B J) {x : β} {A C : World} (h : J x A) (hb : Below A.heap.size A C) : J x C :=
  hJ x A C none h ⟨hb.os, hb.tape, hb.output, hb.size, fun k hk _ => hb.block k hk⟩ (fun r e => by cases e)
def encK (q : Red.F4) : Array Value := #[vF q]
set_option maxRecDepth 100000 in
set_option maxHeartbeats 4000000 in
/-- maps.Keys's function hands on the keys, each once, in some order. -/
theorem keys_stops (Bm b n : Nat) (L : List (Red.F4 × Value)) (w : World) (hn : 1 ≤ n) (hBm : Bm < w.heap.size) (hm : w.cell? ⟨Bm, 0, none⟩ = some (.map (some b))) (hb : Mp w b L) :
    SeqStopsK Fence.wide n Try.prog 79 #[.pointer (some ⟨Bm, 0, none⟩)] encK KeepsWalks (fun xs => xs.Perm (L.map (·.1))) (fun _ => True) L.length w := fun l J Jx W hW hJ hJx hY h0 => by
  have hbW := hb.next hW hb.lt
  have hmW := (hW.cell (p := ⟨Bm, 0, none⟩) hBm).trans hm
  refine callsIn_of_wp Try.func79 rfl trivial ?_ rfl
  simp only [Try.ntmps79, List.size_toArray, List.length_cons, List.length_nil, Nat.reduceAdd, Nat.reduceSub, Array.replicate_succ, Array.replicate_zero, List.push_toArray, List.append_toArray, List.nil_append, List.cons_append]
  gi_wp2_with (gi_at_range; refine wpListIn_range_M _ rfl _ rfl b L rfl hbW ?_)
  go_frame
  have hB1 := hbW.next (gr_alloc (Below.refl W.heap.size W) (.mapIter (some b) L.length #[] L.length)) hbW.lt
  have hI1 := ItM.new (w := W) b L
  have hJ1 := abidesM hJ h0 (gr_alloc (Below.refl W.heap.size W) (.mapIter (some b) L.length #[] L.length))
  have hs1 : W.heap.size < (W.alloc (.mapIter (some b) L.length #[] L.length)).heap.size := by simp
  generalize W.alloc (.mapIter (some b) L.length #[] L.length) = W1 at hB1 hI1 hJ1 hs1 ⊢
  gi_loopw [3] (fun _ wr => ∃ sn : List Nat, sn.Nodup ∧ (∀ i ∈ sn, i < L.length) ∧ Mp wr b L ∧ ItM wr W.heap.size b L sn ∧ J (tol L sn) wr) (fun _ wr => L.length - (wr.iterSeen W.heap.size).size)
  case atStart => exact ⟨[], List.nodup_nil, (by simp), hB1, hI1, hJ1⟩
  case round =>
    obtain ⟨sn, hnd, hlt, hbk, hik, hJk⟩ := hrel
    gi_wp2_with (gi_at_next; refine wpListIn_next_M _ rfl _ rfl W.heap.size b L sn rfl hbk hik ?_ ?_)
    · intro hall
      gi_wp2
      go_end0
      exact ⟨⟨_, rfl⟩, .inl ⟨_, tol_perm hnd hlt hall, hJk⟩⟩
    · intro i k1 k2 k3 k4 v w2 hi hns hik2 hbk2 hg2 hs2 hen
      have hJ2 : J (tol L sn) w2 := hJ _ _ _ _ hJk hg2 (fun r e => by cases e; exact ⟨Nat.le_refl _, _, hik, rfl⟩)
      have hln : sn.length < L.length := by
        have h1 : (sn ++ [i]).Nodup := by
          refine List.nodup_append.2 ⟨hnd, by simp, fun x hx y hy => ?_⟩
          rw [List.mem_singleton] at hy; subst hy
          rintro rfl; exact hns hx
        have h2 : (sn ++ [i]).length ≤ (List.range L.length).length := List.Nodup.length_le_of_subset h1 (fun x hx => by
          rw [List.mem_range]
          rcases List.mem_append.1 hx with h | h
          · exact hlt x h
          · rw [List.mem_singleton] at h; subst h; exact (List.getElem?_eq_some_iff.1 hi).1)
        simp at h2; omega
      obtain ⟨fn, tmps, assign, body, hy, hR⟩ := hY (tol L sn) (k1, k2, k3, k4) _ (abidesM hJ hJ2 (gr_alloc (Below.refl _ _) (.cells #[.int .i64 k1, .int .i64 k2, .int .i64 k3, .int .i64 k4] 23))) (by simpa [tol] using hln)
      unfold encK vF at hy
      unfold vF at hen
      dsimp only at hy hen
      gi_wp2
      refine hR.mono ?_
      rintro e W3 (⟨rfl, hJ3, hk3⟩ | ⟨rfl, hJx3⟩)
      · gi_wp2
        have hi3 := (hik2.alloc (.cells #[.int .i64 k1, .int .i64 k2, .int .i64 k3, .int .i64 k4] 23)).walks hk3
        have hb3 := (hbk2.walks (KeepsWalks.alloc w2 (.cells #[.int .i64 k1, .int .i64 k2, .int .i64 k3, .int .i64 k4] 23))).walks hk3
        go_roundw
        case rel =>
          refine ⟨sn ++ [i], ?_, ?_, hb3, hi3, by rw [tol_app hi]; exact hJ3⟩
          · refine List.nodup_append.2 ⟨hnd, by simp, fun x hx y hy => ?_⟩
            rw [List.mem_singleton] at hy; subst hy
            rintro rfl; exact hns hx
          · intro x hx
            rcases List.mem_append.1 hx with h | h
            · exact hlt x h
            · rw [List.mem_singleton] at h; subst h; exact (List.getElem?_eq_some_iff.1 hi).1
        case measure => rw [hi3.seen, hik.seen]; simp; omega
      · gi_wp2
        (repeat (refine ⟨fun _ h => (by cases h), ?_⟩; gi_wp2))
        refine bodyPost_ret (results_none rfl _ _ _) rfl ?_
        exact ⟨⟨_, rfl⟩, .inr ⟨_, trivial, hJx3⟩⟩
set_option maxHeartbeats 1000000 in
/-- maps.Keys. -/
theorem mapKeys_any (b : Nat) (w : World) :
    Calls Try.prog 48 #[.map (some b)] w fun e w' => e = .returned (.func (.func 79) #[] #[.pointer (some ⟨w.heap.size, 0, none⟩)]) ∧ w' = w.alloc (.cells #[.map (some b)] 62) := by
  go_enter Try.func48, Try.ntmps48
  go_wp2
  go_ret
  exact ⟨rfl, rfl⟩

end Go.Proofs.Ytipeeljapmiciaa
