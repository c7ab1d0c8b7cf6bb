/- Several texts in one: XMw, XMx. -/
import Derived.Test.YtikmjefbjejbkaaBbZ6
import Derived.Test.YtikmjefbjejbkaaBbZ13
import Derived.Maps.RangeRun
import Derived.WideKeyEntry
import Derived.Test.YtikmjefbjejbkaaBbZ9
import Derived.Maps.Range
import Derived.Sort.MapsRangeIn
import Derived.RangeFuncNested

/- Chapter 2: maps from forms to lists of matrices, entry by entry. -/
namespace Go.Proofs.Ytikmjefbjejbkaa
open Go.RowKit
open Go.ChangeMaps (setBlock)

/-- The entries, the first of which was laid at time n. -/
def mes : Nat → List (Red.F4 × Value) → List MapEntry
  | _, [] => []
  | n, (k, v) :: r => { key := vF k, val := v, born := n } :: mes (n + 1) r
/-- Block b is a map that holds L, laid in this order. -/
def Mp (w : World) (b : Nat) (L : List (Red.F4 × Value)) : Prop := w.heap[b]? = some (.map (mes 0 L).toArray L.length)
def lkM : List (Red.F4 × Value) → Red.F4 → Nat → Option (Nat × Value)
  | [], _, _ => none
  | (k', v) :: r, k, i => if k = k' then some (i, v) else lkM r k (i + 1)
theorem mes_len : ∀ (L : List (Red.F4 × Value)) (n : Nat), (mes n L).length = L.length
  | [], _ => rfl
  | (k, v) :: r, n => by simp [mes, mes_len r]
theorem mes_get : ∀ (L : List (Red.F4 × Value)) (n i : Nat), (mes n L)[i]? = (L[i]?).map fun p => { key := vF p.1, val := p.2, born := n + i }
  | [], _, _ => by simp [mes]
  | (k, v) :: r, n, 0 => by simp [mes]
  | (k, v) :: r, n, i + 1 => by simp [mes, mes_get r]; congr 1; funext p; congr 1; omega
theorem mes_app : ∀ (L : List (Red.F4 × Value)) (n : Nat) (k : Red.F4) (v : Value), mes n (L ++ [(k, v)]) = mes n L ++ [{ key := vF k, val := v, born := n + L.length }]
  | [], _, _, _ => rfl
  | (k', v') :: r, n, k, v => by
    have e : n + 1 + r.length = n + (r.length + 1) := by omega
    simp [mes, mes_app r, e]
theorem mes_set : ∀ (L : List (Red.F4 × Value)) (n i : Nat) (k : Red.F4) (v v' : Value), L[i]? = some (k, v) → mes n (L.set i (k, v')) = (mes n L).set i { key := vF k, val := v', born := n + i }
  | [], _, _, _, _, _, h => by simp at h
  | (k', u) :: r, n, 0, k, v, v', h => by simp [mes]
  | (k', u) :: r, n, i + 1, k, v, v', h => by
    have e : n + 1 + i = n + (i + 1) := by omega
    simp only [List.set_cons_succ, mes]
    rw [mes_set r (n + 1) i k v v' (by simpa using h), e]
theorem mes_born : ∀ (L : List (Red.F4 × Value)) (n : Nat), (mes n L).map (·.born) = List.range' n L.length
  | [], _ => rfl
  | (k, v) :: r, n => by simp [mes, mes_born r, List.range'_succ]
theorem mes_nodup (L : List (Red.F4 × Value)) (n : Nat) : ((mes n L).map (·.born)).Nodup := by rw [mes_born]; exact List.nodup_range'
theorem lkM_some : ∀ {L : List (Red.F4 × Value)} {k : Red.F4} {i j : Nat} {v : Value}, lkM L k i = some (j, v) → ∃ m, j = i + m ∧ L[m]? = some (k, v)
  | [], _, _, _, _, h => by simp [lkM] at h
  | (k', u) :: r, k, i, j, v, h => by
    unfold lkM at h
    split at h
    · rename_i e; subst e
      simp at h; obtain ⟨rfl, rfl⟩ := h
      exact ⟨0, rfl, by simp⟩
    · obtain ⟨m, rfl, hm⟩ := lkM_some h
      exact ⟨m + 1, by omega, by simpa using hm⟩
theorem lkM_none : ∀ {L : List (Red.F4 × Value)} {k : Red.F4} {i : Nat}, lkM L k i = none → ∀ p ∈ L, p.1 ≠ k
  | [], _, _, _ => by simp
  | (k', u) :: r, k, i, h => by
    unfold lkM at h
    split at h
    · cases h
    · rename_i hne
      intro p hp
      rcases List.mem_cons.1 hp with rfl | hp
      · exact fun e => hne e.symm
      · exact lkM_none h p hp
theorem lkM_mem : ∀ {L : List (Red.F4 × Value)} {k : Red.F4} {i m : Nat} {v : Value}, (L.map (·.1)).Nodup → L[m]? = some (k, v) → lkM L k i = some (i + m, v)
  | [], _, _, _, _, _, h => by simp at h
  | (k', u) :: r, k, i, 0, v, _, h => by simp at h; obtain ⟨rfl, rfl⟩ := h; simp [lkM]
  | (k', u) :: r, k, i, m + 1, v, hn, h => by
    simp only [List.getElem?_cons_succ] at h
    have hne : k ≠ k' := by
      rintro rfl
      simp only [List.map_cons, List.nodup_cons] at hn
      exact hn.1 (List.mem_map.2 ⟨(k, v), List.mem_of_getElem? h, rfl⟩)
    simp only [lkM, if_neg hne]
    rw [lkM_mem (by simpa using (List.nodup_cons.1 (by simpa using hn)).2) h]
    congr 2; omega
theorem checkFormK_run (e : Bool) (a b c d : Int) (w : World) : (Instr.checkKey e 10000 26 (.agg #[.int .i64 a, .int .i64 b, .int .i64 c, .int .i64 d])).run Try.prog w = .ok () w := by
  have ia := Try.isAgg2
  have z := Try.sizeOf2
  have ck := fun x w => checkInt_run e 9998 x w
  rw [show (10000 : Nat) = 9999 + 1 from rfl, Instr.checkKey]
  simp only [Sem.run_bind, run_underlying Try.underlying26, Result.andThen_ok]
  simp only [Std.Legacy.Range.forIn_eq_forIn_range', Std.Legacy.Range.size, Nat.sub_zero, Nat.add_sub_cancel, Nat.div_one, List.range'_succ, List.range'_zero, List.forIn_cons, List.forIn_nil]
  go_simp
theorem ask_mes : ∀ (L : List (Red.F4 × Value)) (n i : Nat) (k : Red.F4) (w : World), (Instr.findAsking 26 (vF k) (mes n L) i).run Try.prog w = .ok (lkM L k i) w
  | [], _, _, _, _ => rfl
  | (k', v) :: r, n, i, k, w => by
    have hq := eqForm_run k.1 k.2.1 k.2.2.1 k.2.2.2 k'.1 k'.2.1 k'.2.2.1 k'.2.2.2 w
    simp only [mes, Instr.findAsking, Op.equal, Op.maxDepth, Sem.run_bind]
    show Result.andThen ((Op.equalIn 10000 26 (vF k) (vF k')).run Try.prog w) _ = _
    unfold vF
    rw [hq]
    simp only [Result.andThen_ok]
    have ih := ask_mes r (n + 1) (i + 1) k w
    unfold vF at ih
    by_cases h : k = k'
    · subst h; simp [lkM]
    · have : (k.1 == k'.1 && k.2.1 == k'.2.1 && k.2.2.1 == k'.2.2.1 && k.2.2.2 == k'.2.2.2) = false := by
        rw [Bool.eq_false_iff]
        intro h2
        simp only [Bool.and_eq_true, beq_iff_eq] at h2
        exact h (Prod.ext h2.1.1.1 (Prod.ext h2.1.1.2 (Prod.ext h2.1.2 h2.2)))
      rw [this]
      simp only [lkM, if_neg h, Bool.false_eq_true, if_false]
      exact ih
theorem find_mes (L : List (Red.F4 × Value)) (k : Red.F4) (w : World) : (Instr.findKey 26 (vF k) (mes 0 L)).run Try.prog w = .ok (lkM L k 0) w := by
  unfold Instr.findKey
  simp only [Sem.run_bind, run_underlying Try.underlying26, Result.andThen_ok]
  cases L with
  | nil => rfl
  | cons p r =>
    obtain ⟨k', v⟩ := p
    have e : Instr.findNow (TypeDesc.array 4 2) (vF k) (mes 0 ((k', v) :: r)) 0 = none := by
      simp only [mes, Instr.findNow, Instr.sameNow]
    rw [e]
    exact ask_mes _ _ _ _ _
theorem stay_run (q : Red.F4) (w : World) : (Instr.keyThatStays (vF q) (vF q)).run Try.prog w = .ok (vF q) w := by
  unfold Instr.keyThatStays vF
  simp [Instr.sameBits]
/-- 'm[k] op= ..' begins, at a key that is not there. -/
theorem entry_new {w : World} {b : Nat} {L : List (Red.F4 × Value)} {k : Red.F4} (hb : Mp w b L) (hf : lkM L k 0 = none) :
    (Instr.mapEntry 78 (.map (some b)) (vF k)).run Try.prog w = .ok (.tuple #[.slice none 0 0, .int .i64 (L.length : Int)]) (setBlock w b (.map (mes 0 (L ++ [(k, .slice none 0 0)])).toArray (L ++ [(k, Value.slice none 0 0)]).length)) := by
  have hz : (zeroValue 23).run Try.prog w = .ok (.slice none 0 0) w := by kernel_rfl
  have hc := checkFormK_run false k.1 k.2.1 k.2.2.1 k.2.2.2 w
  have hfk := find_mes L k w
  rw [hf] at hfk
  unfold Mp at hb
  have hl := mes_len L 0
  have ha : (mes 0 (L ++ [(k, Value.slice none 0 0)])).toArray = (mes 0 L).toArray.push { key := vF k, val := .slice none 0 0, born := L.length } := by
    rw [mes_app]; simp
  rw [ha]
  unfold Instr.mapEntry
  simp only [Sem.run_bind, run_underlying Try.underlying78, Result.andThen_ok, MapKept.run_getObj_map hb]
  rw [show (Instr.checkKey false 10000 26 (vF k)).run Try.prog w = .ok () w from hc]
  simp only [Result.andThen_ok, hfk]
  simp [hz, setM _ hb, setBlock, goInt, Result.andThen]
/-- .. and at one that is there. -/
theorem entry_old {w : World} {b i : Nat} {v : Value} {L : List (Red.F4 × Value)} {k : Red.F4} (hb : Mp w b L) (hf : lkM L k 0 = some (i, v)) :
    (Instr.mapEntry 78 (.map (some b)) (vF k)).run Try.prog w = .ok (.tuple #[v, .int .i64 (i : Int)]) w := by
  have hc := checkFormK_run false k.1 k.2.1 k.2.2.1 k.2.2.2 w
  have hfk := find_mes L k w
  rw [hf] at hfk
  unfold Mp at hb
  obtain ⟨m, rfl, hm⟩ := lkM_some hf
  rw [Nat.zero_add] at *
  have hg : (mes 0 L)[m]? = some { key := vF k, val := v, born := m } := by rw [mes_get, hm]; simp
  have hs : (mes 0 L).toArray.modify m (fun e => { e with key := vF k }) = (mes 0 L).toArray := by
    apply Array.ext'
    rw [Array.toList_modify, ChangeMaps.modify_eq_set _ _ _ _ hg]
    exact WideElems.set_self _ _ _ hg
  have hset : setBlock w b (.map (mes 0 L).toArray L.length) = w := by
    unfold setBlock
    have : w.heap.setIfInBounds b (.map (mes 0 L).toArray L.length) = w.heap := by
      apply Array.ext'
      rw [Array.toList_setIfInBounds]
      exact WideElems.set_self _ _ _ (by rw [Array.getElem?_toList]; exact hb)
    rw [this]
  unfold Instr.mapEntry
  simp only [Sem.run_bind, run_underlying Try.underlying78, Result.andThen_ok, MapKept.run_getObj_map hb]
  rw [show (Instr.checkKey false 10000 26 (vF k)).run Try.prog w = .ok () w from hc]
  have hg2 : (mes 0 L).toArray[m]? = some { key := vF k, val := v, born := m } := by simpa using hg
  simp only [Result.andThen_ok, hfk, hg2, Option.map_some, Option.getD_some, Sem.run_bind, stay_run, hs, MapKept.run_setObj_map _ hb, goInt]
  show Result.ok _ (setBlock w b (.map (mes 0 L).toArray L.length)) = _
  rw [hset]
/-- .. and ends: the entry of this time holds val. -/
theorem store_run {w : World} {b i : Nat} {v val : Value} {L : List (Red.F4 × Value)} {k : Red.F4} (hb : Mp w b L) (hm : L[i]? = some (k, v)) :
    (Instr.entryStore 78 (.map (some b)) (.int .i64 (i : Int)) val).run Try.prog w = .ok () (setBlock w b (.map (mes 0 (L.set i (k, val))).toArray (L.set i (k, val)).length)) := by
  unfold Mp at hb
  have hg : (mes 0 L)[i]? = some { key := vF k, val := v, born := i } := by rw [mes_get, hm]; simp
  have hidx : (mes 0 L).toArray.findIdx? (fun e => ((e.born : Nat) : Int) == ((i : Nat) : Int)) = some i := by
    rw [WideElems.findIdx_arr]
    exact WideElems.findIdx_born (e0 := { key := vF k, val := v, born := i }) (mes_nodup L 0) hg
  have hmod : (mes 0 L).toArray.modify i (fun e => { e with val := val }) = (mes 0 (L.set i (k, val))).toArray := by
    apply Array.ext'
    rw [Array.toList_modify, ChangeMaps.modify_eq_set _ _ _ _ hg, mes_set L 0 i k v val hm, Nat.zero_add]
  rw [List.length_set]
  simp [Instr.entryStore, MapKept.run_getObj_map hb, asInt, asIntOf, hidx, hmod, MapKept.run_setObj_map _ hb, Result.andThen, setBlock]
/-- 'm[k]' at a key that is there. -/
theorem lookF_run {w : World} {b i : Nat} {v : Value} {L : List (Red.F4 × Value)} {k : Red.F4} (hb : Mp w b L) (hf : lkM L k 0 = some (i, v)) :
    (Instr.lookup 78 (.map (some b)) (vF k) false).run Try.prog w = .ok v w := by
  have hc := checkFormK_run true k.1 k.2.1 k.2.2.1 k.2.2.2 w
  have hfk := find_mes L k w
  rw [hf] at hfk
  unfold Mp at hb
  unfold Instr.lookup
  simp only [Sem.run_bind, run_underlying Try.underlying78, Result.andThen_ok, MapKept.run_getObj_map hb, Sem.run_pure]
  rw [show ∀ b, (Instr.checkKey b 10000 26 (vF k)).run Try.prog w = .ok () w from fun b => checkFormK_run b k.1 k.2.1 k.2.2.1 k.2.2.2 w]
  simp only [Result.andThen_ok, hfk]
  rfl

end Go.Proofs.Ytikmjefbjejbkaa

/- Chapter 2: a range over a map from forms to lists of matrices; its keys as a function that is ranged over. -/
namespace Go.Proofs.Ytikmjefbjejbkaa
open Go.RowKit Go.Shelf
open Go.ChangeMaps (setBlock)
attribute [local go_sem] Oper.semAt_some

/-- Block r is a walk over the map L in block b; the entries of sn have been told. -/
def ItM (w : World) (r b : Nat) (L : List (Red.F4 × Value)) (sn : List Nat) : Prop := w.heap[r]? = some (.mapIter (some b) L.length sn.toArray L.length)
theorem mes_mem {L : List (Red.F4 × Value)} {n : Nat} {e : MapEntry} (h : e ∈ mes n L) : ∃ i k v, L[i]? = some (k, v) ∧ e = { key := vF k, val := v, born := n + i } := by
  obtain ⟨i, hi⟩ := List.mem_iff_getElem?.1 h
  rw [mes_get] at hi
  cases hL : L[i]? with
  | none => rw [hL] at hi; cases hi
  | some p => rw [hL] at hi; cases hi; exact ⟨i, p.1, p.2, hL, rfl⟩
theorem range_M {w : World} {b : Nat} {L : List (Red.F4 × Value)} (hb : Mp w b L) :
    (Instr.range 78 (.map (some b))).run Try.prog w = .ok (.pointer (some ⟨w.heap.size, 0, none⟩)) (w.alloc (.mapIter (some b) L.length #[] L.length)) :=
  run_range_map w _ _ _ b _ _ Try.underlying78 hb
theorem ItM.new {w : World} (b : Nat) (L : List (Red.F4 × Value)) : ItM (w.alloc (.mapIter (some b) L.length #[] L.length)) w.heap.size b L [] := World.alloc_heap_new w _
theorem next_M {w : World} {r b : Nat} {L : List (Red.F4 × Value)} {sn : List Nat} (ty : TypeId) (hb : Mp w b L) (hr : ItM w r b L sn) :
    ((∀ i, i < L.length → i ∈ sn) ∧ (Instr.next (.pointer (some ⟨r, 0, none⟩)) false ty).run Try.prog w = .ok (.tuple #[.bool false]) w) ∨
    ∃ i k v w', L[i]? = some (k, v) ∧ i ∉ sn ∧ (Instr.next (.pointer (some ⟨r, 0, none⟩)) false ty).run Try.prog w = .ok (.tuple #[.bool true, vF k, v]) w' ∧ ItM w' r b L (sn ++ [i]) ∧ Mp w' b L ∧
      w.grownBy w' (some r) ∧ w'.heap.size = w.heap.size ∧ (Instr.entry (.pointer (some ⟨r, 0, none⟩))).run Try.prog w' = .ok (.tuple #[vF k, v]) w' := by
  have hne : r ≠ b := by
    rintro rfl
    unfold Mp at hb; unfold ItM at hr
    rw [hb] at hr; cases hr
  unfold Mp at hb; unfold ItM at hr
  have hold : ∀ x ∈ ((mes 0 L).toArray).toList, x.born < L.length := fun x hx => by
    obtain ⟨i, k, v, hi, rfl⟩ := mes_mem (by simpa using hx)
    have := (List.getElem?_eq_some_iff.1 hi).1
    simpa using this
  rcases run_next_at (P := Try.prog) w ty r b L.length L.length sn.toArray (mes 0 L).toArray L.length hr hb hold (Nat.le_refl _) with ⟨h0, hrun⟩ | ⟨e, he, w1, hal, hrun⟩
  · refine .inl ⟨fun i hi => ?_, hrun⟩
    have h0' : leftOf (mes 0 L).toArray sn.toArray = #[] := Array.size_eq_zero_iff.1 h0
    unfold leftOf at h0'
    rw [Array.filter_eq_empty_iff] at h0'
    obtain ⟨p, hp⟩ : ∃ p, L[i]? = some p := ⟨_, List.getElem?_eq_getElem hi⟩
    have hm : ({ key := vF p.1, val := p.2, born := 0 + i } : MapEntry) ∈ (mes 0 L).toArray := by
      rw [List.mem_toArray]
      exact List.mem_iff_getElem?.2 ⟨i, by rw [mes_get, hp]; rfl⟩
    have := h0' _ hm
    simpa using this
  · unfold leftOf at he
    have he' : e ∈ mes 0 L ∧ ¬ e.born ∈ sn := by simpa using he
    obtain ⟨i, k, v, hi, rfl⟩ := mes_mem he'.1
    have hns : i ∉ sn := by simpa using he'.2
    have hr1 : w1.heap[r]? = some (.mapIter (some b) L.length sn.toArray L.length) := by rcases hal with rfl | rfl <;> exact hr
    have hb1 : w1.heap[b]? = some (.map (mes 0 L).toArray L.length) := by rcases hal with rfl | rfl <;> exact hb
    have hset := MapKept.heap_set (o' := .mapIter (some b) L.length (sn.toArray.push (0 + i)) L.length) hr1
    have hb' : (setBlock w1 r (.mapIter (some b) L.length (sn.toArray.push (0 + i)) L.length)).heap[b]? = some (.map (mes 0 L).toArray L.length) := (hset.2 b (fun e1 => hne e1.symm)).trans hb1
    refine .inr ⟨i, k, v, _, hi, hns, hrun, ?_, hb', ?_, ?_, run_entry_at _ r b L.length sn.toArray (mes 0 L).toArray L.length { key := vF k, val := v, born := 0 + i } hset.1 hb' (by simpa using he'.1) (by simpa using mes_nodup L 0)⟩
    · show (w1.heap.setIfInBounds r _)[r]? = _
      rw [hset.1]; simp
    · rcases hal with rfl | rfl <;> exact ⟨rfl, rfl, rfl, by simp [setBlock], fun i _ hi => hset.2 i (fun e1 => hi (by rw [e1]))⟩
    · rcases hal with rfl | rfl <;> simp [setBlock]
theorem Mp.grown {w w' : World} {b : Nat} {L : List (Red.F4 × Value)} {row : Option Nat} (h : Mp w b L) (hg : w.grownBy w' row) (hne : some b ≠ row) : Mp w' b L :=
  (hg.block b (Array.getElem?_eq_some_iff.1 h).1 hne).trans h
theorem Mp.lt {w : World} {b : Nat} {L : List (Red.F4 × Value)} (h : Mp w b L) : b < w.heap.size := (Array.getElem?_eq_some_iff.1 h).1
theorem ItM.lt {w : World} {r b : Nat} {L : List (Red.F4 × Value)} {sn : List Nat} (h : ItM w r b L sn) : r < w.heap.size := (Array.getElem?_eq_some_iff.1 h).1
theorem Mp.next {w w' : World} {b : Nat} {L : List (Red.F4 × Value)} (h : Mp w b L) {B : Nat} (hb : Below B w w') (hB : b < B) : Mp w' b L := (hb.block b hB).trans h
/-- What has been told, as the keys. -/
def tol (L : List (Red.F4 × Value)) (sn : List Nat) : List Red.F4 := sn.map fun i => (L.getD i ((0, 0, 0, 0), .bool false)).1
theorem tol_app {L : List (Red.F4 × Value)} {sn : List Nat} {i : Nat} {k : Red.F4} {v : Value} (h : L[i]? = some (k, v)) : tol L (sn ++ [i]) = tol L sn ++ [k] := by
  simp [tol, List.getD, h]
theorem tol_perm {L : List (Red.F4 × Value)} {sn : List Nat} (hn : sn.Nodup) (hs : ∀ i ∈ sn, i < L.length) (ha : ∀ i, i < L.length → i ∈ sn) : (tol L sn).Perm (L.map (·.1)) := by
  have hp : sn.Perm (List.range L.length) := by
    refine (List.perm_ext_iff_of_nodup hn List.nodup_range).2 fun i => ?_
    rw [List.mem_range]
    exact ⟨hs i, ha i⟩
  have h1 : (tol L sn).Perm (tol L (List.range L.length)) := hp.map _
  have h2 : tol L (List.range L.length) = L.map (·.1) := by
    apply List.ext_getElem?
    intro i
    simp only [tol, List.getElem?_map]
    rcases Nat.lt_or_ge i L.length with h | h
    · simp [h, List.getD]
    · simp [h]
  rw [h2] at h1; exact h1
section
variable {F : Fence} {n : Nat} (w : World) {ops : Array Oper} {rest : List Oper} {o : Oper} {a : Act} {Q : Exit → Act → World → Prop}
theorem wpListIn_range_M (hg : o.guard = none) (m : Operand) (hop : o.op = Op.range 78 m) (b : Nat) (L : List (Red.F4 × Value)) (hm : a.eval m = .map (some b)) (hb : Mp w b L)
    (hK : wpListIn F n Try.prog ops Q rest (a.put o.dst (.pointer (some ⟨w.heap.size, 0, none⟩))) (w.alloc (.mapIter (some b) L.length #[] L.length))) :
    wpListIn F n Try.prog ops Q (o :: rest) a w := by
  refine wpListIn_plain hg fun K' hK' => ?_
  have hrun := range_M hb
  unfold Oper.wpIn
  refine ⟨?_, ?_⟩
  · simp [Oper.about, hop]
  · rw [Oper.semAt_plain F _ _ (by rw [hop]; intro c hc'; cases hc')]
    simp [execOp, hop, hm, hrun, Result.andThen]
    exact hK' _ _ hK
theorem wpListIn_next_M (hg : o.guard = none) (it : Operand) (hop : o.op = Op.next it false) (r b : Nat) (L : List (Red.F4 × Value)) (sn : List Nat) (hit : a.eval it = .pointer (some ⟨r, 0, none⟩)) (hb : Mp w b L) (hr : ItM w r b L sn)
    (hDone : (∀ i, i < L.length → i ∈ sn) → wpListIn F n Try.prog ops Q rest (a.put o.dst (.tuple #[.bool false])) w)
    (hMore : ∀ i k v w', L[i]? = some (k, v) → i ∉ sn → ItM w' r b L (sn ++ [i]) → Mp w' b L → w.grownBy w' (some r) → w'.heap.size = w.heap.size → (Instr.entry (.pointer (some ⟨r, 0, none⟩))).run Try.prog w' = .ok (.tuple #[vF k, v]) w' → wpListIn F n Try.prog ops Q rest (a.put o.dst (.tuple #[.bool true, vF k, v])) w') :
    wpListIn F n Try.prog ops Q (o :: rest) a w := by
  refine wpListIn_plain hg fun K' hK' => ?_
  unfold Oper.wpIn
  refine ⟨by simp [Oper.about, hop], ?_⟩
  rw [Oper.semAt_plain F _ _ (by rw [hop]; intro c hc'; cases hc')]
  rcases next_M o.type hb hr with ⟨hl, hrun⟩ | ⟨i, k, v, w', hi, hn, hrun, hrg, hb', hgr, hsz, hen⟩
  · simp [execOp, hop, hit, hrun, Result.andThen]
    exact hK' _ _ (hDone hl)
  · simp [execOp, hop, hit, hrun, Result.andThen]
    exact hK' _ _ (hMore i k v w' hi hn hrg hb' hgr hsz hen)
end
theorem ItM.seen {w : World} {r b : Nat} {L : List (Red.F4 × Value)} {sn : List Nat} (h : ItM w r b L sn) : (w.iterSeen r).size = sn.length := by
  unfold ItM at h
  simp [World.iterSeen, h]
theorem ItM.walks {w w' : World} {r b : Nat} {L : List (Red.F4 × Value)} {sn : List Nat} (h : ItM w r b L sn) (k : KeepsWalks w w') : ItM w' r b L sn := k.same r _ h rfl
theorem Mp.walks {w w' : World} {b : Nat} {L : List (Red.F4 × Value)} (h : Mp w b L) (k : KeepsWalks w w') : Mp w' b L := k.same b _ h rfl
theorem ItM.alloc {w : World} {r b : Nat} {L : List (Red.F4 × Value)} {sn : List Nat} (h : ItM w r b L sn) (o : Obj) : ItM (w.alloc o) r b L sn := h.walks (KeepsWalks.alloc w o)
theorem abidesM {β : Type} {B : Nat} {J : β → World → Prop} (hJ : AbidesFrom B J) {x : β} {A C : World} (h : J x A) (hb : Below A.heap.size A C) : J x C :=
  hJ x A C none h ⟨hb.os, hb.tape, hb.output, hb.size, fun k hk _ => hb.block k hk⟩ (fun r e => by cases e)
def encK (q : Red.F4) : Array Value := #[vF q]
set_option maxRecDepth 100000 in
set_option maxHeartbeats 4000000 in
/-- maps.Keys's function hands on the keys, each once, in some order. -/
theorem keys_stops (Bm b n : Nat) (L : List (Red.F4 × Value)) (w : World) (hn : 1 ≤ n) (hBm : Bm < w.heap.size) (hm : w.cell? ⟨Bm, 0, none⟩ = some (.map (some b))) (hb : Mp w b L) :
    SeqStopsK Fence.wide n Try.prog 113 #[.pointer (some ⟨Bm, 0, none⟩)] encK KeepsWalks (fun xs => xs.Perm (L.map (·.1))) (fun _ => True) L.length w := fun l J Jx W hW hJ hJx hY h0 => by
  have hbW := hb.next hW hb.lt
  have hmW := (hW.cell (p := ⟨Bm, 0, none⟩) hBm).trans hm
  refine callsIn_of_wp Try.func113 rfl trivial ?_ rfl
  simp only [Try.ntmps113, List.size_toArray, List.length_cons, List.length_nil, Nat.reduceAdd, Nat.reduceSub, Array.replicate_succ, Array.replicate_zero, List.push_toArray, List.append_toArray, List.nil_append, List.cons_append]
  gi_wp2_with (gi_at_range; refine wpListIn_range_M _ rfl _ rfl b L rfl hbW ?_)
  go_frame
  have hB1 := hbW.next (gr_alloc (Below.refl W.heap.size W) (.mapIter (some b) L.length #[] L.length)) hbW.lt
  have hI1 := ItM.new (w := W) b L
  have hJ1 := abidesM hJ h0 (gr_alloc (Below.refl W.heap.size W) (.mapIter (some b) L.length #[] L.length))
  have hs1 : W.heap.size < (W.alloc (.mapIter (some b) L.length #[] L.length)).heap.size := by simp
  generalize W.alloc (.mapIter (some b) L.length #[] L.length) = W1 at hB1 hI1 hJ1 hs1 ⊢
  gi_loopw [3] (fun _ wr => ∃ sn : List Nat, sn.Nodup ∧ (∀ i ∈ sn, i < L.length) ∧ Mp wr b L ∧ ItM wr W.heap.size b L sn ∧ J (tol L sn) wr) (fun _ wr => L.length - (wr.iterSeen W.heap.size).size)
  case atStart => exact ⟨[], List.nodup_nil, (by simp), hB1, hI1, hJ1⟩
  case round =>
    obtain ⟨sn, hnd, hlt, hbk, hik, hJk⟩ := hrel
    gi_wp2_with (gi_at_next; refine wpListIn_next_M _ rfl _ rfl W.heap.size b L sn rfl hbk hik ?_ ?_)
    · intro hall
      gi_wp2
      go_end0
      exact ⟨⟨_, rfl⟩, .inl ⟨_, tol_perm hnd hlt hall, hJk⟩⟩
    · intro i k1 k2 k3 k4 v w2 hi hns hik2 hbk2 hg2 hs2 hen
      have hJ2 : J (tol L sn) w2 := hJ _ _ _ _ hJk hg2 (fun r e => by cases e; exact ⟨Nat.le_refl _, _, hik, rfl⟩)
      have hln : sn.length < L.length := by
        have h1 : (sn ++ [i]).Nodup := by
          refine List.nodup_append.2 ⟨hnd, by simp, fun x hx y hy => ?_⟩
          rw [List.mem_singleton] at hy; subst hy
          rintro rfl; exact hns hx
        have h2 : (sn ++ [i]).length ≤ (List.range L.length).length := List.Nodup.length_le_of_subset h1 (fun x hx => by
          rw [List.mem_range]
          rcases List.mem_append.1 hx with h | h
          · exact hlt x h
          · rw [List.mem_singleton] at h; subst h; exact (List.getElem?_eq_some_iff.1 hi).1)
        simp at h2; omega
      obtain ⟨fn, tmps, assign, body, hy, hR⟩ := hY (tol L sn) (k1, k2, k3, k4) _ (abidesM hJ hJ2 (gr_alloc (Below.refl _ _) (.cells #[.int .i64 k1, .int .i64 k2, .int .i64 k3, .int .i64 k4] 26))) (by simpa [tol] using hln)
      unfold encK vF at hy
      unfold vF at hen
      dsimp only at hy hen
      gi_wp2
      refine hR.mono ?_
      rintro e W3 (⟨rfl, hJ3, hk3⟩ | ⟨rfl, hJx3⟩)
      · gi_wp2
        have hi3 := (hik2.alloc (.cells #[.int .i64 k1, .int .i64 k2, .int .i64 k3, .int .i64 k4] 26)).walks hk3
        have hb3 := (hbk2.walks (KeepsWalks.alloc w2 (.cells #[.int .i64 k1, .int .i64 k2, .int .i64 k3, .int .i64 k4] 26))).walks hk3
        go_roundw
        case rel =>
          refine ⟨sn ++ [i], ?_, ?_, hb3, hi3, by rw [tol_app hi]; exact hJ3⟩
          · refine List.nodup_append.2 ⟨hnd, by simp, fun x hx y hy => ?_⟩
            rw [List.mem_singleton] at hy; subst hy
            rintro rfl; exact hns hx
          · intro x hx
            rcases List.mem_append.1 hx with h | h
            · exact hlt x h
            · rw [List.mem_singleton] at h; subst h; exact (List.getElem?_eq_some_iff.1 hi).1
        case measure => rw [hi3.seen, hik.seen]; simp; omega
      · gi_wp2
        (repeat (refine ⟨fun _ h => (by cases h), ?_⟩; gi_wp2))
        refine bodyPost_ret (results_none rfl _ _ _) rfl ?_
        exact ⟨⟨_, rfl⟩, .inr ⟨_, trivial, hJx3⟩⟩
set_option maxHeartbeats 1000000 in
/-- maps.Keys. -/
theorem mapKeys_any (b : Nat) (w : World) :
    Calls Try.prog 66 #[.map (some b)] w fun e w' => e = .returned (.func (.func 113) #[] #[.pointer (some ⟨w.heap.size, 0, none⟩)]) ∧ w' = w.alloc (.cells #[.map (some b)] 78) := by
  go_enter Try.func66, Try.ntmps66
  go_wp2
  go_ret
  exact ⟨rfl, rfl⟩

end Go.Proofs.Ytikmjefbjejbkaa
