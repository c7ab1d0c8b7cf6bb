/- Several texts in one: XRd5, XMw. -/
import Derived.Test.YtipeeljapmiciaaBaRd4
import Derived.Test.YtipeeljapmiciaaBaZ2
import Derived.Maps.RangeRun
import Derived.WideKeyEntry

/- Reduction: what program and model hand back. -/
namespace Go.Proofs.Ytipeeljapmiciaa
open Go.RowKit
namespace Rd
def dscF (t : Red.F4) : Int := Red.dsc t.1 t.2.1 t.2.2.1 t.2.2.2
theorem sim (s : Bool) (D : Int) : ∀ (n : Nat) (t m : Red.F4) (α β : Int), Sg α → Sg β → Red.En s n t → dscF t = D →
    En2 s D n (fl α β t) ∧ Red.rdF s (run s n t m).1 = true ∧ Red.Bd (run s n t m).1 ∧ dscF (run s n t m).1 = D ∧ ∃ α' β', Sg α' ∧ Sg β' ∧ run2 s n (fl α β t) (wf α β m) = (fl α' β' (run s n t m).1, wf α' β' (run s n t m).2) := by
  intro n
  induction n with
  | zero => intro t m α β _ _ h _; exact h.elim
  | succ n ih =>
    rintro ⟨a, b, c, d⟩ m α β hα hβ ⟨hk, hE⟩ hD
    obtain ⟨g1, g2, g3⟩ := one hα hβ s a b c d hk
    have hD2 : Red.dsc (fl α β (a, b, c, d)).1 (fl α β (a, b, c, d)).2.1 (fl α β (a, b, c, d)).2.2.1 (fl α β (a, b, c, d)).2.2.2 = D := (dsc_fl hα hβ a b c d).trans hD
    by_cases hr : Red.rdF s (a, b, c, d) = true
    · have e : run s (n + 1) (a, b, c, d) m = ((a, b, c, d), m) := by rw [run, if_pos hr]
      rw [e]
      refine ⟨⟨⟨g1, hD2⟩, .inl (g2 hr)⟩, hr, hk.1, hD, α, β, hα, hβ, ?_⟩
      rw [run2, if_pos (g2 hr)]
    · have hr' : Red.rdF s (a, b, c, d) = false := by simpa using hr
      obtain ⟨h0, α', β', hα', hβ', k1, k2⟩ := g3 hr'
      have e : run s (n + 1) (a, b, c, d) m = run s n (Red.stp s (a, b, c, d)) (mm m (sm s (a, b, c, d))) := by rw [run, if_neg hr]
      have e2 : run2 s (n + 1) (fl α β (a, b, c, d)) (wf α β m) = run2 s n (fl α' β' (Red.stp s (a, b, c, d))) (wf α' β' (mm m (sm s (a, b, c, d)))) := by rw [run2, if_neg h0, k1, k2]
      obtain ⟨i1, i2, i3, i4, i5⟩ := ih (Red.stp s (a, b, c, d)) (mm m (sm s (a, b, c, d))) α' β' hα' hβ' (hE.resolve_left hr) ((dsc_stp s a b c d).trans hD)
      rw [e, e2]
      exact ⟨⟨⟨g1, hD2⟩, .inr (by rw [k1]; exact i1)⟩, i2, i3, i4, i5⟩
theorem run_fin (s : Bool) : ∀ (n : Nat) (t m : Red.F4), (run s n t m).1 = Red.fin s n t := by
  intro n
  induction n with
  | zero => intro t m; rfl
  | succ n ih =>
    intro t m
    rw [run, Red.fin]
    split
    · rfl
    · exact ih _ _
end Rd
theorem dsc_wrR (a b c d : Int) : dsc a b c d = wrap64 (Red.dsc a b c d) := by
  unfold dsc pl mi mu Red.dsc
  simp only [wr_al, wr_ar, wr_sl, wr_sr, wr_ml]
theorem dsc_in {a b c d : Int} (ha : -100 ≤ a ∧ a ≤ 100) (hb : -100 ≤ b ∧ b ≤ 100) (hc : -100 ≤ c ∧ c ≤ 100) (hd : -100 ≤ d ∧ d ≤ 100) : -9000000000000000000 ≤ Red.dsc a b c d ∧ Red.dsc a b c d ≤ 9000000000000000000 := by
  have h1 := mulb (mulb (mulb hb hb) hc) hc
  have h2 := mulb (mulb (mulb (mulb (show -4 ≤ (4 : Int) ∧ (4 : Int) ≤ 4 by omega) ha) hc) hc) hc
  have h3 := mulb (mulb (mulb (mulb (show -4 ≤ (4 : Int) ∧ (4 : Int) ≤ 4 by omega) hb) hb) hb) hd
  have h4 := mulb (mulb (mulb (mulb (show -27 ≤ (27 : Int) ∧ (27 : Int) ≤ 27 by omega) ha) ha) hd) hd
  have h5 := mulb (mulb (mulb (mulb (show -18 ≤ (18 : Int) ∧ (18 : Int) ≤ 18 by omega) ha) hb) hc) hd
  simp only [Int.reduceMul] at h1 h2 h3 h4 h5
  unfold Red.dsc
  omega
theorem change_in {s : Bool} {x y z u : Int} (h0 : Rd.sd s (x, y, z, u) ≠ 0) (h : Red.Bd (x, y, z, u)) : (.agg #[.int .i64 (wrap64 (cA x y z u (Rd.sm2 s (x, y, z, u)).1 (Rd.sm2 s (x, y, z, u)).2.2.1)), .int .i64 (wrap64 (cB x y z u (Rd.sm2 s (x, y, z, u)).1 (Rd.sm2 s (x, y, z, u)).2.1 (Rd.sm2 s (x, y, z, u)).2.2.1 (Rd.sm2 s (x, y, z, u)).2.2.2)), .int .i64 (wrap64 (cC x y z u (Rd.sm2 s (x, y, z, u)).1 (Rd.sm2 s (x, y, z, u)).2.1 (Rd.sm2 s (x, y, z, u)).2.2.1 (Rd.sm2 s (x, y, z, u)).2.2.2)), .int .i64 (wrap64 (cA x y z u (Rd.sm2 s (x, y, z, u)).2.1 (Rd.sm2 s (x, y, z, u)).2.2.2))] : Value) = .agg #[.int .i64 ((Rd.stp2 s (x, y, z, u)).1), .int .i64 ((Rd.stp2 s (x, y, z, u)).2.1), .int .i64 ((Rd.stp2 s (x, y, z, u)).2.2.1), .int .i64 ((Rd.stp2 s (x, y, z, u)).2.2.2)] := by
  obtain ⟨h1, h2, h3, h4⟩ := h
  dsimp only at h1 h2 h3 h4
  have key : ∀ {a b c d p q r t : Int}, a = p → b = q → c = r → d = t → (-9000000000000000000 ≤ p ∧ p ≤ 9000000000000000000) → (-9000000000000000000 ≤ q ∧ q ≤ 9000000000000000000) → (-9000000000000000000 ≤ r ∧ r ≤ 9000000000000000000) → (-9000000000000000000 ≤ t ∧ t ≤ 9000000000000000000) → (.agg #[.int .i64 (wrap64 a), .int .i64 (wrap64 b), .int .i64 (wrap64 c), .int .i64 (wrap64 d)] : Value) = .agg #[.int .i64 p, .int .i64 q, .int .i64 r, .int .i64 t] := by
    intro a b c d p q r t e1 e2 e3 e4 k1 k2 k3 k4
    rw [e1, e2, e3, e4, wr_in k1, wr_in k2, wr_in k3, wr_in k4]
  rcases Rd.sd_one s (x, y, z, u) with hs | hs | hs | hs
  · exact absurd hs h0
  all_goals
    unfold Rd.sm2 Rd.stp2
    rw [hs]
    simp only [Int.reduceEq, Int.reduceNeg, if_true, if_false, reduceCtorEq]
    refine key ?_ ?_ ?_ ?_ ?_ ?_ ?_ ?_
    all_goals first | omega | (simp only [cA, cB, cC, vx]; grind)
/-- Both reduce: to one form, and by one way, up to signs. -/
theorem reduces (a b c d : Int) (hr : isR a b c d = true) (hd : dsc a b c d ≠ 0) : ∃ (T M : Red.F4) (α β : Int), Rd.Sg α ∧ Rd.Sg β ∧ Red.rdF (decide (0 < dsc a b c d)) T = true ∧ Red.Bd T ∧ Red.UB T ∧ Rd.dscF T = Red.dsc a b c d ∧
    (∀ w, Calls Try.prog 81 #[.agg #[.int .i64 a, .int .i64 b, .int .i64 c, .int .i64 d]] w fun e w' => e = .returned (.tuple #[vF T, vF M]) ∧ Below w.heap.size w w') ∧
    (∀ w, Calls Try.prog 45 #[.agg #[.int .i64 a, .int .i64 b, .int .i64 c, .int .i64 d]] w fun e w' => e = .returned (.tuple #[vF (Rd.fl α β T), vF (Rd.wf α β M)]) ∧ Below w.heap.size w w') := by
  obtain ⟨ha, hb, hc, hd'⟩ := isR_t hr
  have hin := dsc_in ha hb hc hd'
  have hw : dsc a b c d = Red.dsc a b c d := by rw [dsc_wrR]; exact wr_in hin
  rw [hw] at hd
  obtain ⟨n, hn, hub⟩ : ∃ n, Red.En (decide (0 < dsc a b c d)) n (a, b, c, d) ∧ Red.UB (Red.fin (decide (0 < dsc a b c d)) n (a, b, c, d)) := by
    rw [hw]
    by_cases h0 : 0 < Red.dsc a b c d
    · rw [decide_eq_true h0]; exact Red.pos_ends (by omega) ha hb hc hd'
    · rw [decide_eq_false h0]; exact Red.neg_ends (by omega) ha hb hc hd'
  obtain ⟨g1, g2, g3, g4, α', β', hα', hβ', g5⟩ := Rd.sim _ (Red.dsc a b c d) n (a, b, c, d) (1, 0, 0, 1) 1 1 (.inl rfl) (.inl rfl) hn rfl
  have e1 : Rd.fl 1 1 (a, b, c, d) = (a, b, c, d) := by simp [Rd.fl]
  have e2 : Rd.wf 1 1 (1, 0, 0, 1) = (1, 0, 0, 1) := by simp [Rd.wf, wrap64]
  rw [e1] at g1
  rw [e1, e2] at g5
  have hsg : decide (0 < sg (dsc a b c d)) = decide (0 < dsc a b c d) := by
    unfold sg
    (repeat' split) <;> simp <;> omega
  refine ⟨(Rd.run (decide (0 < dsc a b c d)) n (a, b, c, d) (1, 0, 0, 1)).1, (Rd.run (decide (0 < dsc a b c d)) n (a, b, c, d) (1, 0, 0, 1)).2, α', β', hα', hβ', g2, g3, by rw [Rd.run_fin]; exact hub, g4, fun w => ?_, fun w => ?_⟩
  · refine iReduce_of a b c d w _ _ rfl (fun t ht W => ?_) (fun t ht W => iChangeB_any t _ ht W) n hn
    have := iMarginsB_any t (sg (dsc a b c d)) ht W
    rw [hsg] at this
    exact this
  · have h := sReduce_of a b c d w (decide (0 < dsc a b c d)) (Red.dsc a b c d) (fun t ht hD W => ?_) (fun t ht h0 W => ?_) n g1
    · rw [g5] at h; exact h
    · obtain ⟨x, y, z, u⟩ := t
      have h := sSideB_any x y z u W ht.1
      rw [sSideR x y z u (decide (0 < dsc a b c d)) (by rw [dsc_wrR, hw]; dsimp only at hD; rw [hD, wr_in hin]) ht.2] at h
      exact h
    · obtain ⟨x, y, z, u⟩ := t
      have h := sChange0_any x y z u (Rd.sm2 (decide (0 < dsc a b c d)) (x, y, z, u)).1 (Rd.sm2 (decide (0 < dsc a b c d)) (x, y, z, u)).2.1 (Rd.sm2 (decide (0 < dsc a b c d)) (x, y, z, u)).2.2.1 (Rd.sm2 (decide (0 < dsc a b c d)) (x, y, z, u)).2.2.2 W
      rw [change_in h0 ht] at h
      exact h

end Go.Proofs.Ytipeeljapmiciaa

/- Chapter 2: maps from forms to lists of matrices, entry by entry. -/
namespace Go.Proofs.Ytipeeljapmiciaa
open Go.RowKit
open Go.ChangeMaps (setBlock)

/-- The entries, the first of which was laid at time n. -/
def mes : Nat → List (Red.F4 × Value) → List MapEntry
  | _, [] => []
  | n, (k, v) :: r => { key := vF k, val := v, born := n } :: mes (n + 1) r
/-- Block b is a map that holds L, laid in this order. -/
def Mp (w : World) (b : Nat) (L : List (Red.F4 × Value)) : Prop := w.heap[b]? = some (.map (mes 0 L).toArray L.length)
def lkM : List (Red.F4 × Value) → Red.F4 → Nat → Option (Nat × Value)
  | [], _, _ => none
  | (k', v) :: r, k, i => if k = k' then some (i, v) else lkM r k (i + 1)
theorem mes_len : ∀ (L : List (Red.F4 × Value)) (n : Nat), (mes n L).length = L.length
  | [], _ => rfl
  | (k, v) :: r, n => by simp [mes, mes_len r]
theorem mes_get : ∀ (L : List (Red.F4 × Value)) (n i : Nat), (mes n L)[i]? = (L[i]?).map fun p => { key := vF p.1, val := p.2, born := n + i }
  | [], _, _ => by simp [mes]
  | (k, v) :: r, n, 0 => by simp [mes]
  | (k, v) :: r, n, i + 1 => by simp [mes, mes_get r]; congr 1; funext p; congr 1; omega
theorem mes_app : ∀ (L : List (Red.F4 × Value)) (n : Nat) (k : Red.F4) (v : Value), mes n (L ++ [(k, v)]) = mes n L ++ [{ key := vF k, val := v, born := n + L.length }]
  | [], _, _, _ => rfl
  | (k', v') :: r, n, k, v => by
    have e : n + 1 + r.length = n + (r.length + 1) := by omega
    simp [mes, mes_app r, e]
theorem mes_set : ∀ (L : List (Red.F4 × Value)) (n i : Nat) (k : Red.F4) (v v' : Value), L[i]? = some (k, v) → mes n (L.set i (k, v')) = (mes n L).set i { key := vF k, val := v', born := n + i }
  | [], _, _, _, _, _, h => by simp at h
  | (k', u) :: r, n, 0, k, v, v', h => by simp [mes]
  | (k', u) :: r, n, i + 1, k, v, v', h => by
    have e : n + 1 + i = n + (i + 1) := by omega
    simp only [List.set_cons_succ, mes]
    rw [mes_set r (n + 1) i k v v' (by simpa using h), e]
theorem mes_born : ∀ (L : List (Red.F4 × Value)) (n : Nat), (mes n L).map (·.born) = List.range' n L.length
  | [], _ => rfl
  | (k, v) :: r, n => by simp [mes, mes_born r, List.range'_succ]
theorem mes_nodup (L : List (Red.F4 × Value)) (n : Nat) : ((mes n L).map (·.born)).Nodup := by rw [mes_born]; exact List.nodup_range'
theorem lkM_some : ∀ {L : List (Red.F4 × Value)} {k : Red.F4} {i j : Nat} {v : Value}, lkM L k i = some (j, v) → ∃ m, j = i + m ∧ L[m]? = some (k, v)
  | [], _, _, _, _, h => by simp [lkM] at h
  | (k', u) :: r, k, i, j, v, h => by
    unfold lkM at h
    split at h
    · rename_i e; subst e
      simp at h; obtain ⟨rfl, rfl⟩ := h
      exact ⟨0, rfl, by simp⟩
    · obtain ⟨m, rfl, hm⟩ := lkM_some h
      exact ⟨m + 1, by omega, by simpa using hm⟩
theorem lkM_none : ∀ {L : List (Red.F4 × Value)} {k : Red.F4} {i : Nat}, lkM L k i = none → ∀ p ∈ L, p.1 ≠ k
  | [], _, _, _ => by simp
  | (k', u) :: r, k, i, h => by
    unfold lkM at h
    split at h
    · cases h
    · rename_i hne
      intro p hp
      rcases List.mem_cons.1 hp with rfl | hp
      · exact fun e => hne e.symm
      · exact lkM_none h p hp
theorem lkM_mem : ∀ {L : List (Red.F4 × Value)} {k : Red.F4} {i m : Nat} {v : Value}, (L.map (·.1)).Nodup → L[m]? = some (k, v) → lkM L k i = some (i + m, v)
  | [], _, _, _, _, _, h => by simp at h
  | (k', u) :: r, k, i, 0, v, _, h => by simp at h; obtain ⟨rfl, rfl⟩ := h; simp [lkM]
  | (k', u) :: r, k, i, m + 1, v, hn, h => by
    simp only [List.getElem?_cons_succ] at h
    have hne : k ≠ k' := by
      rintro rfl
      simp only [List.map_cons, List.nodup_cons] at hn
      exact hn.1 (List.mem_map.2 ⟨(k, v), List.mem_of_getElem? h, rfl⟩)
    simp only [lkM, if_neg hne]
    rw [lkM_mem (by simpa using (List.nodup_cons.1 (by simpa using hn)).2) h]
    congr 2; omega
theorem checkFormK_run (e : Bool) (a b c d : Int) (w : World) : (Instr.checkKey e 10000 23 (.agg #[.int .i64 a, .int .i64 b, .int .i64 c, .int .i64 d])).run Try.prog w = .ok () w := by
  have ia := Try.isAgg2
  have z := Try.sizeOf2
  have ck := fun x w => checkInt_run e 9998 x w
  rw [show (10000 : Nat) = 9999 + 1 from rfl, Instr.checkKey]
  simp only [Sem.run_bind, run_underlying Try.underlying23, Result.andThen_ok]
  simp only [Std.Legacy.Range.forIn_eq_forIn_range', Std.Legacy.Range.size, Nat.sub_zero, Nat.add_sub_cancel, Nat.div_one, List.range'_succ, List.range'_zero, List.forIn_cons, List.forIn_nil]
  go_simp
theorem ask_mes : ∀ (L : List (Red.F4 × Value)) (n i : Nat) (k : Red.F4) (w : World), (Instr.findAsking 23 (vF k) (mes n L) i).run Try.prog w = .ok (lkM L k i) w
  | [], _, _, _, _ => rfl
  | (k', v) :: r, n, i, k, w => by
    have hq := eqForm_run k.1 k.2.1 k.2.2.1 k.2.2.2 k'.1 k'.2.1 k'.2.2.1 k'.2.2.2 w
    simp only [mes, Instr.findAsking, Op.equal, Op.maxDepth, Sem.run_bind]
    show Result.andThen ((Op.equalIn 10000 23 (vF k) (vF k')).run Try.prog w) _ = _
    unfold vF
    rw [hq]
    simp only [Result.andThen_ok]
    have ih := ask_mes r (n + 1) (i + 1) k w
    unfold vF at ih
    by_cases h : k = k'
    · subst h; simp [lkM]
    · have : (k.1 == k'.1 && k.2.1 == k'.2.1 && k.2.2.1 == k'.2.2.1 && k.2.2.2 == k'.2.2.2) = false := by
        rw [Bool.eq_false_iff]
        intro h2
        simp only [Bool.and_eq_true, beq_iff_eq] at h2
        exact h (Prod.ext h2.1.1.1 (Prod.ext h2.1.1.2 (Prod.ext h2.1.2 h2.2)))
      rw [this]
      simp only [lkM, if_neg h, Bool.false_eq_true, if_false]
      exact ih
theorem find_mes (L : List (Red.F4 × Value)) (k : Red.F4) (w : World) : (Instr.findKey 23 (vF k) (mes 0 L)).run Try.prog w = .ok (lkM L k 0) w := by
  unfold Instr.findKey
  simp only [Sem.run_bind, run_underlying Try.underlying23, Result.andThen_ok]
  cases L with
  | nil => rfl
  | cons p r =>
    obtain ⟨k', v⟩ := p
    have e : Instr.findNow (TypeDesc.array 4 2) (vF k) (mes 0 ((k', v) :: r)) 0 = none := by
      simp only [mes, Instr.findNow, Instr.sameNow]
    rw [e]
    exact ask_mes _ _ _ _ _
theorem stay_run (q : Red.F4) (w : World) : (Instr.keyThatStays (vF q) (vF q)).run Try.prog w = .ok (vF q) w := by
  unfold Instr.keyThatStays vF
  simp [Instr.sameBits]
/-- 'm[k] op= ..' begins, at a key that is not there. -/
theorem entry_new {w : World} {b : Nat} {L : List (Red.F4 × Value)} {k : Red.F4} (hb : Mp w b L) (hf : lkM L k 0 = none) :
    (Instr.mapEntry 62 (.map (some b)) (vF k)).run Try.prog w = .ok (.tuple #[.slice none 0 0, .int .i64 (L.length : Int)]) (setBlock w b (.map (mes 0 (L ++ [(k, .slice none 0 0)])).toArray (L ++ [(k, Value.slice none 0 0)]).length)) := by
  have hz : (zeroValue 41).run Try.prog w = .ok (.slice none 0 0) w := by kernel_rfl
  have hc := checkFormK_run false k.1 k.2.1 k.2.2.1 k.2.2.2 w
  have hfk := find_mes L k w
  rw [hf] at hfk
  unfold Mp at hb
  have hl := mes_len L 0
  have ha : (mes 0 (L ++ [(k, Value.slice none 0 0)])).toArray = (mes 0 L).toArray.push { key := vF k, val := .slice none 0 0, born := L.length } := by
    rw [mes_app]; simp
  rw [ha]
  unfold Instr.mapEntry
  simp only [Sem.run_bind, run_underlying Try.underlying62, Result.andThen_ok, MapKept.run_getObj_map hb]
  rw [show (Instr.checkKey false 10000 23 (vF k)).run Try.prog w = .ok () w from hc]
  simp only [Result.andThen_ok, hfk]
  simp [hz, setM _ hb, setBlock, goInt, Result.andThen]
/-- .. and at one that is there. -/
theorem entry_old {w : World} {b i : Nat} {v : Value} {L : List (Red.F4 × Value)} {k : Red.F4} (hb : Mp w b L) (hf : lkM L k 0 = some (i, v)) :
    (Instr.mapEntry 62 (.map (some b)) (vF k)).run Try.prog w = .ok (.tuple #[v, .int .i64 (i : Int)]) w := by
  have hc := checkFormK_run false k.1 k.2.1 k.2.2.1 k.2.2.2 w
  have hfk := find_mes L k w
  rw [hf] at hfk
  unfold Mp at hb
  obtain ⟨m, rfl, hm⟩ := lkM_some hf
  rw [Nat.zero_add] at *
  have hg : (mes 0 L)[m]? = some { key := vF k, val := v, born := m } := by rw [mes_get, hm]; simp
  have hs : (mes 0 L).toArray.modify m (fun e => { e with key := vF k }) = (mes 0 L).toArray := by
    apply Array.ext'
    rw [Array.toList_modify, ChangeMaps.modify_eq_set _ _ _ _ hg]
    exact WideElems.set_self _ _ _ hg
  have hset : setBlock w b (.map (mes 0 L).toArray L.length) = w := by
    unfold setBlock
    have : w.heap.setIfInBounds b (.map (mes 0 L).toArray L.length) = w.heap := by
      apply Array.ext'
      rw [Array.toList_setIfInBounds]
      exact WideElems.set_self _ _ _ (by rw [Array.getElem?_toList]; exact hb)
    rw [this]
  unfold Instr.mapEntry
  simp only [Sem.run_bind, run_underlying Try.underlying62, Result.andThen_ok, MapKept.run_getObj_map hb]
  rw [show (Instr.checkKey false 10000 23 (vF k)).run Try.prog w = .ok () w from hc]
  have hg2 : (mes 0 L).toArray[m]? = some { key := vF k, val := v, born := m } := by simpa using hg
  simp only [Result.andThen_ok, hfk, hg2, Option.map_some, Option.getD_some, Sem.run_bind, stay_run, hs, MapKept.run_setObj_map _ hb, goInt]
  show Result.ok _ (setBlock w b (.map (mes 0 L).toArray L.length)) = _
  rw [hset]
/-- .. and ends: the entry of this time holds val. -/
theorem store_run {w : World} {b i : Nat} {v val : Value} {L : List (Red.F4 × Value)} {k : Red.F4} (hb : Mp w b L) (hm : L[i]? = some (k, v)) :
    (Instr.entryStore 62 (.map (some b)) (.int .i64 (i : Int)) val).run Try.prog w = .ok () (setBlock w b (.map (mes 0 (L.set i (k, val))).toArray (L.set i (k, val)).length)) := by
  unfold Mp at hb
  have hg : (mes 0 L)[i]? = some { key := vF k, val := v, born := i } := by rw [mes_get, hm]; simp
  have hidx : (mes 0 L).toArray.findIdx? (fun e => ((e.born : Nat) : Int) == ((i : Nat) : Int)) = some i := by
    rw [WideElems.findIdx_arr]
    exact WideElems.findIdx_born (e0 := { key := vF k, val := v, born := i }) (mes_nodup L 0) hg
  have hmod : (mes 0 L).toArray.modify i (fun e => { e with val := val }) = (mes 0 (L.set i (k, val))).toArray := by
    apply Array.ext'
    rw [Array.toList_modify, ChangeMaps.modify_eq_set _ _ _ _ hg, mes_set L 0 i k v val hm, Nat.zero_add]
  rw [List.length_set]
  simp [Instr.entryStore, MapKept.run_getObj_map hb, asInt, asIntOf, hidx, hmod, MapKept.run_setObj_map _ hb, Result.andThen, setBlock]
/-- 'm[k]' at a key that is there. -/
theorem lookF_run {w : World} {b i : Nat} {v : Value} {L : List (Red.F4 × Value)} {k : Red.F4} (hb : Mp w b L) (hf : lkM L k 0 = some (i, v)) :
    (Instr.lookup 62 (.map (some b)) (vF k) false).run Try.prog w = .ok v w := by
  have hc := checkFormK_run true k.1 k.2.1 k.2.2.1 k.2.2.2 w
  have hfk := find_mes L k w
  rw [hf] at hfk
  unfold Mp at hb
  unfold Instr.lookup
  simp only [Sem.run_bind, run_underlying Try.underlying62, Result.andThen_ok, MapKept.run_getObj_map hb, Sem.run_pure]
  rw [show ∀ b, (Instr.checkKey b 10000 23 (vF k)).run Try.prog w = .ok () w from fun b => checkFormK_run b k.1 k.2.1 k.2.2.1 k.2.2.2 w]
  simp only [Result.andThen_ok, hfk]
  rfl

end Go.Proofs.Ytipeeljapmiciaa
