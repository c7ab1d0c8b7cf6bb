/- Several texts in one: XMz, XMr. -/
import Derived.Test.YtikmjefbjejbkaaBbZ15
import Derived.Test.YtikmjefbjejbkaaBbZ18
import Derived.Test.YtikmjefbjejbkaaBbZ5
import Derived.Test.YtikmjefbjejbkaaBbSg
import Derived.Test.YtikmjefbjejbkaaBbZ11

/- Chapter 2: the ways to each reduced form, as a map of rows of matrices. -/
namespace Go.Proofs.Ytikmjefbjejbkaa
open Go.RowKit

/-- The map in block b holds the ways G: their rows lie in blocks of their own, from B on. -/
structure Wys (B : Nat) (w : World) (G : List (Red.F4 × List Red.F4)) (L : List (Red.F4 × Value)) : Prop where
  keys : L.map (·.1) = G.map (·.1)
  rows : ∀ (i : Nat) (k k' : Red.F4) (v : Value) (ms : List Red.F4), L[i]? = some (k, v) → G[i]? = some (k', ms) → RowM B w v ms
  apart : ∀ (i j : Nat) (ki kj : Red.F4) (vi vj : Value), L[i]? = some (ki, vi) → L[j]? = some (kj, vj) → i ≠ j → vi.ownBlock = none ∨ vi.ownBlock ≠ vj.ownBlock
  nodup : (L.map (·.1)).Nodup
theorem Wys.nil (B : Nat) (w : World) : Wys B w [] [] := ⟨rfl, (fun i k k' v ms h => by simp at h), (fun i j ki kj vi vj h => by simp at h), List.nodup_nil⟩
theorem Wys.len {B : Nat} {w : World} {G : List (Red.F4 × List Red.F4)} {L : List (Red.F4 × Value)} (h : Wys B w G L) : L.length = G.length := by
  have := congrArg List.length h.keys
  simpa using this
namespace Rd
theorem addG_new : ∀ {G : List (Red.F4 × List Red.F4)} {k m : Red.F4}, (∀ q ∈ G.map (·.1), q ≠ k) → addG G k m = G ++ [(k, [m])]
  | [], _, _, _ => rfl
  | (k', l) :: r, k, m, h => by
    have h1 : k ≠ k' := fun e => h k' (by simp) e.symm
    rw [addG, if_neg h1, addG_new (fun q hq => h q (by simp only [List.map_cons, List.mem_cons]; exact .inr hq))]
    rfl
theorem addG_old : ∀ {G : List (Red.F4 × List Red.F4)} {k m : Red.F4} {i : Nat} {l : List Red.F4}, (G.map (·.1)).Nodup → G[i]? = some (k, l) → addG G k m = G.set i (k, l ++ [m])
  | [], _, _, _, _, _, h => by simp at h
  | (k', l') :: r, k, m, 0, l, _, h => by
    simp at h; obtain ⟨rfl, rfl⟩ := h
    simp [addG]
  | (k', l') :: r, k, m, i + 1, l, hn, h => by
    simp only [List.getElem?_cons_succ] at h
    simp only [List.map_cons, List.nodup_cons] at hn
    have h1 : k ≠ k' := by
      rintro rfl
      exact hn.1 (List.mem_map.2 ⟨(k, l), List.mem_of_getElem? h, rfl⟩)
    rw [addG, if_neg h1, addG_old hn.2 h]
    rfl
end Rd
/-- What was looked up for 'm[k] = ..'. -/
theorem Wys.entry {B : Nat} {w : World} {G : List (Red.F4 × List Red.F4)} {L L1 : List (Red.F4 × Value)} {k : Red.F4} {i : Nat} {v : Value} (h : Wys B w G L)
    (hd : (lkM L k 0 = some (i, v) ∧ L1 = L) ∨ (lkM L k 0 = none ∧ i = L.length ∧ v = .slice none 0 0 ∧ L1 = L ++ [(k, .slice none 0 0)])) :
    ∃ ms G1, Wys B w G1 L1 ∧ G1[i]? = some (k, ms) ∧ RowM B w v ms ∧ (∀ m, Rd.addG G k m = G1.set i (k, ms ++ [m])) ∧ (ms = [] ∨ (k, ms) ∈ G) := by
  have hl := h.len
  rcases hd with ⟨h1, rfl⟩ | ⟨h1, rfl, rfl, rfl⟩
  · obtain ⟨m, e, hm⟩ := lkM_some h1
    rw [Nat.zero_add] at e; subst e
    have hlt := (List.getElem?_eq_some_iff.1 hm).1
    obtain ⟨p, hp⟩ : ∃ p, G[i]? = some p := ⟨_, List.getElem?_eq_getElem (by omega)⟩
    obtain ⟨k', ms⟩ := p
    have hk : k' = k := by
      have := congrArg (fun l => l[i]?) h.keys
      simp only [List.getElem?_map, hm, hp, Option.map_some, Option.some.injEq] at this
      exact this.symm
    subst hk
    exact ⟨ms, G, h, hp, h.rows i _ _ v ms hm hp, fun m => Rd.addG_old (by rw [← h.keys]; exact h.nodup) hp, .inr (List.mem_of_getElem? hp)⟩
  · have hne := lkM_none h1
    refine ⟨[], G ++ [(k, [])], ⟨by simp [h.keys], ?_, ?_, ?_⟩, by simp [hl], RowM.nil _ _, fun m => ?_, .inl rfl⟩
    · intro j kj kj' u ms h2 h3
      rcases Nat.lt_or_ge j L.length with hj | hj
      · rw [List.getElem?_append_left hj] at h2
        rw [List.getElem?_append_left (by omega)] at h3
        exact h.rows j _ _ u ms h2 h3
      · have e : j = L.length := by
          have := (List.getElem?_eq_some_iff.1 h2).1
          simp at this; omega
        subst e
        simp at h2
        simp [hl] at h3
        obtain ⟨_, rfl⟩ := h2
        obtain ⟨_, rfl⟩ := h3
        exact RowM.nil _ _
    · intro j j' kj kj' u u' h2 h3 hjj
      rcases Nat.lt_or_ge j L.length with hj | hj
      · rw [List.getElem?_append_left hj] at h2
        rcases Nat.lt_or_ge j' L.length with hj' | hj'
        · rw [List.getElem?_append_left hj'] at h3
          exact h.apart j j' _ _ u u' h2 h3 hjj
        · have e : j' = L.length := by
            have := (List.getElem?_eq_some_iff.1 h3).1
            simp at this; omega
          subst e
          simp at h3
          rw [← h3.2]
          cases hu : u.ownBlock with
          | none => exact .inl rfl
          | some g => right; simp [Value.ownBlock]
      · have e : j = L.length := by
          have := (List.getElem?_eq_some_iff.1 h2).1
          simp at this; omega
        subst e
        simp at h2
        rw [← h2.2]; exact .inl rfl
    · rw [List.map_append, List.nodup_append]
      refine ⟨h.nodup, by simp, fun a ha c hc => ?_⟩
      simp at hc; subst hc
      obtain ⟨p, hp, rfl⟩ := List.mem_map.1 ha
      exact hne p hp
    · rw [Rd.addG_new (fun q hq => by rw [← h.keys] at hq; obtain ⟨p, hp, rfl⟩ := List.mem_map.1 hq; exact hne p hp)]
      rw [← hl.symm]
      simp
theorem Wys.gb {B b : Nat} {u v : World} {G : List (Red.F4 × List Red.F4)} {L M : List (Red.F4 × Value)} (h : Wys B u G L) (hg : Gb b u v) (hM : Mp u b M) : Wys B v G L :=
  ⟨h.keys, fun i k k' x ms h1 h2 => hg.row (h.rows i k k' x ms h1 h2) hM, h.apart, h.nodup⟩
/-- A row has been appended to, and stored. -/
theorem Wys.store {B b H i g n cap : Nat} {w5 w6 w7 : World} {G1 : List (Red.F4 × List Red.F4)} {L1 M : List (Red.F4 × Value)} {k : Red.F4} {v : Value} {ms ms' : List Red.F4} (h : Wys B w5 G1 L1) (hL : L1[i]? = some (k, v)) (hG : G1[i]? = some (k, ms))
    (hgr : w5.grownBy w6 v.ownBlock) (hr : RowM B w6 (.slice (some ⟨g, 0, none⟩) n cap) ms') (hwh : v.ownBlock = some g ∨ H ≤ g) (hH : ∀ (j : Nat) (kj : Red.F4) (vj : Value) (q : Nat), L1[j]? = some (kj, vj) → vj.ownBlock = some q → q < H) (hg7 : Gb b w6 w7) (hM : Mp w6 b M) :
    Wys B w7 (G1.set i (k, ms')) (L1.set i (k, .slice (some ⟨g, 0, none⟩) n cap)) := by
  have hil := (List.getElem?_eq_some_iff.1 hL).1
  have hig := (List.getElem?_eq_some_iff.1 hG).1
  have get : ∀ j kj vj, (L1.set i (k, Value.slice (some ⟨g, 0, none⟩) n cap))[j]? = some (kj, vj) → (j = i ∧ kj = k ∧ vj = .slice (some ⟨g, 0, none⟩) n cap) ∨ (j ≠ i ∧ L1[j]? = some (kj, vj)) := fun j kj vj hj => by
    by_cases e : j = i
    · subst e
      rw [List.getElem?_set_self hil] at hj
      simp at hj; exact .inl ⟨rfl, hj.1.symm, hj.2.symm⟩
    · rw [List.getElem?_set_ne (fun e' => e e'.symm)] at hj
      exact .inr ⟨e, hj⟩
  refine ⟨by rw [List.map_set, List.map_set, h.keys], ?_, ?_, ?_⟩
  · intro j kj kj' u msj h1 h2
    rcases get j kj u h1 with ⟨rfl, rfl, rfl⟩ | ⟨hj, h1⟩
    · rw [List.getElem?_set_self hig] at h2
      simp at h2
      rw [← h2.2]
      exact hg7.row hr hM
    · rw [List.getElem?_set_ne (fun e' => hj e'.symm)] at h2
      have hrow := h.rows j kj kj' u msj h1 h2
      have hap := h.apart j i kj k u v h1 hL hj
      exact hg7.row (World.ownsRow.kept hrow hgr hap) hM
  · intro j j' kj kj' u u' h1 h2 hjj
    rcases get j kj u h1 with ⟨rfl, rfl, rfl⟩ | ⟨hj, k1⟩
    · rcases get j' kj' u' h2 with ⟨rfl, rfl, rfl⟩ | ⟨hj', k2⟩
      · exact absurd rfl hjj
      · right
        rcases hwh with hw | hw
        · have := h.apart j' j kj' kj u' v k2 hL hj'
          rw [hw] at this
          show some g ≠ u'.ownBlock
          rcases this with e | e
          · rw [e]; simp
          · exact fun e' => e e'.symm
        · intro e
          have := hH j' kj' u' g k2 e.symm
          omega
    · rcases get j' kj' u' h2 with ⟨rfl, rfl, rfl⟩ | ⟨hj', k2⟩
      · rcases hwh with hw | hw
        · have := h.apart j j' kj kj' u v k1 hL hj
          rw [hw] at this
          exact this
        · cases hu : u.ownBlock with
          | none => exact .inl rfl
          | some q =>
            right
            intro e
            have := hH j kj u q k1 hu
            simp [Value.ownBlock] at e
            omega
      · exact h.apart j j' kj kj' u u' k1 k2 hjj
  · rw [List.map_set]
    have : (L1.map (·.1)).set i k = L1.map (·.1) := WideElems.set_self _ _ _ (by simp [hL])
    rw [this]; exact h.nodup
theorem Wys.lt {B : Nat} {w : World} {G : List (Red.F4 × List Red.F4)} {L : List (Red.F4 × Value)} (h : Wys B w G L) (j : Nat) (kj : Red.F4) (vj : Value) (q : Nat) (h1 : L[j]? = some (kj, vj)) (h2 : vj.ownBlock = some q) : q < w.heap.size := by
  have hlt := (List.getElem?_eq_some_iff.1 h1).1
  have hl := h.len
  obtain ⟨p, hp⟩ : ∃ p, G[j]? = some p := ⟨_, List.getElem?_eq_getElem (by omega)⟩
  exact ((h.rows j kj p.1 vj p.2 h1 hp).lt q h2).2

end Go.Proofs.Ytikmjefbjejbkaa

/- Chapter 2: the program's waysToReduced. -/
namespace Go.Proofs.Ytikmjefbjejbkaa
open Go.RowKit

theorem ch_cA (T u : Red.F4) : Rd.ch T u = (cA T.1 T.2.1 T.2.2.1 T.2.2.2 u.1 u.2.2.1, cB T.1 T.2.1 T.2.2.1 T.2.2.2 u.1 u.2.1 u.2.2.1 u.2.2.2, cC T.1 T.2.1 T.2.2.1 T.2.2.2 u.1 u.2.1 u.2.2.1 u.2.2.2, cA T.1 T.2.1 T.2.2.1 T.2.2.2 u.2.1 u.2.2.2) := by
  unfold Rd.ch Red.fA Red.fB Red.fv cA cB cC vx
  refine Prod.ext ?_ (Prod.ext ?_ (Prod.ext ?_ ?_)) <;> dsimp only <;> grind
theorem iCh_any (T u : Red.F4) (hT : Red.Bd T) (hu : Rd.Sm u) (w : World) : Calls Try.prog 80 #[vF T, vF u] w fun e w' => e = .returned (vF (Rd.ch T u)) ∧ Below w.heap.size w w' := by
  obtain ⟨a, b, c, d⟩ := T
  obtain ⟨x, y, z, t⟩ := u
  obtain ⟨ha, hb, hc, hd⟩ := hT
  obtain ⟨h1, h2, h3, h4⟩ := hu
  dsimp only at ha hb hc hd h1 h2 h3 h4
  rw [ch_cA]
  exact iChange_any a b c d x y z t 1620000000 1 w (by omega) hb hc (by omega) h1 h2 h3 h4 (by decide) (by decide)
theorem iIsRd_any (t : Red.F4) (n : Int) (h : Red.Bd t) (w : World) : Calls Try.prog 73 #[vF t, .int .i64 n] w fun e w' => e = .returned (.bool (Red.rdF (decide (0 < n)) t)) ∧ Below w.heap.size w w' := by
  obtain ⟨a, b, c, d⟩ := t
  obtain ⟨e1, e2, e3⟩ := mg_in (decide (0 < n)) h
  have := iIsRed0_any a b c d n w
  rw [e1, e2, e3] at this
  exact this
theorem iMpF_any (x y : Red.F4) (w : World) : Calls Try.prog 55 #[vF x, vF y] w fun e w' => e = .returned (vF (Rd.mm x y)) ∧ Below w.heap.size w w' :=
  iMp_any x.1 x.2.1 x.2.2.1 x.2.2.2 y.1 y.2.1 y.2.2.1 y.2.2.2 w
theorem flat_at : ∀ {L : List Red.F4} {k : Nat} {q : Red.F4}, L[k]? = some q → (L.flatMap gm4).getD (k * 4) 0 = q.1 ∧ (L.flatMap gm4).getD (k * 4 + 1) 0 = q.2.1 ∧ (L.flatMap gm4).getD (k * 4 + 2) 0 = q.2.2.1 ∧ (L.flatMap gm4).getD (k * 4 + 3) 0 = q.2.2.2
  | [], _, _, h => by simp at h
  | p :: r, 0, q, h => by simp at h; subst h; simp [gm4]
  | p :: r, k + 1, q, h => by
    simp only [List.getElem?_cons_succ] at h
    have ih := flat_at h
    have e : ∀ j, (List.flatMap gm4 (p :: r)).getD ((k + 1) * 4 + j) 0 = (List.flatMap gm4 r).getD (k * 4 + j) 0 := fun j => by
      rw [List.flatMap_cons, show (k + 1) * 4 + j = (gm4 p).length + (k * 4 + j) by simp [gm4]; omega]
      simp [List.getD, List.getElem?_append_right]
    exact ⟨(e 0).trans ih.1, (e 1).trans ih.2.1, (e 2).trans ih.2.2.1, (e 3).trans ih.2.2.2⟩
/-- One matrix of a row. -/
theorem RowM.at {B : Nat} {w : World} {v : Value} {L : List Red.F4} (h : RowM B w v L) {k : Nat} {q : Red.F4} (hk : L[k]? = some q) :
    ∃ g cap, v = .slice (some ⟨g, 0, none⟩) L.length cap ∧ B ≤ g ∧ L.length ≤ cap ∧ cap ≤ maxLen ∧ At4 w g (k * 4) q.1 q.2.1 q.2.2.1 q.2.2.2 := by
  have hlt := (List.getElem?_eq_some_iff.1 hk).1
  obtain ⟨e0, e1, e2, e3⟩ := flat_at hk
  rcases h.out with ⟨_, h0⟩ | ⟨g, cap, rfl, hb, hc, hm, hg, hx⟩
  · omega
  · refine ⟨g, cap, rfl, hb, hc, hm, hg, ?_, ?_, ?_, ?_⟩
    · rw [← e0]; exact (hx (k * 4) (by omega)).1
    · rw [← e1]; exact (hx (k * 4 + 1) (by omega)).1
    · rw [← e2]; exact (hx (k * 4 + 2) (by omega)).1
    · rw [← e3]; exact (hx (k * 4 + 3) (by omega)).1
theorem mkMap_run (w : World) : (Instr.makeMap 78 none).run Try.prog w = .ok (.map (some w.heap.size)) (w.alloc (.map #[] 0)) := rfl
theorem cells12 {W : World} {i j k : Nat} {a b c d p q r s x y z t : Int} (A : Arr W i a b c d) (B : Arr W j p q r s) (C : Arr W k x y z t) :
    W.cell? ⟨i, 0, none⟩ = some (.int .i64 a) ∧ W.cell? ⟨i, 1, none⟩ = some (.int .i64 b) ∧ W.cell? ⟨i, 2, none⟩ = some (.int .i64 c) ∧ W.cell? ⟨i, 3, none⟩ = some (.int .i64 d) ∧ W.cell? ⟨j, 0, none⟩ = some (.int .i64 p) ∧ W.cell? ⟨j, 1, none⟩ = some (.int .i64 q) ∧ W.cell? ⟨j, 2, none⟩ = some (.int .i64 r) ∧ W.cell? ⟨j, 3, none⟩ = some (.int .i64 s) ∧ W.cell? ⟨k, 0, none⟩ = some (.int .i64 x) ∧ W.cell? ⟨k, 1, none⟩ = some (.int .i64 y) ∧ W.cell? ⟨k, 2, none⟩ = some (.int .i64 z) ∧ W.cell? ⟨k, 3, none⟩ = some (.int .i64 t) :=
  ⟨A.c0, A.c1, A.c2, A.c3, B.c0, B.c1, B.c2, B.c3, C.c0, C.c1, C.c2, C.c3⟩
theorem Mp.row_ne {w : World} {b B : Nat} {v : Value} {L : List Red.F4} {M : List (Red.F4 × Value)} (h : Mp w b M) (R : RowM B w v L) : some b ≠ v.ownBlock := by
  rcases R.2 with ⟨rfl, _⟩ | ⟨g, cap, cur, rfl, _, hg, _⟩
  · simp [Value.ownBlock]
  · intro e
    have : b = g := by simpa [Value.ownBlock] using e
    subst this
    unfold Mp at h; rw [h] at hg; cases hg
theorem storeE {w : World} {b i : Nat} {v val : Value} {L : List (Red.F4 × Value)} {k : Red.F4} (hb : Mp w b L) (hm : L[i]? = some (k, v)) :
    ∃ w', (Instr.entryStore 78 (.map (some b)) (.int .i64 (i : Int)) val).run Try.prog w = .ok () w' ∧ Gb b w w' ∧ w'.heap.size = w.heap.size ∧ Mp w' b (L.set i (k, val)) := by
  obtain ⟨h1, h2, h3⟩ := setBlock_gb (o' := .map (mes 0 (L.set i (k, val))).toArray (L.set i (k, val)).length) hb
  exact ⟨_, store_run hb hm, h1, h2, h3⟩
theorem Arr.grownB {w w' : World} {k : Nat} {a b c d : Int} {row : Option Nat} (h : Arr w k a b c d) (hg : w.grownBy w' row) (hne : some k ≠ row) : Arr w' k a b c d := by
  have hc : ∀ o, w'.cell? ⟨k, o, none⟩ = w.cell? ⟨k, o, none⟩ := fun o => World.cell?_of_block (a := ⟨k, o, none⟩) (hg.block k h.lt hne)
  have hf : ∀ o, w'.frozen? ⟨k, o, none⟩ = w.frozen? ⟨k, o, none⟩ := fun o => World.frozen?_of_block (a := ⟨k, o, none⟩) (hg.block k h.lt hne)
  exact ⟨Nat.lt_of_lt_of_le h.lt hg.size, (hc 0).trans h.c0, (hc 1).trans h.c1, (hc 2).trans h.c2, (hc 3).trans h.c3, (hf 0).trans h.f0, (hf 1).trans h.f1, (hf 2).trans h.f2, (hf 3).trans h.f3⟩
theorem Gb.belowB {b B : Nat} {w v u : World} (h : Below B w v) (k : Gb b v u) (hB : B ≤ w.heap.size) (hb : B ≤ b) : Below B w u :=
  ⟨k.os.trans h.os, k.tape.trans h.tape, k.output.trans h.output, Nat.le_trans h.size k.size, fun i hi => (k.block i (Nat.lt_of_lt_of_le hi (Nat.le_trans hB h.size)) (fun e => by cases e; omega)).trans (h.block i hi)⟩
theorem grp_len (s : Bool) (T M : Red.F4) : ∀ (us : List Red.F4), ∀ p ∈ Rd.grp s T M us, p.2.length ≤ us.length := by
  have key : ∀ (G : List (Red.F4 × List Red.F4)) (k m : Red.F4) (n : Nat), (∀ p ∈ G, p.2.length ≤ n) → ∀ p ∈ Rd.addG G k m, p.2.length ≤ n + 1 := by
    intro G k m n
    induction G with
    | nil => intro _ p hp; simp [Rd.addG] at hp; subst hp; simp
    | cons q r ih =>
      obtain ⟨k', l⟩ := q
      intro h p hp
      unfold Rd.addG at hp
      split at hp
      · rcases List.mem_cons.1 hp with rfl | hp
        · have := h (k', l) (by simp); simpa using this
        · have := h p (by simp [hp]); omega
      · rcases List.mem_cons.1 hp with rfl | hp
        · have := h (k', l) (by simp); simp at this ⊢; omega
        · exact ih (fun p hp => h p (by simp [hp])) p hp
  intro us
  have : ∀ vs : List Red.F4, ∀ p ∈ Rd.grp s T M vs.reverse, p.2.length ≤ vs.length := by
    intro vs
    induction vs with
    | nil => intro p hp; simp [Rd.grp] at hp
    | cons u vs ih =>
      intro p hp
      rw [List.reverse_cons, Rd.grp_snoc] at hp
      unfold Rd.oneG at hp
      split at hp
      · exact key _ _ _ _ ih p hp
      · have := ih p hp; simp; omega
  have h := this us.reverse
  rwa [List.reverse_reverse, List.length_reverse] at h
set_option maxRecDepth 100000 in
set_option maxHeartbeats 4000000 in
theorem iWays_any (a b c d : Int) (s : Bool) (T M : Red.F4) (hT : Red.Bd T) (hU : Red.UB T) (hs : decide (0 < sg (dsc a b c d)) = s)
    (hR : ∀ w, Calls Try.prog 114 #[.agg #[.int .i64 a, .int .i64 b, .int .i64 c, .int .i64 d]] w fun e w' => e = .returned (.tuple #[vF T, vF M]) ∧ Below w.heap.size w w') (w : World) :
    Calls Try.prog 67 #[.agg #[.int .i64 a, .int .i64 b, .int .i64 c, .int .i64 d]] w fun e w' => ∃ bm L B, e = .returned (.map (some bm)) ∧ Mp w' bm L ∧ Wys B w' (Rd.grp s T M (Rd.uni 81)) L ∧ w.heap.size ≤ B ∧ w.heap.size ≤ bm ∧ Below w.heap.size w w' := by
  have hum : ∀ u ∈ Rd.uni 81, Rd.Sm u ∧ Rd.dt u * Rd.dt u = 1 := fun u hu => Rd.uni_mem (Nat.le_refl _) hu
  have hul := Rd.uni_len 81
  have hun := fun W => iUnits_any W
  unfold UnOut at hun
  generalize Rd.uni 81 = us at *
  have HC := hid (fun u (hu : Rd.Sm u) W => iCh_any T u hT hu W)
  have HI := hid (fun u (h1 : Rd.Sm u) (h2 : Rd.dt u * Rd.dt u = 1) W => iIsRd_any (Rd.ch T u) (sg (dsc a b c d)) (Rd.ch_bd hU h1 h2) W)
  have HP := hid (fun u W => iMpF_any M u W)
  rw [hs] at HI
  have HR := hid hR; have HN := hid hun; have HM := hid hum; have HL := hid hul
  have HS := hid (fun W => iSign_any a b c d W)
  clear hT hU hs hR hun hum hul
  generalize sg (dsc a b c d) = sn at HI HS
  have A0 := Arr.new w a b c d 26
  have U0 := gr_alloc (Below.refl w.heap.size w) (.cells #[.int .i64 a, .int .i64 b, .int .i64 c, .int .i64 d] 26)
  obtain ⟨ta, tb, tc, td⟩ := T
  obtain ⟨ma, mb, mc, md⟩ := M
  unfold vF at HR HC HI HP
  dsimp only at HR HC HI HP
  go_enter Try.func67, Try.ntmps67
  obtain ⟨_, a0, a1, a2, a3, _⟩ := id A0
  go_wp2_with fail
  refine (HS.out _).mono ?_
  rintro e w1 ⟨rfl, hb1⟩
  have A1 := A0.next hb1; have U1 := gr_trans U0 hb1
  clear a0 a1 a2 a3 A0 U0 hb1
  obtain ⟨_, a0, a1, a2, a3, _⟩ := id A1
  go_wp2_with fail
  refine (HR.out _).mono ?_
  rintro e w2 ⟨rfl, hb2⟩
  have U2 := gr_trans U1 hb2
  clear a0 a1 a2 a3 A1 U1 hb2
  have hmk := fun W => mkMap_run W
  have T0 := (Arr.new w2 ta tb tc td 26).alloc (.cells #[.int .i64 ma, .int .i64 mb, .int .i64 mc, .int .i64 md] 44)
  have M0 := Arr.new (w2.alloc (.cells #[.int .i64 ta, .int .i64 tb, .int .i64 tc, .int .i64 td] 26)) ma mb mc md 44
  simp only [World.size_alloc] at M0
  have U3 := gr_alloc (gr_alloc (gr_alloc U2 (.cells #[.int .i64 ta, .int .i64 tb, .int .i64 tc, .int .i64 td] 26)) (.cells #[.int .i64 ma, .int .i64 mb, .int .i64 mc, .int .i64 md] 44)) (.map #[] 0)
  have T1 := T0.alloc (.map #[] 0)
  have M1 := M0.alloc (.map #[] 0)
  have B1 : Mp (((w2.alloc (.cells #[.int .i64 ta, .int .i64 tb, .int .i64 tc, .int .i64 td] 26)).alloc (.cells #[.int .i64 ma, .int .i64 mb, .int .i64 mc, .int .i64 md] 44)).alloc (.map #[] 0)) (w2.heap.size + 1 + 1) [] := by
    have := World.alloc_heap_new ((w2.alloc (.cells #[.int .i64 ta, .int .i64 tb, .int .i64 tc, .int .i64 td] 26)).alloc (.cells #[.int .i64 ma, .int .i64 mb, .int .i64 mc, .int .i64 md] 44)) (.map #[] 0)
    simp only [World.size_alloc] at this
    exact this
  go_wp2_with fail
  generalize ((w2.alloc (.cells #[.int .i64 ta, .int .i64 tb, .int .i64 tc, .int .i64 td] 26)).alloc (.cells #[.int .i64 ma, .int .i64 mb, .int .i64 mc, .int .i64 md] 44)).alloc (.map #[] 0) = w3 at T1 M1 B1 U3 ⊢
  have hsw := U2.size
  clear T0 M0 U2 hmk
  generalize w2.heap.size = j at *
  refine (HN.out _).mono ?_
  rintro e w4 ⟨uv, rfl, hrow, hb4⟩
  have T2 := T1.next hb4; have M2 := M1.next hb4; have B2 := B1.nextW hb4; have U4 := gr_trans U3 hb4
  have hbl := B1.lt
  clear T1 M1 B1 U3 hb4
  obtain ⟨av, cv, rfl⟩ := hrow.val
  have HROW := hid hrow
  clear hrow
  have HB2 := hid B2; have HT2 := hid T2; have HM2 := hid M2; have HU4 := hid U4
  clear T2 M2 B2 U4
  go_wp2_with fail
  go_loopg [20] us.length (fun g s20 wr => ∃ (k : Nat) (L : List (Red.F4 × Value)), s20 = .int .i64 ((k : Int)) ∧ k + g = us.length ∧ Gb (j + 1 + 1) w4 wr ∧ Mp wr (j + 1 + 1) L ∧ Wys w4.heap.size wr (Rd.grp s (ta, tb, tc, td) (ma, mb, mc, md) (us.take k)) L)
  case atStart => exact ⟨0, [], rfl, by simp, Gb.refl _ _, HB2.out, by simpa [Rd.grp] using Wys.nil _ _⟩
  case round =>
    obtain ⟨k, L, rfl, hk, hg, hmp, hwy⟩ := hrel
    have HG := hid hg; have HMP := hid hmp; have HWY := hid hwy; have HK := hid hk
    clear hg hmp hwy hk
    by_cases hlt : k < us.length
    · obtain ⟨q, hq⟩ : ∃ q, us[k]? = some q := ⟨_, List.getElem?_eq_getElem hlt⟩
      obtain ⟨hq1, hq2⟩ := HM.out q (List.mem_of_getElem? hq)
      have htk : us.take (k + 1) = us.take k ++ [q] := by rw [List.take_add_one, hq]; rfl
      have hr := HG.out.row HROW.out HB2.out
      obtain ⟨gu, cu, hv, _, hc1, hc2, hat⟩ := hr.at hq
      cases hv
      unfold maxLen at hc2
      have HC1 := hid (HC.out q hq1)
      have HI1 := hid (HI.out q hq1 hq2)
      have HP1 := hid (HP.out q)
      have HTK := hid htk
      have Tr := HG.out.arr HT2.out HB2.out
      have hn := HL.out
      clear hr hq hq1 hq2 htk
      obtain ⟨q0, q1, q2, q3⟩ := q
      dsimp only at HC1 HI1 HP1 hat
      obtain ⟨_, u0, u1, u2, u3⟩ := hat
      have e81 : decide ((k : Int) < (us.length : Int)) = true := by simp; omega
      go_upto_region 7 with fail
      obtain ⟨g, rfl⟩ : ∃ g, gk = g + 1 := ⟨gk - 1, by have := HK.out; omega⟩
      have Q1 := Arr.new wr q0 q1 q2 q3 44
      have G1 := hid (HG.out.alloc (.cells #[.int .i64 q0, .int .i64 q1, .int .i64 q2, .int .i64 q3] 44)); have P1 := hid (HMP.out.alloc (.cells #[.int .i64 q0, .int .i64 q1, .int .i64 q2, .int .i64 q3] 44))
      have Y1 := hid (HWY.out.gb (Gb.alloc (Gb.refl (j + 1 + 1) wr) (.cells #[.int .i64 q0, .int .i64 q1, .int .i64 q2, .int .i64 q3] 44)) HMP.out)
      have T3 := Tr.alloc (.cells #[.int .i64 q0, .int .i64 q1, .int .i64 q2, .int .i64 q3] 44)
      have HLT := hid HWY.out.lt
      have hjw := HB2.out.lt
      have hjw4 := HG.out.size
      clear HG HMP HWY u0 u1 u2 u3 Tr
      generalize hjr : wr.heap.size = jr at *
      generalize wr.alloc (.cells #[.int .i64 q0, .int .i64 q1, .int .i64 q2, .int .i64 q3] 44) = W1 at Q1 G1 P1 Y1 T3 ⊢
      clear hjr
      obtain ⟨_, c0, c1, c2, c3, _⟩ := id T3
      obtain ⟨_, d0, d1, d2, d3, _⟩ := id Q1
      go_wp2_with fail
      refine (HC1.out _).mono ?_
      rintro e W2 ⟨rfl, hbb⟩
      generalize hch : Rd.ch (ta, tb, tc, td) (q0, q1, q2, q3) = fch at HI1 ⊢
      obtain ⟨f0, f1, f2, f3⟩ := fch
      have HCH := hid hch
      clear hch
      dsimp only at HI1 ⊢
      have G2 := hid (G1.out.next hbb); have P2 := hid (P1.out.nextW hbb); have Y2 := hid (Y1.out.gb (Gb.below hbb) P1.out)
      have T4 := T3.next hbb; have Q2 := Q1.next hbb
      clear G1 P1 Y1 T3 Q1 c0 c1 c2 c3 d0 d1 d2 d3 hbb HC1
      have F1 := Arr.new W2 f0 f1 f2 f3 26
      have G1 := hid (G2.out.alloc (.cells #[.int .i64 f0, .int .i64 f1, .int .i64 f2, .int .i64 f3] 26)); have P1 := hid (P2.out.alloc (.cells #[.int .i64 f0, .int .i64 f1, .int .i64 f2, .int .i64 f3] 26))
      have Y1 := hid (Y2.out.gb (Gb.alloc (Gb.refl (j + 1 + 1) W2) (.cells #[.int .i64 f0, .int .i64 f1, .int .i64 f2, .int .i64 f3] 26)) P2.out)
      have Q1 := Q2.alloc (.cells #[.int .i64 f0, .int .i64 f1, .int .i64 f2, .int .i64 f3] 26)
      have hjj := Q2.lt
      clear G2 P2 Y2 T4 Q2
      go_upto_region 8 with fail
      generalize hjf : W2.heap.size = jf at *
      generalize W2.alloc (.cells #[.int .i64 f0, .int .i64 f1, .int .i64 f2, .int .i64 f3] 26) = W3 at F1 G1 P1 Y1 Q1 ⊢
      clear hjf
      obtain ⟨_, c0, c1, c2, c3, _⟩ := id F1
      go_wp2_with fail
      refine (HI1.out _).mono ?_
      rintro e W4 ⟨rfl, hbb⟩
      have G2 := hid (G1.out.next hbb); have P2 := hid (P1.out.nextW hbb); have Y2 := hid (Y1.out.gb (Gb.below hbb) P1.out)
      have F2 := F1.next hbb; have Q2 := Q1.next hbb
      clear G1 P1 Y1 F1 Q1 c0 c1 c2 c3 hbb HI1
      cases hz : Red.rdF s (f0, f1, f2, f3) with
      | false =>
        have HE : Hid (Rd.grp s (ta, tb, tc, td) (ma, mb, mc, md) (us.take (k + 1)) = Rd.grp s (ta, tb, tc, td) (ma, mb, mc, md) (us.take k)) := hid (by rw [HTK.out, Rd.grp_snoc, Rd.oneG, HCH.out, hz]; simp)
        go_wp2_with fail
        go_roundg g
        case measure => have := HK.out; omega
        case rel => exact ⟨k + 1, L, by rw [show ((k : Int) + 1) = ((k + 1 : Nat) : Int) by push_cast; rfl], by have := HK.out; omega, G2.out, P2.out, by rw [HE.out]; exact Y2.out⟩
      | true =>
        have HE : Hid (Rd.grp s (ta, tb, tc, td) (ma, mb, mc, md) (us.take (k + 1)) = Rd.addG (Rd.grp s (ta, tb, tc, td) (ma, mb, mc, md) (us.take k)) (f0, f1, f2, f3) (Rd.mm (ma, mb, mc, md) (q0, q1, q2, q3))) := hid (by rw [HTK.out, Rd.grp_snoc, Rd.oneG, HCH.out, hz]; simp)
        go_upto_region 9 with fail
        clear hz
        obtain ⟨i, v0, L1, hd, hL1, hE1⟩ := entry_any L (f0, f1, f2, f3)
        obtain ⟨ms, G1, hY3, hG1, hR0, hadd, hmm⟩ := Y2.out.entry hd
        obtain ⟨va, vc, rfl⟩ := hR0.val
        have hml : ms.length ≤ 81 := by
          rcases hmm with rfl | hm
          · simp
          · have h1 := grp_len s (ta, tb, tc, td) (ma, mb, mc, md) (us.take k) _ hm
            have h2 : (us.take k).length ≤ us.length := by simp; omega
            dsimp only at h1; omega
        have hq0 : ∀ q, (Value.slice va ms.length vc).ownBlock = some q → w4.heap.size ≤ q ∧ q < jr := fun q hq => by
          refine ⟨(hR0.lt q hq).1, ?_⟩
          rcases hd with ⟨h1, _⟩ | ⟨_, _, h3, _⟩
          · obtain ⟨m, _, hm⟩ := lkM_some h1
            exact HLT.out m _ _ q hm hq
          · rw [h3] at hq; cases hq
        have nf : some jf ≠ (Value.slice va ms.length vc).ownBlock := fun e => by have := hq0 jf e.symm; omega
        have nr : some jr ≠ (Value.slice va ms.length vc).ownBlock := fun e => by have := hq0 jr e.symm; omega
        have nm : some (j + 1) ≠ (Value.slice va ms.length vc).ownBlock := fun e => by have := hq0 (j + 1) e.symm; omega
        have NF := hid nf; have NR := hid nr; have NM := hid nm
        clear nf nr nm hq0 HLT
        have hadd2 := hadd (Rd.mm (ma, mb, mc, md) (q0, q1, q2, q3))
        have HA := hid hadd2; have HL1 := hid hL1; have HE1 := hid hE1; have HY3 := hid hY3; have HG1 := hid hG1; have HR0 := hid hR0
        have M4 := G2.out.arr HM2.out HB2.out
        clear hd hL1 hE1 hY3 hG1 hR0 hadd hadd2 hmm
        generalize hmq : Rd.mm (ma, mb, mc, md) (q0, q1, q2, q3) = mq at HA HP1 HE
        obtain ⟨m0, m1, m2, m3⟩ := mq
        dsimp only at HP1
        clear hmq
        have F3 := F2.drew; have Q3 := Q2.drew; have M5 := M4.drew
        have G3 := hid G2.out.drew; have P3 := hid P2.out.drew; have HY4 := hid (HY3.out.gb (Gb.drew (Gb.refl (j + 1 + 1) W4)) P2.out)
        have HR1 := hid ((Gb.drew (Gb.refl (j + 1 + 1) W4)).row HR0.out P2.out)
        clear F2 Q2 M4 G2 P2 HY3 HR0 Y2
        obtain ⟨_, c0, c1, c2, c3, _⟩ := id F3
        obtain ⟨_, d0, d1, d2, d3, _⟩ := id Q3
        obtain ⟨_, x0, x1, x2, x3, _⟩ := id M5
        go_region_held3 (fun W => W.cell? ⟨jf, 0, none⟩ = some (.int .i64 f0) ∧ W.cell? ⟨jf, 1, none⟩ = some (.int .i64 f1) ∧ W.cell? ⟨jf, 2, none⟩ = some (.int .i64 f2) ∧ W.cell? ⟨jf, 3, none⟩ = some (.int .i64 f3) ∧ W.cell? ⟨jr, 0, none⟩ = some (.int .i64 q0) ∧ W.cell? ⟨jr, 1, none⟩ = some (.int .i64 q1) ∧ W.cell? ⟨jr, 2, none⟩ = some (.int .i64 q2) ∧ W.cell? ⟨jr, 3, none⟩ = some (.int .i64 q3) ∧ W.cell? ⟨j + 1, 0, none⟩ = some (.int .i64 ma) ∧ W.cell? ⟨j + 1, 1, none⟩ = some (.int .i64 mb) ∧ W.cell? ⟨j + 1, 2, none⟩ = some (.int .i64 mc) ∧ W.cell? ⟨j + 1, 3, none⟩ = some (.int .i64 md)) (first | exact cells12 F8 Q8 M8 | exact cells12 F7 Q7 M7 | exact cells12 F6 Q6 M6 | (refine cells12 ?_ ?_ ?_ <;> (repeat (first | with_reducible assumption | with_reducible exact Arr.box (by assumption) | with_reducible exact Box.new _ _ _ _ _ _ | with_reducible exact Arr.new _ _ _ _ _ _ | with_reducible refine Arr.drew ?_ | with_reducible refine Arr.drewN ?_ _ | with_reducible refine Arr.store4 ?_ | with_reducible refine Arr.alloc ?_ _ | with_reducible refine Box.drew ?_ | with_reducible refine Box.drewN ?_ _ | with_reducible refine Box.alloc ?_ _ | with_reducible refine Arr.next ?_ (by assumption) | with_reducible refine Box.next ?_ (by assumption) | refine Arr.oth ?_ (by first | (simp; done) | omega | (simp; omega)) _ | refine Box.oth ?_ (by first | (simp; done) | omega | (simp; omega)) _ | with_reducible exact Arr3.box (by assumption) | with_reducible exact Box3.new _ _ _ _ _ | with_reducible exact Arr3.new _ _ _ _ _ | with_reducible refine Arr3.drew ?_ | with_reducible refine Arr3.drewN ?_ _ | with_reducible refine Arr3.store3 ?_ | with_reducible refine Arr3.alloc ?_ _ | with_reducible refine Box3.drew ?_ | with_reducible refine Box3.drewN ?_ _ | with_reducible refine Box3.alloc ?_ _ | with_reducible refine Arr3.next ?_ (by assumption) | with_reducible refine Box3.next ?_ (by assumption) | refine Arr3.oth ?_ (by first | (simp; done) | omega | (simp; omega)) _ | refine Box3.oth ?_ (by first | (simp; done) | omega | (simp; omega)) _)))) ((first
          | (go_at_call 55; refine (HP1.out _).mono ?_; rintro e w5 ⟨rfl, hb5⟩; have G5 := hid (G3.out.next hb5); have P5 := P3.out.nextW hb5; have Y5 := hid (HY4.out.gb (Gb.below hb5) P3.out); have R5 := hid ((Gb.below hb5).row HR1.out P3.out); obtain ⟨w6, e6, g6, s6, p6⟩ := HE1.out (j + 1 + 1) (w5.alloc (.cells #[.int .i64 m0, .int .i64 m1, .int .i64 m2, .int .i64 m3] 44)) (P5.alloc _); unfold vF at e6; dsimp only at e6; have GF := ((Gb.below hb5).alloc (.cells #[.int .i64 m0, .int .i64 m1, .int .i64 m2, .int .i64 m3] 44)).trans g6; have F6 := GF.arr F3 P3.out; have Q6 := GF.arr Q3 P3.out; have M6 := GF.arr M5 P3.out; have N6 := g6.arr (Arr.new w5 m0 m1 m2 m3 44) (P5.alloc _); have Y6 := hid ((Y5.out.gb (Gb.alloc (Gb.refl _ w5) (.cells #[.int .i64 m0, .int .i64 m1, .int .i64 m2, .int .i64 m3] 44)) P5).gb g6 (P5.alloc _)); have R6 := ((Gb.alloc (Gb.refl _ w5) (.cells #[.int .i64 m0, .int .i64 m1, .int .i64 m2, .int .i64 m3] 44)).row R5.out P5); have R7 := g6.row R6 (P5.alloc _); have G6 := hid ((G5.out.alloc (.cells #[.int .i64 m0, .int .i64 m1, .int .i64 m2, .int .i64 m3] 44)).trans g6))
          | (refine step_m w4.heap.size w6.heap.size rfl (.tmp 32) (.tmp 36) rfl (.slice va ms.length vc) ms rfl R7 w5.heap.size m0 m1 m2 m3 rfl N6 (by omega) G6.out.size (Nat.le_refl _) ?_; intro g7 cap7 w7 r7 h7 hwh hlt7; have p7 := p6.grown h7 (p6.row_ne R7); have F7 := F6.grownB h7 NF.out; have Q7 := Q6.grownB h7 NR.out; have M7 := M6.grownB h7 NM.out; obtain ⟨w8, e8, g8, s8, p8⟩ := storeE (val := .slice (some ⟨g7, 0, none⟩) (ms.length + 1) cap7) p7 HL1.out; have F8 := g8.arr F7 p7; have Q8 := g8.arr Q7 p7; have M8 := g8.arr M7 p7)))
        have hr7 := R7.lt
        have hGF := hid ((G6.out.grown h7 (fun q e => .inl (hr7 q e).1)).trans g8)
        have hYF := hid (Y6.out.store HL1.out HG1.out h7 r7 hwh Y6.out.lt g8 p7)
        have HP8 := hid p8
        clear F6 Q6 M6 F7 Q7 M7 F8 Q8 M8 p7 p8 g8 r7 h7 R6 R7 N6 g6 p6 GF P5 hr7 F3 Q3 M5
        go_wp2_with fail
        go_roundg g
        case measure => have := HK.out; omega
        case rel => exact ⟨k + 1, _, by rw [show ((k : Int) + 1) = ((k + 1 : Nat) : Int) by push_cast; rfl], by have := HK.out; omega, hGF.out, HP8.out, by rw [HE.out, HA.out]; exact hYF.out⟩
    · have e81 : decide ((k : Int) < (us.length : Int)) = false := by simp; omega
      have hk' : k = us.length := by have := HK.out; omega
      subst hk'
      have HW2 := hid HWY.out
      rw [List.take_length] at HW2
      go_wp2_with fail
      go_ret
      exact ⟨_, _, _, rfl, HMP.out, HW2.out, by have := HU4.out.size; omega, by omega, Gb.belowB HU4.out HG.out (Nat.le_refl _) (by omega)⟩

end Go.Proofs.Ytikmjefbjejbkaa
