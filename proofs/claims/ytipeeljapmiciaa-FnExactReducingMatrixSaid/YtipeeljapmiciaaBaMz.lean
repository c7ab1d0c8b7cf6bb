/- Chapter 2: the ways to each reduced form, as a map of rows of matrices. -/
import Derived.Test.YtipeeljapmiciaaBaZ10
import Derived.Test.YtipeeljapmiciaaBaRn
namespace Go.Proofs.Ytipeeljapmiciaa
open Go.RowKit

/-- The map in block b holds the ways G: their rows lie in blocks of their own, from B on. -/
structure Wys (B : Nat) (w : World) (G : List (Red.F4 × List Red.F4)) (L : List (Red.F4 × Value)) : Prop where
  keys : L.map (·.1) = G.map (·.1)
  rows : ∀ (i : Nat) (k k' : Red.F4) (v : Value) (ms : List Red.F4), L[i]? = some (k, v) → G[i]? = some (k', ms) → RowM B w v ms
  apart : ∀ (i j : Nat) (ki kj : Red.F4) (vi vj : Value), L[i]? = some (ki, vi) → L[j]? = some (kj, vj) → i ≠ j → vi.ownBlock = none ∨ vi.ownBlock ≠ vj.ownBlock
  nodup : (L.map (·.1)).Nodup
theorem Wys.nil (B : Nat) (w : World) : Wys B w [] [] := ⟨rfl, (fun i k k' v ms h => by simp at h), (fun i j ki kj vi vj h => by simp at h), List.nodup_nil⟩
theorem Wys.len {B : Nat} {w : World} {G : List (Red.F4 × List Red.F4)} {L : List (Red.F4 × Value)} (h : Wys B w G L) : L.length = G.length := by
  have := congrArg List.length h.keys
  simpa using this
namespace Rd
theorem addG_new : ∀ {G : List (Red.F4 × List Red.F4)} {k m : Red.F4}, (∀ q ∈ G.map (·.1), q ≠ k) → addG G k m = G ++ [(k, [m])]
  | [], _, _, _ => rfl
  | (k', l) :: r, k, m, h => by
    have h1 : k ≠ k' := fun e => h k' (by simp) e.symm
    rw [addG, if_neg h1, addG_new (fun q hq => h q (by simp only [List.map_cons, List.mem_cons]; exact .inr hq))]
    rfl
theorem addG_old : ∀ {G : List (Red.F4 × List Red.F4)} {k m : Red.F4} {i : Nat} {l : List Red.F4}, (G.map (·.1)).Nodup → G[i]? = some (k, l) → addG G k m = G.set i (k, l ++ [m])
  | [], _, _, _, _, _, h => by simp at h
  | (k', l') :: r, k, m, 0, l, _, h => by
    simp at h; obtain ⟨rfl, rfl⟩ := h
    simp [addG]
  | (k', l') :: r, k, m, i + 1, l, hn, h => by
    simp only [List.getElem?_cons_succ] at h
    simp only [List.map_cons, List.nodup_cons] at hn
    have h1 : k ≠ k' := by
      rintro rfl
      exact hn.1 (List.mem_map.2 ⟨(k, l), List.mem_of_getElem? h, rfl⟩)
    rw [addG, if_neg h1, addG_old hn.2 h]
    rfl
end Rd
/-- What was looked up for 'm[k] = ..'. -/
theorem Wys.entry {B : Nat} {w : World} {G : List (Red.F4 × List Red.F4)} {L L1 : List (Red.F4 × Value)} {k : Red.F4} {i : Nat} {v : Value} (h : Wys B w G L)
    (hd : (lkM L k 0 = some (i, v) ∧ L1 = L) ∨ (lkM L k 0 = none ∧ i = L.length ∧ v = .slice none 0 0 ∧ L1 = L ++ [(k, .slice none 0 0)])) :
    ∃ ms G1, Wys B w G1 L1 ∧ G1[i]? = some (k, ms) ∧ RowM B w v ms ∧ (∀ m, Rd.addG G k m = G1.set i (k, ms ++ [m])) ∧ (ms = [] ∨ (k, ms) ∈ G) := by
  have hl := h.len
  rcases hd with ⟨h1, rfl⟩ | ⟨h1, rfl, rfl, rfl⟩
  · obtain ⟨m, e, hm⟩ := lkM_some h1
    rw [Nat.zero_add] at e; subst e
    have hlt := (List.getElem?_eq_some_iff.1 hm).1
    obtain ⟨p, hp⟩ : ∃ p, G[i]? = some p := ⟨_, List.getElem?_eq_getElem (by omega)⟩
    obtain ⟨k', ms⟩ := p
    have hk : k' = k := by
      have := congrArg (fun l => l[i]?) h.keys
      simp only [List.getElem?_map, hm, hp, Option.map_some, Option.some.injEq] at this
      exact this.symm
    subst hk
    exact ⟨ms, G, h, hp, h.rows i _ _ v ms hm hp, fun m => Rd.addG_old (by rw [← h.keys]; exact h.nodup) hp, .inr (List.mem_of_getElem? hp)⟩
  · have hne := lkM_none h1
    refine ⟨[], G ++ [(k, [])], ⟨by simp [h.keys], ?_, ?_, ?_⟩, by simp [hl], RowM.nil _ _, fun m => ?_, .inl rfl⟩
    · intro j kj kj' u ms h2 h3
      rcases Nat.lt_or_ge j L.length with hj | hj
      · rw [List.getElem?_append_left hj] at h2
        rw [List.getElem?_append_left (by omega)] at h3
        exact h.rows j _ _ u ms h2 h3
      · have e : j = L.length := by
          have := (List.getElem?_eq_some_iff.1 h2).1
          simp at this; omega
        subst e
        simp at h2
        simp [hl] at h3
        obtain ⟨_, rfl⟩ := h2
        obtain ⟨_, rfl⟩ := h3
        exact RowM.nil _ _
    · intro j j' kj kj' u u' h2 h3 hjj
      rcases Nat.lt_or_ge j L.length with hj | hj
      · rw [List.getElem?_append_left hj] at h2
        rcases Nat.lt_or_ge j' L.length with hj' | hj'
        · rw [List.getElem?_append_left hj'] at h3
          exact h.apart j j' _ _ u u' h2 h3 hjj
        · have e : j' = L.length := by
            have := (List.getElem?_eq_some_iff.1 h3).1
            simp at this; omega
          subst e
          simp at h3
          rw [← h3.2]
          cases hu : u.ownBlock with
          | none => exact .inl rfl
          | some g => right; simp [Value.ownBlock]
      · have e : j = L.length := by
          have := (List.getElem?_eq_some_iff.1 h2).1
          simp at this; omega
        subst e
        simp at h2
        rw [← h2.2]; exact .inl rfl
    · rw [List.map_append, List.nodup_append]
      refine ⟨h.nodup, by simp, fun a ha c hc => ?_⟩
      simp at hc; subst hc
      obtain ⟨p, hp, rfl⟩ := List.mem_map.1 ha
      exact hne p hp
    · rw [Rd.addG_new (fun q hq => by rw [← h.keys] at hq; obtain ⟨p, hp, rfl⟩ := List.mem_map.1 hq; exact hne p hp)]
      rw [← hl.symm]
      simp
theorem Wys.gb {B b : Nat} {u v : World} {G : List (Red.F4 × List Red.F4)} {L M : List (Red.F4 × Value)} (h : Wys B u G L) (hg : Gb b u v) (hM : Mp u b M) : Wys B v G L :=
  ⟨h.keys, fun i k k' x ms h1 h2 => hg.row (h.rows i k k' x ms h1 h2) hM, h.apart, h.nodup⟩
/-- A row has been appended to, and stored. -/
theorem Wys.store {B b H i g n cap : Nat} {w5 w6 w7 : World} {G1 : List (Red.F4 × List Red.F4)} {L1 M : List (Red.F4 × Value)} {k : Red.F4} {v : Value} {ms ms' : List Red.F4} (h : Wys B w5 G1 L1) (hL : L1[i]? = some (k, v)) (hG : G1[i]? = some (k, ms))
    (hgr : w5.grownBy w6 v.ownBlock) (hr : RowM B w6 (.slice (some ⟨g, 0, none⟩) n cap) ms') (hwh : v.ownBlock = some g ∨ H ≤ g) (hH : ∀ (j : Nat) (kj : Red.F4) (vj : Value) (q : Nat), L1[j]? = some (kj, vj) → vj.ownBlock = some q → q < H) (hg7 : Gb b w6 w7) (hM : Mp w6 b M) :
    Wys B w7 (G1.set i (k, ms')) (L1.set i (k, .slice (some ⟨g, 0, none⟩) n cap)) := by
  have hil := (List.getElem?_eq_some_iff.1 hL).1
  have hig := (List.getElem?_eq_some_iff.1 hG).1
  have get : ∀ j kj vj, (L1.set i (k, Value.slice (some ⟨g, 0, none⟩) n cap))[j]? = some (kj, vj) → (j = i ∧ kj = k ∧ vj = .slice (some ⟨g, 0, none⟩) n cap) ∨ (j ≠ i ∧ L1[j]? = some (kj, vj)) := fun j kj vj hj => by
    by_cases e : j = i
    · subst e
      rw [List.getElem?_set_self hil] at hj
      simp at hj; exact .inl ⟨rfl, hj.1.symm, hj.2.symm⟩
    · rw [List.getElem?_set_ne (fun e' => e e'.symm)] at hj
      exact .inr ⟨e, hj⟩
  refine ⟨by rw [List.map_set, List.map_set, h.keys], ?_, ?_, ?_⟩
  · intro j kj kj' u msj h1 h2
    rcases get j kj u h1 with ⟨rfl, rfl, rfl⟩ | ⟨hj, h1⟩
    · rw [List.getElem?_set_self hig] at h2
      simp at h2
      rw [← h2.2]
      exact hg7.row hr hM
    · rw [List.getElem?_set_ne (fun e' => hj e'.symm)] at h2
      have hrow := h.rows j kj kj' u msj h1 h2
      have hap := h.apart j i kj k u v h1 hL hj
      exact hg7.row (World.ownsRow.kept hrow hgr hap) hM
  · intro j j' kj kj' u u' h1 h2 hjj
    rcases get j kj u h1 with ⟨rfl, rfl, rfl⟩ | ⟨hj, k1⟩
    · rcases get j' kj' u' h2 with ⟨rfl, rfl, rfl⟩ | ⟨hj', k2⟩
      · exact absurd rfl hjj
      · right
        rcases hwh with hw | hw
        · have := h.apart j' j kj' kj u' v k2 hL hj'
          rw [hw] at this
          show some g ≠ u'.ownBlock
          rcases this with e | e
          · rw [e]; simp
          · exact fun e' => e e'.symm
        · intro e
          have := hH j' kj' u' g k2 e.symm
          omega
    · rcases get j' kj' u' h2 with ⟨rfl, rfl, rfl⟩ | ⟨hj', k2⟩
      · rcases hwh with hw | hw
        · have := h.apart j j' kj kj' u v k1 hL hj
          rw [hw] at this
          exact this
        · cases hu : u.ownBlock with
          | none => exact .inl rfl
          | some q =>
            right
            intro e
            have := hH j kj u q k1 hu
            simp [Value.ownBlock] at e
            omega
      · exact h.apart j j' kj kj' u u' k1 k2 hjj
  · rw [List.map_set]
    have : (L1.map (·.1)).set i k = L1.map (·.1) := WideElems.set_self _ _ _ (by simp [hL])
    rw [this]; exact h.nodup
theorem Wys.lt {B : Nat} {w : World} {G : List (Red.F4 × List Red.F4)} {L : List (Red.F4 × Value)} (h : Wys B w G L) (j : Nat) (kj : Red.F4) (vj : Value) (q : Nat) (h1 : L[j]? = some (kj, vj)) (h2 : vj.ownBlock = some q) : q < w.heap.size := by
  have hlt := (List.getElem?_eq_some_iff.1 h1).1
  have hl := h.len
  obtain ⟨p, hp⟩ : ∃ p, G[j]? = some p := ⟨_, List.getElem?_eq_getElem (by omega)⟩
  exact ((h.rows j kj p.1 vj p.2 h1 hp).lt q h2).2

end Go.Proofs.Ytipeeljapmiciaa
