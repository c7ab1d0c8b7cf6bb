/- A sorted row lies as the row did: the same block, other numbers. -/
import Derived.Test.YtikmjefbjejbkaaBbSo2
namespace Go.Proofs.Ytikmjefbjejbkaa
open Go.RowKit Go.Lib Go.Sort

theorem fm_get : ∀ (L : List Red.F4) (t : Nat), (L.flatMap hm4)[t]? = (L[t / 4]?).bind fun q => (hm4 q)[t % 4]?
  | [], t => by simp
  | q :: L, t => by
    rw [List.flatMap_cons, List.getElem?_append]
    have hl : (hm4 q).length = 4 := rfl
    by_cases ht : t < 4
    · rw [if_pos (by omega), show t / 4 = 0 by omega, show t % 4 = t by omega]; rfl
    · rw [if_neg (by omega), fm_get L, hl, show t / 4 = (t - 4) / 4 + 1 by omega, show t % 4 = (t - 4) % 4 by omega]; rfl
theorem flat_list (d : Array Red.F4) : (flatK hm4 4 d).toList = d.toList.flatMap hm4 := by
  apply List.ext_getElem?
  intro t
  rw [fm_get]
  by_cases ht : t < d.size * 4
  · have h1 : t / 4 < d.size := by omega
    have h2 := get_flatK hm4 4 d t ht
    have h3 : t < (flatK hm4 4 d).size := by rw [size_flatK]; exact ht
    rw [Array.getElem?_toList, Array.getElem?_eq_getElem h3, Array.getElem?_toList, Array.getElem?_eq_getElem h1, Option.bind_some]
    rw [getElem!_pos _ t h3, getElem!_pos d _ h1] at h2
    have h4 : t % 4 < (hm4 d[t / 4]).length := Nat.mod_lt _ (by decide)
    rw [h2, getElem!_pos (hm4 d[t / 4]) (t % 4) h4, List.getElem?_eq_getElem h4]
  · have h3 : ¬ t < (flatK hm4 4 d).size := by rw [size_flatK]; exact ht
    rw [Array.getElem?_toList, Array.getElem?_eq_none (by omega), Array.getElem?_toList, Array.getElem?_eq_none (by omega)]
    rfl
/-- What the sort's world holds. -/
theorem srt_world {w : World} {B g cap : Nat} {T : TypeId} {L : List Red.F4} (h : w.ownsRow B T 4 (.slice (some ⟨g, 0, none⟩) L.length cap) L.length (L.flatMap hm4)) :
    HoldsK hm4 4 w g 0 L.toArray ∧ g < w.heap.size ∧ B ≤ g ∧ L.length ≤ maxLen ∧ ∀ (d : Array Red.F4) (n : Nat) (os : Array Obj), d.size = L.length →
      (sortWorldK hm4 4 w g 0 n d os).ownsRow B T 4 (.slice (some ⟨g, 0, none⟩) L.length cap) L.length (d.toList.flatMap hm4) ∧ Below B w (sortWorldK hm4 4 w g 0 n d os) := by
  rcases h.2 with ⟨h0, _⟩ | ⟨g', cap', cur, hv, hb, hg, hnc, hcm, hs, ht⟩
  · cases h0
  · cases hv
    have hgl : g < w.heap.size := (Array.getElem?_eq_some_iff.1 hg).1
    have hfl : (L.flatMap hm4).length = L.length * 4 := h.1
    refine ⟨?_, hgl, hb, Nat.le_trans hnc hcm, ?_⟩
    · intro j hj
      have hj' : j < L.length * 4 := by simpa [size_flatK] using hj
      have e1 : (flatK hm4 4 L.toArray)[j]? = cur[j]? := by
        rw [← Array.getElem?_toList, flat_list, ← Array.getElem?_toList (xs := cur)]
        show (L.flatMap hm4)[j]? = _
        rw [← ht, List.getElem?_take, if_pos hj']
      have e2 : (flatK hm4 4 L.toArray)[j]? = some (flatK hm4 4 L.toArray)[j]! := by rw [getElem!_pos _ j hj, Array.getElem?_eq_getElem hj]
      refine ⟨?_, by simp [World.frozen?, hg]⟩
      rw [show (0 + j) = j by omega]
      show w.cell? ⟨g, j, none⟩ = some (flatK hm4 4 L.toArray)[j]!
      rw [← e2, e1]
      simp [World.cell?, hg]
    · intro d n os hd
      have hsz : (w.heap.modify g (onCells (putCells id 0 (flatK hm4 4 d)))).size = w.heap.size := by simp
      have hg' : (sortWorldK hm4 4 w g 0 n d os).heap[g]? = some (.cells (putCells id 0 (flatK hm4 4 d) cur) T (0, 0)) := by
        show (w.heap.modify g (onCells (putCells id 0 (flatK hm4 4 d))) ++ os)[g]? = _
        rw [Array.getElem?_append, if_pos (by omega), Array.getElem?_modify, if_pos rfl, hg]
        rfl
      refine ⟨⟨by rw [← flat_list, Array.length_toList, size_flatK, hd], .inr ⟨g, cap, _, rfl, hb, hg', hnc, hcm, by unfold putCells; rw [Array.size_mapIdx, hs], ?_⟩⟩, rfl, rfl, rfl, ?_, ?_⟩
      · rw [← flat_list]
        apply List.ext_getElem?
        intro t
        rw [List.getElem?_take]
        by_cases htt : t < L.length * 4
        · have hc : t < cur.size := by omega
          have hf : t < (flatK hm4 4 d).size := by rw [size_flatK]; omega
          rw [if_pos htt, Array.getElem?_toList, Array.getElem?_toList, Array.getElem?_eq_getElem hf]
          unfold putCells
          rw [Array.getElem?_mapIdx, Array.getElem?_eq_getElem hc, Option.map_some, if_pos ⟨Nat.zero_le _, by omega⟩, Nat.sub_zero, getElem!_pos _ t hf]
          rfl
        · rw [if_neg htt, Array.getElem?_toList, Array.getElem?_eq_none (by rw [size_flatK]; omega)]
      · show w.heap.size ≤ (w.heap.modify g (onCells (putCells id 0 (flatK hm4 4 d))) ++ os).size
        rw [Array.size_append]; omega
      · intro k hk
        show (w.heap.modify g (onCells (putCells id 0 (flatK hm4 4 d))) ++ os)[k]? = _
        rw [Array.getElem?_append, if_pos (by omega), Array.getElem?_modify, if_neg (by omega)]

end Go.Proofs.Ytikmjefbjejbkaa
