/- Chapter 2: insertion keeps lists in order. Mathematics; the model's contracts at the reduced forms of a class. -/
import Derived.Test.YtipeeljapmiciaaBaPv
namespace Go.Proofs.Ytipeeljapmiciaa
open Go.RowKit
namespace Rd
/-- In order, none twice. -/
def Srt (L : List Red.F4) : Prop := L.Pairwise Ls
/-- In order. -/
def Asc (L : List Red.F4) : Prop := L.Pairwise fun x y => ¬ Ls y x
theorem cut_perm (m : Red.F4) (L : List Red.F4) (k : Nat) : (L.take k ++ m :: L.drop k).Perm (m :: L) := by
  have h := List.perm_middle (a := m) (l₁ := L.take k) (l₂ := L.drop k)
  rwa [List.take_append_drop] at h
theorem Cut.left {m : Red.F4} {L : List Red.F4} {k : Nat} (h : Cut m L k) (hs : Asc L) : ∀ x ∈ L.take k, ¬ Ls m x := by
  intro x hx
  obtain ⟨i, hi⟩ := List.mem_iff_getElem?.1 hx
  rw [List.getElem?_take] at hi
  split at hi
  · rename_i hik
    have hk0 : 0 < k := by omega
    obtain ⟨h1, _, h3⟩ := h
    obtain ⟨q, hq⟩ : ∃ q, L[k - 1]? = some q := ⟨_, List.getElem?_eq_getElem (by omega)⟩
    have hmq := h3 q hk0 hq
    by_cases e : i = k - 1
    · subst e; rw [hq] at hi; cases hi; exact hmq
    · have hil : i < L.length := by omega
      have hxq : ¬ Ls q x := by
        have := List.pairwise_iff_getElem.1 hs i (k - 1) hil (by omega) (by omega)
        rw [List.getElem?_eq_getElem hil] at hi
        rw [List.getElem?_eq_getElem (by omega)] at hq
        cases hi; cases hq; exact this
      exact fun hc => hmq (by
        rcases Classical.em (Ls m q) with h | h
        · exact h
        · exact absurd hc (Ls.ntrans h hxq))
  · cases hi
theorem Cut.right {m : Red.F4} {L : List Red.F4} {k : Nat} (h : Cut m L k) : ∀ x ∈ L.drop k, Ls m x := by
  intro x hx
  obtain ⟨i, hi⟩ := List.mem_iff_getElem?.1 hx
  rw [List.getElem?_drop] at hi
  exact h.2.1 (k + i) x (by omega) hi
theorem Ls.asymm {x y : Red.F4} (h : Ls x y) : ¬ Ls y x := fun k => Ls.irrefl x (h.trans k)
theorem Cut.asc {m : Red.F4} {L : List Red.F4} {k : Nat} (h : Cut m L k) (hs : Asc L) : Asc (L.take k ++ m :: L.drop k) := by
  unfold Asc
  rw [List.pairwise_append, List.pairwise_cons]
  have hs' := hs
  unfold Asc at hs'
  rw [← List.take_append_drop k L, List.pairwise_append] at hs'
  refine ⟨hs'.1, ⟨fun y hy => (h.right y hy).asymm, hs'.2.1⟩, fun x hx y hy => ?_⟩
  rcases List.mem_cons.1 hy with rfl | hy
  · exact h.left hs x hx
  · exact hs'.2.2 x hx y hy
theorem Srt.asc {L : List Red.F4} (h : Srt L) : Asc L := List.Pairwise.imp (fun h => h.asymm) h
theorem Cut.srt {m : Red.F4} {L : List Red.F4} {k : Nat} (h : Cut m L k) (hs : Srt L) (hm : ∀ q, 0 < k → L[k - 1]? = some q → q ≠ m) : Srt (L.take k ++ m :: L.drop k) := by
  have hl := h.left hs.asc
  unfold Srt
  rw [List.pairwise_append, List.pairwise_cons]
  have hs' := hs
  unfold Srt at hs'
  rw [← List.take_append_drop k L, List.pairwise_append] at hs'
  refine ⟨hs'.1, ⟨fun y hy => h.right y hy, hs'.2.1⟩, fun x hx y hy => ?_⟩
  rcases List.mem_cons.1 hy with rfl | hy
  · rcases Classical.em (Ls x y) with h1 | h1
    · exact h1
    · have e : x = y := Ls.total h1 (hl x hx)
      obtain ⟨i, hi⟩ := List.mem_iff_getElem?.1 hx
      rw [List.getElem?_take] at hi
      split at hi
      · rename_i hik
        have hk0 : 0 < k := by omega
        have hkl := h.1
        obtain ⟨q, hq⟩ : ∃ q, L[k - 1]? = some q := ⟨_, List.getElem?_eq_getElem (by omega)⟩
        by_cases e2 : i = k - 1
        · subst e2; exact absurd e (hm x hk0 hi)
        · have hil : i < L.length := by omega
          have hxq : Ls x q := by
            have := List.pairwise_iff_getElem.1 hs i (k - 1) hil (by omega) (by omega)
            rw [List.getElem?_eq_getElem hil] at hi
            rw [List.getElem?_eq_getElem (by omega)] at hq
            cases hi; cases hq; exact this
          subst e
          exact absurd hxq (h.2.2 q hk0 hq)
      · cases hi
  · exact hs'.2.2 x hx y hy
theorem cut_mem (m : Red.F4) (L : List Red.F4) (k : Nat) (q : Red.F4) : q ∈ L.take k ++ m :: L.drop k ↔ q ∈ L ∨ q = m := by
  rw [(cut_perm m L k).mem_iff, List.mem_cons]
  exact Or.comm
/-- Two lists in order with the same members are one. -/
theorem Srt.eq : ∀ {L M : List Red.F4}, Srt L → Srt M → (∀ q, q ∈ L ↔ q ∈ M) → L = M
  | [], [], _, _, _ => rfl
  | [], y :: M, _, _, h => by have := (h y).2 (by simp); cases this
  | x :: L, [], _, _, h => by have := (h x).1 (by simp); cases this
  | x :: L, y :: M, h1, h2, h => by
    obtain ⟨a1, a2⟩ := List.pairwise_cons.1 h1
    obtain ⟨b1, b2⟩ := List.pairwise_cons.1 h2
    have e : x = y := by
      rcases List.mem_cons.1 ((h x).1 (by simp)) with e | hx
      · exact e
      · rcases List.mem_cons.1 ((h y).2 (by simp)) with e | hy
        · exact e.symm
        · exact absurd ((a1 y hy).trans (b1 x hx)) (Ls.irrefl x)
    subst e
    have : L = M := Srt.eq a2 b2 (fun q => by
      constructor
      · intro hq
        rcases List.mem_cons.1 ((h q).1 (List.mem_cons_of_mem _ hq)) with e | hq'
        · subst e; exact absurd (a1 q hq) (Ls.irrefl q)
        · exact hq'
      · intro hq
        rcases List.mem_cons.1 ((h q).2 (List.mem_cons_of_mem _ hq)) with e | hq'
        · subst e; exact absurd (b1 q hq) (Ls.irrefl q)
        · exact hq')
    rw [this]
/-- Two lists in order with the same members, as often, are one. -/
theorem Asc.eq {L M : List Red.F4} (h1 : Asc L) (h2 : Asc M) (h : L.Perm M) : L = M :=
  List.Perm.eq_of_pairwise (fun _ _ _ _ h k => Ls.total k h) h1 h2 h
end Rd
theorem sid_rd (t : Red.F4) (s : Bool) (hs : decide (0 < dsc t.1 t.2.1 t.2.2.1 t.2.2.2) = s) : (sid t.1 t.2.1 t.2.2.1 t.2.2.2 = 0 ↔ Red.rdF s t = true) := by
  obtain ⟨a, b, c, d⟩ := t
  dsimp only at hs ⊢
  have e2 : -(a - b) * (a - b) = -((a - b) * (a - b)) := by rw [Int.neg_mul]
  unfold sid Red.rdF Red.isR
  dsimp only
  simp only [Bool.and_eq_true, decide_eq_true_eq]
  cases s with
  | true =>
    have hD : 0 < dsc a b c d := by simpa using hs
    rw [if_pos hD]
    simp only [Red.lf, Red.rt, Red.hg, if_true, sd1]
    generalize b * b - 3 * a * c = P at *
    generalize b * c - 9 * a * d = Q at *
    generalize c * c - 3 * b * d = R at *
    (repeat' split) <;> omega
  | false =>
    have hD : ¬ 0 < dsc a b c d := by simpa using hs
    rw [if_neg hD]
    simp only [Red.lf, Red.rt, Red.hg, Bool.false_eq_true, if_false, sd2, e2]
    generalize (a - b) * (a - b) = s at *
    generalize (a + b) * (a + b) = t at *
    generalize a * c = u at *
    generalize a * d = v at *
    generalize b * c = x at *
    generalize d * d = y at *
    generalize a * a = z at *
    generalize b * d = m at *
    (repeat' split) <;> omega
theorem sCh_any (T u : Red.F4) (hb : Red.Bd (Rd.ch T u)) (w : World) : Calls Try.prog 74 #[vF T, vF u] w fun e w' => e = .returned (vF (Rd.ch T u)) ∧ Below w.heap.size w w' := by
  obtain ⟨a, b, c, d⟩ := T
  obtain ⟨x, y, z, t⟩ := u
  have h := sChange0_any a b c d x y z t w
  rw [ch_cA] at hb ⊢
  obtain ⟨h1, h2, h3, h4⟩ := hb
  dsimp only at h1 h2 h3 h4
  rw [wr_in (by omega), wr_in (by omega), wr_in (by omega), wr_in (by omega)] at h
  exact h

end Go.Proofs.Ytipeeljapmiciaa
