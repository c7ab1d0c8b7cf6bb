/- Chapter 2: ReducingMatrix: program and model. -/
import Derived.Test.YtikmjefbjejbkaaBbTto
import Derived.Test.YtikmjefbjejbkaaBbQa
namespace Go.Proofs.Ytikmjefbjejbkaa
open Go.RowKit

/-- The first of the ways to the normal form. -/
noncomputable def rdm (a b c d : Int) : Red.F4 := Rd.mn (nwy a b c d)
theorem nwy_ne {a b c d : Int} (h : rcd a b c d = 0) : nwy a b c d ≠ [] := by
  obtain ⟨h1, h2, h3, _⟩ := cls_spec h
  have hke : (Rd.grp (decide (0 < dsc a b c d)) (cls a b c d).1 (cls a b c d).2.1 (Rd.uni 81)).map (·.1) ≠ [] := by
    intro e
    have h1 : (cls a b c d).1 ∈ (Rd.grp (decide (0 < dsc a b c d)) (cls a b c d).1 (cls a b c d).2.1 (Rd.uni 81)).map (·.1) := (Rd.grp_keys _ _ _ _ _).2 ⟨(1, 0, 0, 1), Rd.uni_has (by unfold Rd.Sm; decide) (by decide), by rw [Rd.ch_one]; exact h3, Rd.ch_one _⟩
    rw [e] at h1; cases h1
  have hm := (Rd.mn_mem hke).1
  rw [Rd.nrm_grp h3] at hm
  obtain ⟨u, hu, _, hq⟩ := (Rd.grp_keys _ _ _ _ _).1 hm
  intro e
  have hx : Rd.mm (cls a b c d).2.1 u ∈ nwy a b c d := by
    unfold nwy Rd.wys
    exact List.mem_map.2 ⟨u, List.mem_filter.2 ⟨hu, decide_eq_true hq⟩, rfl⟩
  rw [e] at hx
  cases hx
theorem nwy_len (a b c d : Int) : (nwy a b c d).length ≤ 81 := by
  unfold nwy Rd.wys
  rw [List.length_map]
  exact Nat.le_trans (List.length_filter_le _ _) (Rd.uni_len 81)
theorem sWy_any (a b c d : Int) (h : rcd a b c d = 0) (w : World) :
    Calls Try.prog 77 #[.agg #[.int .i64 a, .int .i64 b, .int .i64 c, .int .i64 d]] w fun e w' => ∃ g n cap xs, e = .returned (.slice (some ⟨g, 0, none⟩) n cap) ∧ Rd.Asc xs ∧ xs.Perm (nwy a b c d) ∧ RowM w.heap.size w' (.slice (some ⟨g, 0, none⟩) n cap) xs ∧ Below w.heap.size w w' := by
  obtain ⟨h1, h2, h3, h4, h5, h6, h7, h8⟩ := cls_spec h
  refine (sTo_any a b c d (decide (0 < dsc a b c d)) _ _ (nfm a b c d) (Rd.ub_fl h1 h2 h5) (fun u _ hd => cls_sign h h1 h2 u hd) (cls_first h) h8 w).mono ?_
  rintro e w' ⟨g, n, cap, xs, rfl, ha, hp, hr, hb⟩
  exact ⟨g, n, cap, xs, rfl, ha, hp.trans (Rd.wys_fl h1 h2 _ _ _), hr, hb⟩
theorem asc_head {L xs : List Red.F4} (hn : L ≠ []) (ha : Rd.Asc xs) (hp : xs.Perm L) : xs[0]? = some (Rd.mn L) := by
  cases xs with
  | nil => exact (hn (List.Perm.nil_eq hp).symm).elim
  | cons x r =>
    have hx : x ∈ L := hp.mem_iff.1 List.mem_cons_self
    rw [Rd.mn_eq hn hx]
    · rfl
    · intro y hy
      rcases List.mem_cons.1 (hp.mem_iff.2 hy) with e | hy'
      · rw [e]; exact Rd.Ls.irrefl _
      · unfold Rd.Asc at ha
        exact (List.pairwise_cons.1 ha).1 y hy'
noncomputable def rmc (a b c d : Int) : Int := if rcd a b c d = 0 then (if isF (rdm a b c d).1 (rdm a b c d).2.1 (rdm a b c d).2.2.1 (rdm a b c d).2.2.2 then 0 else 3) else rcd a b c d
noncomputable def rmv (a b c d : Int) (f : Red.F4 → Int) : Int := if rmc a b c d = 0 then f (rdm a b c d) else 0
def RmOut (a b c d : Int) (w : World) (e : Ending) (w' : World) : Prop := e = .returned (.tuple #[.agg #[.int .i64 (rmv a b c d (·.1)), .int .i64 (rmv a b c d (·.2.1)), .int .i64 (rmv a b c d (·.2.2.1)), .int .i64 (rmv a b c d (·.2.2.2))], .int .i64 (rmc a b c d)]) ∧ Below w.heap.size w w'

end Go.Proofs.Ytikmjefbjejbkaa
