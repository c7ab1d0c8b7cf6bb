/- The ways of a reduction as whole matrices; the matrices between two forms. Mathematics alone. -/
import Derived.Test.YtikmjefbjejbkaaBbZ24
import Derived.Test.YtikmjefbjejbkaaBbQd
import Derived.Test.YtikmjefbjejbkaaBbQb
import Derived.Test.YtikmjefbjejbkaaBbZ4
namespace Go.Proofs.Ytikmjefbjejbkaa
open Go.RowKit
namespace Rd
/-- A matrix as the machine holds it. -/
def wrF (u : Red.F4) : Red.F4 := (wrap64 u.1, wrap64 u.2.1, wrap64 u.2.2.1, wrap64 u.2.2.2)
theorem mm_wr (x y : Red.F4) : mm x y = wrF (mz x y) := by unfold mm wrF mz; simp only [wmp]
theorem wr2_l (x p y r : Int) : wrap64 (wrap64 x * p + wrap64 y * r) = wrap64 (x * p + y * r) := by
  rw [← wmp, ← wmp]; unfold mp pl mu; simp only [wr_ml]
theorem wr2_r (x p y r : Int) : wrap64 (x * wrap64 p + y * wrap64 r) = wrap64 (x * p + y * r) := by
  rw [← wmp, ← wmp]; unfold mp pl mu; simp only [wr_mr]
theorem wrF_l (x y : Red.F4) : wrF (mz (wrF x) y) = wrF (mz x y) := by
  unfold wrF mz; dsimp only
  rw [wr2_l, wr2_l, wr2_l, wr2_l]
theorem wrF_r (x y : Red.F4) : wrF (mz x (wrF y)) = wrF (mz x y) := by
  unfold wrF mz; dsimp only
  rw [wr2_r, wr2_r, wr2_r, wr2_r]
theorem stp_ch {s : Bool} (t : Red.F4) : Red.stp s t = ch t (sm s t) := by
  obtain ⟨a, b, c, d⟩ := t
  unfold Red.stp sm ch
  dsimp only
  unfold Red.fA Red.fB Red.fv
  (repeat' split) <;> refine Prod.ext ?_ (Prod.ext ?_ (Prod.ext ?_ ?_)) <;> dsimp only <;> grind
theorem sm_dt (s : Bool) (t : Red.F4) : dt (sm s t) * dt (sm s t) = 1 := by
  unfold sm
  (repeat' split) <;> decide
theorem run_ex (s : Bool) (f : Red.F4) : ∀ (n : Nat) (t x : Red.F4), ch f x = t → dt x * dt x = 1 → ∃ y, dt y * dt y = 1 ∧ ch f y = (run s n t (wrF x)).1 ∧ (run s n t (wrF x)).2 = wrF y := by
  intro n
  induction n with
  | zero => intro t x h hd; exact ⟨x, hd, h, rfl⟩
  | succ n ih =>
    intro t x h hd
    rw [run]
    split
    · exact ⟨x, hd, h, rfl⟩
    · have e : mm (wrF x) (sm s t) = wrF (mz x (sm s t)) := by rw [mm_wr, wrF_l]
      rw [e]
      exact ih _ _ (by rw [← ch_ch, h, stp_ch]) (dt2_mz hd (sm_dt s t))
theorem ivz_rev {u v : Red.F4} (hu : dt u * dt u = 1) (hv : dt v * dt v = 1) : ivz (mz u v) = mz (ivz v) (ivz u) := by
  have h1 : mz (mz u v) (mz (ivz v) (ivz u)) = (1, 0, 0, 1) := by rw [mz_assoc, ← mz_assoc v, mz_ivz hv, one_mz, mz_ivz hu]
  have h2 := ivz_mz (dt2_mz hu hv)
  calc ivz (mz u v) = mz (ivz (mz u v)) (mz (mz u v) (mz (ivz v) (ivz u))) := by rw [h1, mz_one]
    _ = mz (ivz v) (ivz u) := by rw [← mz_assoc, h2, one_mz]
/-- The products of ways to N, and of one way back: the same ones, whatever the way back. -/
theorem back_perm {s : Bool} {T T0 N y y0 u0 u1 : Red.F4} (hs : Sgn s T) (hT : Red.rdF s T = true) (hN : Red.rdF s N = true) (h0 : u0 ∈ wus T0 N) (h1 : u1 ∈ wus T0 N) (hy0 : dt y0 * dt y0 = 1) :
    ((wus T N).map fun u => wrF (mz (mz y u) (ivz (mz y0 u1)))).Perm ((wus T N).map fun u => wrF (mz (mz y u) (ivz (mz y0 u0)))) := by
  obtain ⟨_, k2, k3⟩ := wus_iff.1 h0
  obtain ⟨_, g2, g3⟩ := wus_iff.1 h1
  have ha : ch N (mz (ivz u1) u0) = N := by rw [← g3, ch_ch, ← mz_assoc, mz_ivz g2, one_mz, k3, g3]
  have hp := (wus_shift hs hT hN (dt2_mz (dt2_ivz g2) k2) ha).map fun u => wrF (mz (mz y u) (ivz (mz y0 u0)))
  rw [List.map_map] at hp
  refine List.Perm.trans (List.Perm.of_eq (List.map_congr_left fun u _ => ?_)) hp
  show wrF (mz (mz y u) (ivz (mz y0 u1))) = wrF (mz (mz y (mz u (mz (ivz u1) u0))) (ivz (mz y0 u0)))
  rw [ivz_rev hy0 g2, ivz_rev hy0 k2]
  congr 1
  have e : mz u0 (mz (ivz u0) (ivz y0)) = ivz y0 := by rw [← mz_assoc, mz_ivz k2, one_mz]
  rw [mz_assoc, mz_assoc, mz_assoc, mz_assoc, e]
end Rd
/-- What is known of the whole way. -/
def ClsY (a b c d : Int) (y : Red.F4) : Prop := Rd.dt y * Rd.dt y = 1 ∧ Rd.ch (a, b, c, d) y = (cls a b c d).1 ∧ (cls a b c d).2.1 = Rd.wrF y
noncomputable def cly (a b c d : Int) : Red.F4 := Classical.epsilon (ClsY a b c d)
theorem cly_spec {a b c d : Int} (h : rcd a b c d = 0) : ClsY a b c d (cly a b c d) := by
  obtain ⟨n, hn⟩ := (cls_both h).2
  have h1 : Rd.wrF (1, 0, 0, 1) = (1, 0, 0, 1) := by simp [Rd.wrF, wrap64]
  obtain ⟨y, k1, k2, k3⟩ := Rd.run_ex (decide (0 < dsc a b c d)) (a, b, c, d) n (a, b, c, d) (1, 0, 0, 1) (Rd.ch_one _) (by decide)
  rw [h1, hn] at k2 k3
  exact Classical.epsilon_spec (p := ClsY a b c d) ⟨y, k1, k2, k3⟩
theorem nwy_wus (a b c d : Int) : nwy a b c d = (Rd.wus (cls a b c d).1 (nfm a b c d)).map (Rd.mm (cls a b c d).2.1) := rfl
theorem way_ex {a b c d : Int} (h : rcd a b c d = 0) {v : Red.F4} (hv : v ∈ nwy a b c d) : ∃ u ∈ Rd.wus (cls a b c d).1 (nfm a b c d), v = Rd.wrF (Rd.mz (cly a b c d) u) := by
  rw [nwy_wus] at hv
  obtain ⟨u, hu, rfl⟩ := List.mem_map.1 hv
  obtain ⟨_, _, h3⟩ := cly_spec h
  exact ⟨u, hu, by rw [h3, Rd.mm_wr, Rd.wrF_l]⟩
theorem cls_sgn {a b c d : Int} (h : rcd a b c d = 0) : Rd.Sgn (decide (0 < dsc a b c d)) (cls a b c d).1 := by
  obtain ⟨_, hr, hd⟩ := rcd_0 h
  obtain ⟨ha, hb, hc, hd'⟩ := isR_t hr
  obtain ⟨_, _, _, _, _, h6, _⟩ := cls_spec h
  have hw : dsc a b c d = Red.dsc a b c d := by rw [dsc_wrR]; exact wr_in (dsc_in ha hb hc hd')
  unfold Rd.Sgn
  rw [h6, ← hw]
  constructor
  · intro e; exact of_decide_eq_true e
  · intro e
    have := of_decide_eq_false e
    omega
theorem nfm_rd {a b c d : Int} (h : rcd a b c d = 0) : Red.rdF (decide (0 < dsc a b c d)) (nfm a b c d) = true ∧ ∃ u, u ∈ Rd.wus (cls a b c d).1 (nfm a b c d) := by
  obtain ⟨_, _, h3, _⟩ := cls_spec h
  have hne := nwy_ne h
  rw [nwy_wus] at hne
  obtain ⟨u, hu⟩ := List.exists_mem_of_ne_nil _ (fun e => hne (by rw [e]; rfl) : Rd.wus (cls a b c d).1 (nfm a b c d) ≠ [])
  refine ⟨?_, u, hu⟩
  have hke : ((Rd.uni 81).filter fun u => Red.rdF (decide (0 < dsc a b c d)) (Rd.ch (cls a b c d).1 u)).map (Rd.ch (cls a b c d).1) ≠ [] := fun e => by
    have := Rd.nrm_has h3
    rw [e] at this; cases this
  have hm := (Rd.mn_mem hke).1
  obtain ⟨v, hv, e⟩ := List.mem_map.1 hm
  have e2 : Rd.ch (cls a b c d).1 v = nfm a b c d := e
  rw [← e2]
  exact (List.mem_filter.1 hv).2
/-- The matrices between two forms, by one way back. -/
noncomputable def bt0 (f g : Red.F4) (u0 : Red.F4) : List Red.F4 := (Rd.wus (cls f.1 f.2.1 f.2.2.1 f.2.2.2).1 (nfm f.1 f.2.1 f.2.2.1 f.2.2.2)).map fun u => Rd.wrF (Rd.mz (Rd.mz (cly f.1 f.2.1 f.2.2.1 f.2.2.2) u) (Rd.ivz (Rd.mz (cly g.1 g.2.1 g.2.2.1 g.2.2.2) u0)))
/-- What the answer is: in order; none where the normal forms differ. -/
def Btw (f g : Red.F4) (xs : List Red.F4) : Prop := Rd.Asc xs ∧ (nfm f.1 f.2.1 f.2.2.1 f.2.2.2 = nfm g.1 g.2.1 g.2.2.1 g.2.2.2 → ∃ u0 ∈ Rd.wus (cls g.1 g.2.1 g.2.2.1 g.2.2.2).1 (nfm g.1 g.2.1 g.2.2.1 g.2.2.2), xs.Perm (bt0 f g u0)) ∧ (nfm f.1 f.2.1 f.2.2.1 f.2.2.2 ≠ nfm g.1 g.2.1 g.2.2.1 g.2.2.2 → xs = [])
noncomputable def mbt (f g : Red.F4) : List Red.F4 := Classical.epsilon (Btw f g)
theorem btw_eq {a b c d p q r s : Int} (hf : rcd a b c d = 0) (hg : rcd p q r s = 0) {xs : List Red.F4} (h : Btw (a, b, c, d) (p, q, r, s) xs) : xs = mbt (a, b, c, d) (p, q, r, s) := by
  have h2 : Btw (a, b, c, d) (p, q, r, s) (mbt (a, b, c, d) (p, q, r, s)) := Classical.epsilon_spec (p := Btw (a, b, c, d) (p, q, r, s)) ⟨xs, h⟩
  by_cases e : nfm a b c d = nfm p q r s
  · obtain ⟨u0, k0, k1⟩ := h.2.1 e
    obtain ⟨u1, g0, g1⟩ := h2.2.1 e
    have hN := (nfm_rd hf).1
    obtain ⟨_, _, h3, _⟩ := cls_spec hf
    dsimp only at k0 g0
    rw [← e] at k0 g0
    have hb : (bt0 (a, b, c, d) (p, q, r, s) u1).Perm (bt0 (a, b, c, d) (p, q, r, s) u0) := Rd.back_perm (cls_sgn hf) h3 hN k0 g0 (cly_spec hg).1
    exact Rd.Asc.eq h.1 h2.1 (k1.trans (hb.symm.trans g1.symm))
  · rw [h.2.2 e, h2.2.2 e]
/-- How many. -/
theorem wus_len (T N : Red.F4) : (Rd.wus T N).length ≤ 81 := Nat.le_trans (List.length_filter_le _ _) (Rd.uni_len 81)
/-- The products of all ways, and one back. -/
theorem btw_of {a b c d p q r s : Int} (hf : rcd a b c d = 0) (_ : rcd p q r s = 0) (e : nfm a b c d = nfm p q r s) {u0 : Red.F4} (h0 : u0 ∈ Rd.wus (cls p q r s).1 (nfm p q r s)) {xs : List Red.F4} (ha : Rd.Asc xs)
    (hp : xs.Perm ((nwy a b c d).map fun v => Rd.mm v (Rd.wrF (Rd.ivz (Rd.mz (cly p q r s) u0))))) : Btw (a, b, c, d) (p, q, r, s) xs := by
  refine ⟨ha, fun _ => ⟨u0, h0, hp.trans (List.Perm.of_eq ?_)⟩, fun n => (n e).elim⟩
  rw [nwy_wus, List.map_map]
  unfold bt0
  refine List.map_congr_left fun u _ => ?_
  obtain ⟨_, _, h3⟩ := cly_spec hf
  show Rd.mm (Rd.mm (cls a b c d).2.1 u) _ = _
  rw [h3, Rd.mm_wr, Rd.mm_wr, Rd.wrF_l, Rd.wrF_r, Rd.mz_assoc, Rd.wrF_l, ← Rd.mz_assoc]
theorem Rd.asc_ex : ∀ L : List Red.F4, ∃ ys, Rd.Asc ys ∧ ys.Perm L := by
  have ins : ∀ (m : Red.F4) (L : List Red.F4), Rd.Asc L → ∃ ys, Rd.Asc ys ∧ ys.Perm (m :: L) := by
    intro m L
    induction L with
    | nil => intro _; exact ⟨[m], List.pairwise_singleton _ _, List.Perm.refl _⟩
    | cons x r ih =>
      intro h
      obtain ⟨h1, h2⟩ := List.pairwise_cons.1 h
      by_cases hx : Rd.Ls x m
      · obtain ⟨ys, k1, k2⟩ := ih h2
        refine ⟨x :: ys, List.pairwise_cons.2 ⟨fun y hy => ?_, k1⟩, (k2.cons x).trans (List.Perm.swap m x r)⟩
        rcases List.mem_cons.1 (k2.mem_iff.1 hy) with e | hy'
        · rw [e]; exact hx.asymm
        · exact h1 y hy'
      · refine ⟨m :: x :: r, List.pairwise_cons.2 ⟨fun y hy => ?_, h⟩, List.Perm.refl _⟩
        rcases List.mem_cons.1 hy with e | hy'
        · rw [e]; exact hx
        · intro hym
          by_cases hxy : Rd.Ls x y
          · exact hx (hxy.trans hym)
          · exact hx (Rd.Ls.total hxy (h1 y hy') ▸ hym)
  intro L
  induction L with
  | nil => exact ⟨[], List.Pairwise.nil, List.Perm.refl _⟩
  | cons x r ih =>
    obtain ⟨ys, h1, h2⟩ := ih
    obtain ⟨zs, k1, k2⟩ := ins x ys h1
    exact ⟨zs, k1, k2.trans (h2.cons x)⟩
theorem mbt_perm {a b c d p q r s : Int} (hf : rcd a b c d = 0) (hg : rcd p q r s = 0) (e : nfm a b c d = nfm p q r s) {u0 : Red.F4} (h0 : u0 ∈ Rd.wus (cls p q r s).1 (nfm p q r s)) :
    (mbt (a, b, c, d) (p, q, r, s)).Perm ((nwy a b c d).map fun v => Rd.mm v (Rd.wrF (Rd.ivz (Rd.mz (cly p q r s) u0)))) := by
  obtain ⟨ys, h1, h2⟩ := Rd.asc_ex ((nwy a b c d).map fun v => Rd.mm v (Rd.wrF (Rd.ivz (Rd.mz (cly p q r s) u0))))
  rw [← btw_eq hf hg (btw_of hf hg e h0 h1 h2)]
  exact h2
theorem mbt_nil {a b c d p q r s : Int} (hf : rcd a b c d = 0) (hg : rcd p q r s = 0) (e : nfm a b c d ≠ nfm p q r s) : mbt (a, b, c, d) (p, q, r, s) = [] :=
  (btw_eq hf hg ⟨List.Pairwise.nil, fun h => (e h).elim, fun _ => rfl⟩).symm
/-- The code of MatricesBetween. -/
def alM (L : List Red.F4) : Bool := L.all fun q => isF q.1 q.2.1 q.2.2.1 q.2.2.2
theorem alM_perm {L M : List Red.F4} (h : L.Perm M) : alM L = alM M := by
  unfold alM
  rw [Bool.eq_iff_iff, List.all_eq_true, List.all_eq_true]
  exact ⟨fun k x hx => k x (h.mem_iff.2 hx), fun k x hx => k x (h.mem_iff.1 hx)⟩
noncomputable def mbc (a b c d p q r s : Int) : Int := if rcd2 a b c d p q r s = 0 then (if alM (mbt (a, b, c, d) (p, q, r, s)) then 0 else 3) else rcd2 a b c d p q r s
def MbOut (a b c d p q r s : Int) (w : World) (e : Ending) (w' : World) : Prop := FlsOut (mbc a b c d p q r s) (mbt (a, b, c, d) (p, q, r, s)).length (fun i => ((mbt (a, b, c, d) (p, q, r, s)).flatMap gm4).getD i 0) w e w'
theorem mbt_le (a b c d p q r s : Int) : (if mbc a b c d p q r s = 0 then (mbt (a, b, c, d) (p, q, r, s)).length else 0) ≤ 1000 := by
  split
  · rename_i h
    have h0 : rcd2 a b c d p q r s = 0 := by
      unfold mbc at h
      by_cases k : rcd2 a b c d p q r s = 0
      · exact k
      · rw [if_neg k] at h; exact h
    obtain ⟨hf, hg⟩ := rcd2_0 h0
    by_cases e : nfm a b c d = nfm p q r s
    · obtain ⟨_, u0, hu0⟩ := nfm_rd hg
      rw [(mbt_perm hf hg e hu0).length_eq, List.length_map]
      have := nwy_len a b c d
      omega
    · rw [mbt_nil hf hg e]; simp
  · omega

end Go.Proofs.Ytikmjefbjejbkaa
