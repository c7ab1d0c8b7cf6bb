/- Chapter 10: orders, third roots, root forms. Mathematics alone. -/
import Derived.Test.YtehbkmohfipmgaaBtTm
import Derived.Test.YtehbkmohfipmgaaBtWg
namespace Go.Proofs.Ytehbkmohfipmgaa
open Go.RowKit

theorem it_cp {D : Int} {x u : Qd} (hx : El D x) (hu : El D u) : ∀ j, it (fun y => cp y u) (j + 1) x = cp x (pw u j) := by
  intro j
  induction j with
  | zero => rfl
  | succ j ih =>
    show cp (it (fun y => cp y u) (j + 1) x) u = _
    rw [ih, El.assoc hx (hu.pw j) hu]
    rfl
theorem od_dvd {D : Int} {u : Qd} (hu : El D u) : (od D u + 1) ∣ (cls D).length := by
  obtain ⟨o1, o2, _⟩ := od_spec hu
  refine cyc (fun y => cp y u) (od D u + 1) (by omega) _ (cls D) rfl (cls_nd hu.ng) ?_ ?_ ?_
  · intro x hx
    exact cls_all ((cls_el hu.ng x hx).comp hu).1
  · intro x hx
    have h := cls_el hu.ng x hx
    rw [it_cp h hu, o1]
    exact h.cp_un
  · intro x hx j h1 h2 e
    have h := cls_el hu.ng x hx
    obtain ⟨l, rfl⟩ : ∃ l, j = l + 1 := ⟨j - 1, by omega⟩
    rw [it_cp h hu, El.comm h (hu.pw l)] at e
    refine o2 l (by omega) (El.cancel (hu.pw l) (un_el' hu) h ?_)
    rw [e, un_cp h]
theorem od_thr {D : Int} {c : Qd} (hc : El D c) (h : cp c (cp c c) = un D) : od D c = 0 ∨ od D c = 2 := by
  obtain ⟨o1, o2, _⟩ := od_spec hc
  have h2 : pw c 2 = un D := by
    show cp (cp c c) c = un D
    rw [El.comm (hc.comp hc).1 hc]
    exact h
  rcases Nat.lt_or_ge 2 (od D c) with h3 | h3
  · exact absurd h2 (o2 2 h3)
  · by_cases h1 : od D c = 1
    · exfalso
      rw [h1] at o1 o2
      have e1 : cp c c = un D := o1
      rw [e1, hc.cp_un] at h
      exact o2 0 (by omega) h
    · omega
theorem thr_mem {D : Int} (hD : D < 0) {c : Qd} : c ∈ thr D ↔ El D c ∧ cp c (cp c c) = un D := by
  unfold thr
  simp only [List.mem_filter, tri3, decide_eq_true_eq]
  exact ⟨fun h => ⟨cls_el hD c h.1, h.2⟩, fun h => ⟨cls_all h.1, h.2⟩⟩
theorem thr_odd {D : Int} (hD : D < 0) (h4 : D % 4 < 2) : (thr D).length % 2 = 1 := by
  have hu := un_el hD h4
  have hum : un D ∈ thr D := (thr_mem hD).2 ⟨hu, by rw [un_cp hu, un_cp hu]⟩
  have hnd : (thr D).Nodup := by
    unfold thr
    exact (cls_nd hD).filter _
  have hl := List.length_erase_of_mem hum
  have hpos := List.length_pos_of_mem hum
  have key : ∀ c, El D c → cp c (cp c c) = un D → cp (cp c c) (cp c c) = c := fun c hc h => by
    rw [El.assoc hc hc (hc.comp hc).1, h]
    exact hc.cp_un
  have hdv : 2 ∣ ((thr D).erase (un D)).length := by
    refine cyc (fun y => cp y y) 2 (by omega) _ ((thr D).erase (un D)) rfl (hnd.erase _) ?_ ?_ ?_
    · intro c hc
      obtain ⟨h1, h2⟩ := hnd.mem_erase_iff.1 hc
      obtain ⟨h3, h5⟩ := (thr_mem hD).1 h2
      have h6 := key c h3 h5
      have h7 := (h3.comp h3).1
      refine hnd.mem_erase_iff.2 ⟨fun e => h1 ?_, (thr_mem hD).2 ⟨h7, ?_⟩⟩
      · show c = un D
        have e : cp c c = un D := e
        rw [e, un_cp hu] at h6
        exact h6.symm
      · show cp (cp c c) (cp (cp c c) (cp c c)) = un D
        rw [h6, El.comm h7 h3]
        exact h5
    · intro c hc
      obtain ⟨_, h2⟩ := hnd.mem_erase_iff.1 hc
      obtain ⟨h3, h5⟩ := (thr_mem hD).1 h2
      exact key c h3 h5
    · intro c hc j h1 h2 e
      obtain ⟨h6, h2⟩ := hnd.mem_erase_iff.1 hc
      obtain ⟨h3, h5⟩ := (thr_mem hD).1 h2
      have ej : j = 1 := by omega
      subst ej
      have e : cp c c = c := e
      exact h6 (El.cancel h3 hu h3 (by rw [e, un_cp h3]))
  omega
theorem Eqv.cnj {t u : Qd} (h : Eqv t u) : Eqv (cnj t) (cnj u) := by
  obtain ⟨a, b, c, d, hd, rfl⟩ := h
  obtain ⟨p, q, r⟩ := t
  refine ⟨a, -b, -c, d, by grind, ?_⟩
  simp only [Go.Proofs.Ytehbkmohfipmgaa.cnj, chg, Prod.mk.injEq]
  refine ⟨by grind, by grind, by grind⟩
theorem cmp_root (a e g d : Int) : Cmp (rt1 a e g, rt2 a e g d, rt3 e g d) (rt1 a e g, rt2 a e g d, rt3 e g d) (cnj (rt1 a e g, rt2 a e g d, rt3 e g d)) :=
  ⟨e, g, g, d, a, e, e, g, ⟨by simp only [rt1]; grind, by simp only [rt2]; grind, by simp only [rt3]; grind⟩, ⟨by simp only [rt1]; grind, by simp only [rt2]; grind, by simp only [rt3]; grind⟩, ⟨by simp only [cnj, rt1]; try grind, by simp only [cnj, rt2]; try grind, by simp only [cnj, rt3]; try grind⟩⟩
theorem root_cube {D : Int} {q u : Qd} (hu : El D u) (he : Eqv q u) (hq : Cmp q q (cnj q)) : cp u (cp u u) = un D := by
  have h1 := eqv_cp hu hu ((hq.left he).right he)
  have hv := (hu.comp hu).1
  have hun := un_el' hu
  obtain ⟨_, _, f, h2, h3⟩ := hun.comp hu
  rw [un_cp hu] at h3
  have h4 := (h2.back).left h3
  have h5 := h4.right ((he.cnj.symm).trans h1)
  have h6 := eqv_cp hu hv h5
  exact ((hun.rd).uniq (hu.comp hv).1.rd h6).symm
/-- The discriminant of a form in threes. -/
theorem dsc_root (a e g d : Int) : dsq (rt1 a e g, rt2 a e g d, rt3 e g d) * (-27) = (3 * e) * (3 * e) * (3 * g) * (3 * g) - 4 * a * (3 * g) * (3 * g) * (3 * g) - 4 * (3 * e) * (3 * e) * (3 * e) * d - 27 * a * a * d * d + 18 * a * (3 * e) * (3 * g) * d := by
  simp only [dsq, rt1, rt2, rt3]; grind

end Go.Proofs.Ytehbkmohfipmgaa
