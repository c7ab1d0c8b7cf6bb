/- Several texts in one: XRd4, XRd5. -/
import Derived.Test.YtikmjefbjejbkaaBbZ12

/- Reduction: program and model go the same way, up to signs. Mathematics. -/
namespace Go.Proofs.Ytikmjefbjejbkaa
open Go.RowKit
namespace Rd
def fl (α β : Int) (t : Red.F4) : Red.F4 := (α * t.1, β * t.2.1, α * t.2.2.1, β * t.2.2.2)
def wf (α β : Int) (t : Red.F4) : Red.F4 := (wrap64 (α * t.1), wrap64 (β * t.2.1), wrap64 (α * t.2.2.1), wrap64 (β * t.2.2.2))
def Sg (α : Int) : Prop := α = 1 ∨ α = -1
theorem wmp (a p b r : Int) : mp a p b r = wrap64 (a * p + b * r) := by unfold mp pl mu; simp only [wr_al, wr_ar]
theorem wmp2 (α β x y p r : Int) : mp (wrap64 (α * x)) p (wrap64 (β * y)) r = wrap64 (α * x * p + β * y * r) := by unfold mp pl mu; simp only [wr_al, wr_ar, wr_ml]
theorem wgm (γ x p y r : Int) : wrap64 (γ * mp x p y r) = wrap64 (γ * (x * p + y * r)) := by rw [wmp, wr_mr]
theorem lf_fl {α β : Int} (hα : Sg α) (hβ : Sg β) (s : Bool) (a b c d : Int) :
    Red.lf s (α * a) (β * b) (α * c) (β * d) = (if α = β then Red.lf s a b c d else Red.rt s a b c d) ∧ Red.rt s (α * a) (β * b) (α * c) (β * d) = (if α = β then Red.rt s a b c d else Red.lf s a b c d) ∧ Red.hg s (α * a) (β * b) (α * c) (β * d) = Red.hg s a b c d := by
  unfold Red.lf Red.rt Red.hg
  rcases hα with rfl | rfl <;> rcases hβ with rfl | rfl <;> cases s <;> simp <;> refine ⟨?_, ?_, ?_⟩ <;> grind
theorem dsc_fl {α β : Int} (hα : Sg α) (hβ : Sg β) (a b c d : Int) : Red.dsc (α * a) (β * b) (α * c) (β * d) = Red.dsc a b c d := by
  unfold Red.dsc
  rcases hα with rfl | rfl <;> rcases hβ with rfl | rfl <;> grind
theorem dsc_stp (s : Bool) (a b c d : Int) : Red.dsc (Red.stp s (a, b, c, d)).1 (Red.stp s (a, b, c, d)).2.1 (Red.stp s (a, b, c, d)).2.2.1 (Red.stp s (a, b, c, d)).2.2.2 = Red.dsc a b c d := by
  unfold Red.stp
  dsimp only
  split
  · have := Red.dsc_T a b c d (-1)
    have e1 : d - c + b - a = d + c*(-1) + b*(-1)*(-1) + a*(-1)*(-1)*(-1) := by grind
    have e2 : c - 2*b + 3*a = c + 2*b*(-1) + 3*a*(-1)*(-1) := by grind
    have e3 : b - 3*a = b + 3*a*(-1) := by grind
    dsimp only
    rw [e1, e2, e3]; exact this
  · split
    · have := Red.dsc_T a b c d 1
      have e1 : d + c + b + a = d + c*1 + b*1*1 + a*1*1*1 := by grind
      have e2 : c + 2*b + 3*a = c + 2*b*1 + 3*a*1*1 := by grind
      have e3 : b + 3*a = b + 3*a*1 := by grind
      dsimp only
      rw [e1, e2, e3]; exact this
    · unfold Red.dsc; grind
theorem Bd_fl {α β : Int} (hα : Sg α) (hβ : Sg β) {a b c d : Int} (h : Red.Bd (a, b, c, d)) : Red.Bd (fl α β (a, b, c, d)) := by
  obtain ⟨h1, h2, h3, h4⟩ := h
  dsimp only at h1 h2 h3 h4
  unfold Red.Bd fl
  dsimp only
  rcases hα with rfl | rfl <;> rcases hβ with rfl | rfl <;> refine ⟨?_, ?_, ?_, ?_⟩ <;> omega
/-- One step: the model's beside the program's. -/
theorem one {α β : Int} (hα : Sg α) (hβ : Sg β) (s : Bool) (a b c d : Int) (hk : Red.Ok s (a, b, c, d)) :
    Red.Ok s (fl α β (a, b, c, d)) ∧ (Red.rdF s (a, b, c, d) = true → sd s (fl α β (a, b, c, d)) = 0) ∧
    (Red.rdF s (a, b, c, d) = false → sd s (fl α β (a, b, c, d)) ≠ 0 ∧ ∃ α' β', Sg α' ∧ Sg β' ∧ stp2 s (fl α β (a, b, c, d)) = fl α' β' (Red.stp s (a, b, c, d)) ∧ ∀ m : Red.F4, mm (wf α β m) (sm2 s (fl α β (a, b, c, d))) = wf α' β' (mm m (sm s (a, b, c, d)))) := by
  obtain ⟨hB, hnb⟩ := hk
  dsimp only at hnb
  obtain ⟨e1, e2, e3⟩ := lf_fl hα hβ s a b c d
  have hrd : Red.rdF s (a, b, c, d) = (decide (0 ≤ Red.lf s a b c d) && decide (0 ≤ Red.rt s a b c d) && decide (0 ≤ Red.hg s a b c d)) := rfl
  have hsd : sd s (fl α β (a, b, c, d)) = if Red.rt s (α * a) (β * b) (α * c) (β * d) < 0 then 1 else if Red.lf s (α * a) (β * b) (α * c) (β * d) < 0 then -1 else if Red.hg s (α * a) (β * b) (α * c) (β * d) < 0 then 2 else 0 := rfl
  have hst : Red.stp s (a, b, c, d) = if Red.lf s a b c d < 0 then (a, b - 3*a, c - 2*b + 3*a, d - c + b - a) else if Red.rt s a b c d < 0 then (a, b + 3*a, c + 2*b + 3*a, d + c + b + a) else (d, c, b, a) := rfl
  have hsm : sm s (a, b, c, d) = if Red.lf s a b c d < 0 then (1, -1, 0, 1) else if Red.rt s a b c d < 0 then (1, 1, 0, 1) else (0, 1, 1, 0) := rfl
  rw [e1, e2, e3] at hsd
  refine ⟨⟨Bd_fl hα hβ hB, ?_⟩, ?_, ?_⟩
  · show ¬ (Red.lf s (α * a) (β * b) (α * c) (β * d) < 0 ∧ Red.rt s (α * a) (β * b) (α * c) (β * d) < 0)
    rw [e1, e2]
    split <;> omega
  · intro h
    rw [hrd] at h
    simp only [Bool.and_eq_true, decide_eq_true_eq] at h
    rw [hsd]
    (repeat' split) <;> omega
  · intro h
    rw [hrd] at h
    simp only [Bool.and_eq_false_iff, decide_eq_false_iff_not] at h
    generalize Red.lf s a b c d = L at *
    generalize Red.rt s a b c d = R at *
    generalize Red.hg s a b c d = H at *
    have fin : ∀ (k : Int), sd s (fl α β (a, b, c, d)) = k → k ≠ 0 → (∃ α' β', Sg α' ∧ Sg β' ∧ stp2 s (fl α β (a, b, c, d)) = fl α' β' (Red.stp s (a, b, c, d)) ∧ ∀ m : Red.F4, mm (wf α β m) (sm2 s (fl α β (a, b, c, d))) = wf α' β' (mm m (sm s (a, b, c, d)))) → sd s (fl α β (a, b, c, d)) ≠ 0 ∧ ∃ α' β', Sg α' ∧ Sg β' ∧ stp2 s (fl α β (a, b, c, d)) = fl α' β' (Red.stp s (a, b, c, d)) ∧ ∀ m : Red.F4, mm (wf α β m) (sm2 s (fl α β (a, b, c, d))) = wf α' β' (mm m (sm s (a, b, c, d))) := fun k h1 h2 h3 => ⟨by rw [h1]; exact h2, h3⟩
    by_cases k1 : L < 0
    · rw [if_pos k1] at hst hsm
      rcases hα with rfl | rfl <;> rcases hβ with rfl | rfl
      · have hk : sd s (fl 1 1 (a, b, c, d)) = -1 := by rw [hsd]; rw [if_pos (rfl : (1 : Int) = 1), if_pos (rfl : (1 : Int) = 1)]; (repeat' split) <;> omega
        refine fin _ hk (by decide) ⟨1, 1, .inl rfl, .inl rfl, ?_, fun m => ?_⟩
        · unfold stp2; rw [hk, hst]; refine Prod.ext ?_ (Prod.ext ?_ (Prod.ext ?_ ?_)) <;> simp [fl] <;> omega
        · unfold sm2; rw [hk, hsm]; obtain ⟨x, y, z, t⟩ := m; refine Prod.ext ?_ (Prod.ext ?_ (Prod.ext ?_ ?_)) <;> simp only [mm, wf, wmp2, wgm] <;> (first | exact congrArg wrap64 (by simp <;> omega) | (simp [mm, wf, wmp2, wgm]; done) | (simp [mm, wf, wmp2, wgm]; congr 1; omega))
      · have hk : sd s (fl 1 (-1) (a, b, c, d)) = 1 := by rw [hsd]; rw [if_neg (show ¬ (1 : Int) = (-1) by decide), if_neg (show ¬ (1 : Int) = (-1) by decide)]; (repeat' split) <;> omega
        refine fin _ hk (by decide) ⟨1, (-1), .inl rfl, .inr rfl, ?_, fun m => ?_⟩
        · unfold stp2; rw [hk, hst]; refine Prod.ext ?_ (Prod.ext ?_ (Prod.ext ?_ ?_)) <;> simp [fl] <;> omega
        · unfold sm2; rw [hk, hsm]; obtain ⟨x, y, z, t⟩ := m; refine Prod.ext ?_ (Prod.ext ?_ (Prod.ext ?_ ?_)) <;> simp only [mm, wf, wmp2, wgm] <;> (first | exact congrArg wrap64 (by simp <;> omega) | (simp [mm, wf, wmp2, wgm]; done) | (simp [mm, wf, wmp2, wgm]; congr 1; omega))
      · have hk : sd s (fl (-1) 1 (a, b, c, d)) = 1 := by rw [hsd]; rw [if_neg (show ¬ ((-1) : Int) = 1 by decide), if_neg (show ¬ ((-1) : Int) = 1 by decide)]; (repeat' split) <;> omega
        refine fin _ hk (by decide) ⟨(-1), 1, .inr rfl, .inl rfl, ?_, fun m => ?_⟩
        · unfold stp2; rw [hk, hst]; refine Prod.ext ?_ (Prod.ext ?_ (Prod.ext ?_ ?_)) <;> simp [fl] <;> omega
        · unfold sm2; rw [hk, hsm]; obtain ⟨x, y, z, t⟩ := m; refine Prod.ext ?_ (Prod.ext ?_ (Prod.ext ?_ ?_)) <;> simp only [mm, wf, wmp2, wgm] <;> (first | exact congrArg wrap64 (by simp <;> omega) | (simp [mm, wf, wmp2, wgm]; done) | (simp [mm, wf, wmp2, wgm]; congr 1; omega))
      · have hk : sd s (fl (-1) (-1) (a, b, c, d)) = -1 := by rw [hsd]; rw [if_pos (rfl : ((-1) : Int) = (-1)), if_pos (rfl : ((-1) : Int) = (-1))]; (repeat' split) <;> omega
        refine fin _ hk (by decide) ⟨(-1), (-1), .inr rfl, .inr rfl, ?_, fun m => ?_⟩
        · unfold stp2; rw [hk, hst]; refine Prod.ext ?_ (Prod.ext ?_ (Prod.ext ?_ ?_)) <;> simp [fl] <;> omega
        · unfold sm2; rw [hk, hsm]; obtain ⟨x, y, z, t⟩ := m; refine Prod.ext ?_ (Prod.ext ?_ (Prod.ext ?_ ?_)) <;> simp only [mm, wf, wmp2, wgm] <;> (first | exact congrArg wrap64 (by simp <;> omega) | (simp [mm, wf, wmp2, wgm]; done) | (simp [mm, wf, wmp2, wgm]; congr 1; omega))
    · rw [if_neg k1] at hst hsm
      by_cases k2 : R < 0
      · rw [if_pos k2] at hst hsm
        rcases hα with rfl | rfl <;> rcases hβ with rfl | rfl
        · have hk : sd s (fl 1 1 (a, b, c, d)) = 1 := by rw [hsd]; rw [if_pos (rfl : (1 : Int) = 1), if_pos (rfl : (1 : Int) = 1)]; (repeat' split) <;> omega
          refine fin _ hk (by decide) ⟨1, 1, .inl rfl, .inl rfl, ?_, fun m => ?_⟩
          · unfold stp2; rw [hk, hst]; refine Prod.ext ?_ (Prod.ext ?_ (Prod.ext ?_ ?_)) <;> simp [fl] <;> omega
          · unfold sm2; rw [hk, hsm]; obtain ⟨x, y, z, t⟩ := m; refine Prod.ext ?_ (Prod.ext ?_ (Prod.ext ?_ ?_)) <;> simp only [mm, wf, wmp2, wgm] <;> (first | exact congrArg wrap64 (by simp <;> omega) | (simp [mm, wf, wmp2, wgm]; done) | (simp [mm, wf, wmp2, wgm]; congr 1; omega))
        · have hk : sd s (fl 1 (-1) (a, b, c, d)) = -1 := by rw [hsd]; rw [if_neg (show ¬ (1 : Int) = (-1) by decide), if_neg (show ¬ (1 : Int) = (-1) by decide)]; (repeat' split) <;> omega
          refine fin _ hk (by decide) ⟨1, (-1), .inl rfl, .inr rfl, ?_, fun m => ?_⟩
          · unfold stp2; rw [hk, hst]; refine Prod.ext ?_ (Prod.ext ?_ (Prod.ext ?_ ?_)) <;> simp [fl] <;> omega
          · unfold sm2; rw [hk, hsm]; obtain ⟨x, y, z, t⟩ := m; refine Prod.ext ?_ (Prod.ext ?_ (Prod.ext ?_ ?_)) <;> simp only [mm, wf, wmp2, wgm] <;> (first | exact congrArg wrap64 (by simp <;> omega) | (simp [mm, wf, wmp2, wgm]; done) | (simp [mm, wf, wmp2, wgm]; congr 1; omega))
        · have hk : sd s (fl (-1) 1 (a, b, c, d)) = -1 := by rw [hsd]; rw [if_neg (show ¬ ((-1) : Int) = 1 by decide), if_neg (show ¬ ((-1) : Int) = 1 by decide)]; (repeat' split) <;> omega
          refine fin _ hk (by decide) ⟨(-1), 1, .inr rfl, .inl rfl, ?_, fun m => ?_⟩
          · unfold stp2; rw [hk, hst]; refine Prod.ext ?_ (Prod.ext ?_ (Prod.ext ?_ ?_)) <;> simp [fl] <;> omega
          · unfold sm2; rw [hk, hsm]; obtain ⟨x, y, z, t⟩ := m; refine Prod.ext ?_ (Prod.ext ?_ (Prod.ext ?_ ?_)) <;> simp only [mm, wf, wmp2, wgm] <;> (first | exact congrArg wrap64 (by simp <;> omega) | (simp [mm, wf, wmp2, wgm]; done) | (simp [mm, wf, wmp2, wgm]; congr 1; omega))
        · have hk : sd s (fl (-1) (-1) (a, b, c, d)) = 1 := by rw [hsd]; rw [if_pos (rfl : ((-1) : Int) = (-1)), if_pos (rfl : ((-1) : Int) = (-1))]; (repeat' split) <;> omega
          refine fin _ hk (by decide) ⟨(-1), (-1), .inr rfl, .inr rfl, ?_, fun m => ?_⟩
          · unfold stp2; rw [hk, hst]; refine Prod.ext ?_ (Prod.ext ?_ (Prod.ext ?_ ?_)) <;> simp [fl] <;> omega
          · unfold sm2; rw [hk, hsm]; obtain ⟨x, y, z, t⟩ := m; refine Prod.ext ?_ (Prod.ext ?_ (Prod.ext ?_ ?_)) <;> simp only [mm, wf, wmp2, wgm] <;> (first | exact congrArg wrap64 (by simp <;> omega) | (simp [mm, wf, wmp2, wgm]; done) | (simp [mm, wf, wmp2, wgm]; congr 1; omega))
      · rw [if_neg k2] at hst hsm
        rcases hα with rfl | rfl <;> rcases hβ with rfl | rfl
        · have hk : sd s (fl 1 1 (a, b, c, d)) = 2 := by rw [hsd]; rw [if_pos (rfl : (1 : Int) = 1), if_pos (rfl : (1 : Int) = 1)]; (repeat' split) <;> omega
          refine fin _ hk (by decide) ⟨1, (-1), .inl rfl, .inr rfl, ?_, fun m => ?_⟩
          · unfold stp2; rw [hk, hst]; refine Prod.ext ?_ (Prod.ext ?_ (Prod.ext ?_ ?_)) <;> simp [fl] <;> omega
          · unfold sm2; rw [hk, hsm]; obtain ⟨x, y, z, t⟩ := m; refine Prod.ext ?_ (Prod.ext ?_ (Prod.ext ?_ ?_)) <;> simp only [mm, wf, wmp2, wgm] <;> (first | exact congrArg wrap64 (by simp <;> omega) | (simp [mm, wf, wmp2, wgm]; done) | (simp [mm, wf, wmp2, wgm]; congr 1; omega))
        · have hk : sd s (fl 1 (-1) (a, b, c, d)) = 2 := by rw [hsd]; rw [if_neg (show ¬ (1 : Int) = (-1) by decide), if_neg (show ¬ (1 : Int) = (-1) by decide)]; (repeat' split) <;> omega
          refine fin _ hk (by decide) ⟨(-1), (-1), .inr rfl, .inr rfl, ?_, fun m => ?_⟩
          · unfold stp2; rw [hk, hst]; refine Prod.ext ?_ (Prod.ext ?_ (Prod.ext ?_ ?_)) <;> simp [fl] <;> omega
          · unfold sm2; rw [hk, hsm]; obtain ⟨x, y, z, t⟩ := m; refine Prod.ext ?_ (Prod.ext ?_ (Prod.ext ?_ ?_)) <;> simp only [mm, wf, wmp2, wgm] <;> (first | exact congrArg wrap64 (by simp <;> omega) | (simp [mm, wf, wmp2, wgm]; done) | (simp [mm, wf, wmp2, wgm]; congr 1; omega))
        · have hk : sd s (fl (-1) 1 (a, b, c, d)) = 2 := by rw [hsd]; rw [if_neg (show ¬ ((-1) : Int) = 1 by decide), if_neg (show ¬ ((-1) : Int) = 1 by decide)]; (repeat' split) <;> omega
          refine fin _ hk (by decide) ⟨1, 1, .inl rfl, .inl rfl, ?_, fun m => ?_⟩
          · unfold stp2; rw [hk, hst]; refine Prod.ext ?_ (Prod.ext ?_ (Prod.ext ?_ ?_)) <;> simp [fl] <;> omega
          · unfold sm2; rw [hk, hsm]; obtain ⟨x, y, z, t⟩ := m; refine Prod.ext ?_ (Prod.ext ?_ (Prod.ext ?_ ?_)) <;> simp only [mm, wf, wmp2, wgm] <;> (first | exact congrArg wrap64 (by simp <;> omega) | (simp [mm, wf, wmp2, wgm]; done) | (simp [mm, wf, wmp2, wgm]; congr 1; omega))
        · have hk : sd s (fl (-1) (-1) (a, b, c, d)) = 2 := by rw [hsd]; rw [if_pos (rfl : ((-1) : Int) = (-1)), if_pos (rfl : ((-1) : Int) = (-1))]; (repeat' split) <;> omega
          refine fin _ hk (by decide) ⟨(-1), 1, .inr rfl, .inl rfl, ?_, fun m => ?_⟩
          · unfold stp2; rw [hk, hst]; refine Prod.ext ?_ (Prod.ext ?_ (Prod.ext ?_ ?_)) <;> simp [fl] <;> omega
          · unfold sm2; rw [hk, hsm]; obtain ⟨x, y, z, t⟩ := m; refine Prod.ext ?_ (Prod.ext ?_ (Prod.ext ?_ ?_)) <;> simp only [mm, wf, wmp2, wgm] <;> (first | exact congrArg wrap64 (by simp <;> omega) | (simp [mm, wf, wmp2, wgm]; done) | (simp [mm, wf, wmp2, wgm]; congr 1; omega))
end Rd

end Go.Proofs.Ytikmjefbjejbkaa

/- Reduction: what program and model hand back. -/
namespace Go.Proofs.Ytikmjefbjejbkaa
open Go.RowKit
namespace Rd
def dscF (t : Red.F4) : Int := Red.dsc t.1 t.2.1 t.2.2.1 t.2.2.2
theorem sim (s : Bool) (D : Int) : ∀ (n : Nat) (t m : Red.F4) (α β : Int), Sg α → Sg β → Red.En s n t → dscF t = D →
    En2 s D n (fl α β t) ∧ Red.rdF s (run s n t m).1 = true ∧ Red.Bd (run s n t m).1 ∧ dscF (run s n t m).1 = D ∧ ∃ α' β', Sg α' ∧ Sg β' ∧ run2 s n (fl α β t) (wf α β m) = (fl α' β' (run s n t m).1, wf α' β' (run s n t m).2) := by
  intro n
  induction n with
  | zero => intro t m α β _ _ h _; exact h.elim
  | succ n ih =>
    rintro ⟨a, b, c, d⟩ m α β hα hβ ⟨hk, hE⟩ hD
    obtain ⟨g1, g2, g3⟩ := one hα hβ s a b c d hk
    have hD2 : Red.dsc (fl α β (a, b, c, d)).1 (fl α β (a, b, c, d)).2.1 (fl α β (a, b, c, d)).2.2.1 (fl α β (a, b, c, d)).2.2.2 = D := (dsc_fl hα hβ a b c d).trans hD
    by_cases hr : Red.rdF s (a, b, c, d) = true
    · have e : run s (n + 1) (a, b, c, d) m = ((a, b, c, d), m) := by rw [run, if_pos hr]
      rw [e]
      refine ⟨⟨⟨g1, hD2⟩, .inl (g2 hr)⟩, hr, hk.1, hD, α, β, hα, hβ, ?_⟩
      rw [run2, if_pos (g2 hr)]
    · have hr' : Red.rdF s (a, b, c, d) = false := by simpa using hr
      obtain ⟨h0, α', β', hα', hβ', k1, k2⟩ := g3 hr'
      have e : run s (n + 1) (a, b, c, d) m = run s n (Red.stp s (a, b, c, d)) (mm m (sm s (a, b, c, d))) := by rw [run, if_neg hr]
      have e2 : run2 s (n + 1) (fl α β (a, b, c, d)) (wf α β m) = run2 s n (fl α' β' (Red.stp s (a, b, c, d))) (wf α' β' (mm m (sm s (a, b, c, d)))) := by rw [run2, if_neg h0, k1, k2]
      obtain ⟨i1, i2, i3, i4, i5⟩ := ih (Red.stp s (a, b, c, d)) (mm m (sm s (a, b, c, d))) α' β' hα' hβ' (hE.resolve_left hr) ((dsc_stp s a b c d).trans hD)
      rw [e, e2]
      exact ⟨⟨⟨g1, hD2⟩, .inr (by rw [k1]; exact i1)⟩, i2, i3, i4, i5⟩
theorem run_fin (s : Bool) : ∀ (n : Nat) (t m : Red.F4), (run s n t m).1 = Red.fin s n t := by
  intro n
  induction n with
  | zero => intro t m; rfl
  | succ n ih =>
    intro t m
    rw [run, Red.fin]
    split
    · rfl
    · exact ih _ _
end Rd
theorem dsc_wrR (a b c d : Int) : dsc a b c d = wrap64 (Red.dsc a b c d) := by
  unfold dsc pl mi mu Red.dsc
  simp only [wr_al, wr_ar, wr_sl, wr_sr, wr_ml]
theorem dsc_in {a b c d : Int} (ha : -100 ≤ a ∧ a ≤ 100) (hb : -100 ≤ b ∧ b ≤ 100) (hc : -100 ≤ c ∧ c ≤ 100) (hd : -100 ≤ d ∧ d ≤ 100) : -9000000000000000000 ≤ Red.dsc a b c d ∧ Red.dsc a b c d ≤ 9000000000000000000 := by
  have h1 := mulb (mulb (mulb hb hb) hc) hc
  have h2 := mulb (mulb (mulb (mulb (show -4 ≤ (4 : Int) ∧ (4 : Int) ≤ 4 by omega) ha) hc) hc) hc
  have h3 := mulb (mulb (mulb (mulb (show -4 ≤ (4 : Int) ∧ (4 : Int) ≤ 4 by omega) hb) hb) hb) hd
  have h4 := mulb (mulb (mulb (mulb (show -27 ≤ (27 : Int) ∧ (27 : Int) ≤ 27 by omega) ha) ha) hd) hd
  have h5 := mulb (mulb (mulb (mulb (show -18 ≤ (18 : Int) ∧ (18 : Int) ≤ 18 by omega) ha) hb) hc) hd
  simp only [Int.reduceMul] at h1 h2 h3 h4 h5
  unfold Red.dsc
  omega
theorem change_in {s : Bool} {x y z u : Int} (h0 : Rd.sd s (x, y, z, u) ≠ 0) (h : Red.Bd (x, y, z, u)) : (.agg #[.int .i64 (wrap64 (cA x y z u (Rd.sm2 s (x, y, z, u)).1 (Rd.sm2 s (x, y, z, u)).2.2.1)), .int .i64 (wrap64 (cB x y z u (Rd.sm2 s (x, y, z, u)).1 (Rd.sm2 s (x, y, z, u)).2.1 (Rd.sm2 s (x, y, z, u)).2.2.1 (Rd.sm2 s (x, y, z, u)).2.2.2)), .int .i64 (wrap64 (cC x y z u (Rd.sm2 s (x, y, z, u)).1 (Rd.sm2 s (x, y, z, u)).2.1 (Rd.sm2 s (x, y, z, u)).2.2.1 (Rd.sm2 s (x, y, z, u)).2.2.2)), .int .i64 (wrap64 (cA x y z u (Rd.sm2 s (x, y, z, u)).2.1 (Rd.sm2 s (x, y, z, u)).2.2.2))] : Value) = .agg #[.int .i64 ((Rd.stp2 s (x, y, z, u)).1), .int .i64 ((Rd.stp2 s (x, y, z, u)).2.1), .int .i64 ((Rd.stp2 s (x, y, z, u)).2.2.1), .int .i64 ((Rd.stp2 s (x, y, z, u)).2.2.2)] := by
  obtain ⟨h1, h2, h3, h4⟩ := h
  dsimp only at h1 h2 h3 h4
  have key : ∀ {a b c d p q r t : Int}, a = p → b = q → c = r → d = t → (-9000000000000000000 ≤ p ∧ p ≤ 9000000000000000000) → (-9000000000000000000 ≤ q ∧ q ≤ 9000000000000000000) → (-9000000000000000000 ≤ r ∧ r ≤ 9000000000000000000) → (-9000000000000000000 ≤ t ∧ t ≤ 9000000000000000000) → (.agg #[.int .i64 (wrap64 a), .int .i64 (wrap64 b), .int .i64 (wrap64 c), .int .i64 (wrap64 d)] : Value) = .agg #[.int .i64 p, .int .i64 q, .int .i64 r, .int .i64 t] := by
    intro a b c d p q r t e1 e2 e3 e4 k1 k2 k3 k4
    rw [e1, e2, e3, e4, wr_in k1, wr_in k2, wr_in k3, wr_in k4]
  rcases Rd.sd_one s (x, y, z, u) with hs | hs | hs | hs
  · exact absurd hs h0
  all_goals
    unfold Rd.sm2 Rd.stp2
    rw [hs]
    simp only [Int.reduceEq, Int.reduceNeg, if_true, if_false, reduceCtorEq]
    refine key ?_ ?_ ?_ ?_ ?_ ?_ ?_ ?_
    all_goals first | omega | (simp only [cA, cB, cC, vx]; grind)
/-- Both reduce: to one form, and by one way, up to signs. -/
theorem reduces (a b c d : Int) (hr : isR a b c d = true) (hd : dsc a b c d ≠ 0) : ∃ (T M : Red.F4) (α β : Int), Rd.Sg α ∧ Rd.Sg β ∧ Red.rdF (decide (0 < dsc a b c d)) T = true ∧ Red.Bd T ∧ Red.UB T ∧ Rd.dscF T = Red.dsc a b c d ∧
    (∀ w, Calls Try.prog 114 #[.agg #[.int .i64 a, .int .i64 b, .int .i64 c, .int .i64 d]] w fun e w' => e = .returned (.tuple #[vF T, vF M]) ∧ Below w.heap.size w w') ∧
    (∀ w, Calls Try.prog 70 #[.agg #[.int .i64 a, .int .i64 b, .int .i64 c, .int .i64 d]] w fun e w' => e = .returned (.tuple #[vF (Rd.fl α β T), vF (Rd.wf α β M)]) ∧ Below w.heap.size w w') ∧
    ∃ n, Rd.run (decide (0 < dsc a b c d)) n (a, b, c, d) (1, 0, 0, 1) = (T, M) := by
  obtain ⟨ha, hb, hc, hd'⟩ := isR_t hr
  have hin := dsc_in ha hb hc hd'
  have hw : dsc a b c d = Red.dsc a b c d := by rw [dsc_wrR]; exact wr_in hin
  rw [hw] at hd
  obtain ⟨n, hn, hub⟩ : ∃ n, Red.En (decide (0 < dsc a b c d)) n (a, b, c, d) ∧ Red.UB (Red.fin (decide (0 < dsc a b c d)) n (a, b, c, d)) := by
    rw [hw]
    by_cases h0 : 0 < Red.dsc a b c d
    · rw [decide_eq_true h0]; exact Red.pos_ends (by omega) ha hb hc hd'
    · rw [decide_eq_false h0]; exact Red.neg_ends (by omega) ha hb hc hd'
  obtain ⟨g1, g2, g3, g4, α', β', hα', hβ', g5⟩ := Rd.sim _ (Red.dsc a b c d) n (a, b, c, d) (1, 0, 0, 1) 1 1 (.inl rfl) (.inl rfl) hn rfl
  have e1 : Rd.fl 1 1 (a, b, c, d) = (a, b, c, d) := by simp [Rd.fl]
  have e2 : Rd.wf 1 1 (1, 0, 0, 1) = (1, 0, 0, 1) := by simp [Rd.wf, wrap64]
  rw [e1] at g1
  rw [e1, e2] at g5
  have hsg : decide (0 < sg (dsc a b c d)) = decide (0 < dsc a b c d) := by
    unfold sg
    (repeat' split) <;> simp <;> omega
  refine ⟨(Rd.run (decide (0 < dsc a b c d)) n (a, b, c, d) (1, 0, 0, 1)).1, (Rd.run (decide (0 < dsc a b c d)) n (a, b, c, d) (1, 0, 0, 1)).2, α', β', hα', hβ', g2, g3, by rw [Rd.run_fin]; exact hub, g4, fun w => ?_, fun w => ?_, n, rfl⟩
  · refine iReduce_of a b c d w _ _ rfl (fun t ht W => ?_) (fun t ht W => iChangeB_any t _ ht W) n hn
    have := iMarginsB_any t (sg (dsc a b c d)) ht W
    rw [hsg] at this
    exact this
  · have h := sReduce_of a b c d w (decide (0 < dsc a b c d)) (Red.dsc a b c d) (fun t ht hD W => ?_) (fun t ht h0 W => ?_) n g1
    · rw [g5] at h; exact h
    · obtain ⟨x, y, z, u⟩ := t
      have h := sSideB_any x y z u W ht.1
      rw [sSideR x y z u (decide (0 < dsc a b c d)) (by rw [dsc_wrR, hw]; dsimp only at hD; rw [hD, wr_in hin]) ht.2] at h
      exact h
    · obtain ⟨x, y, z, u⟩ := t
      have h := sChange0_any x y z u (Rd.sm2 (decide (0 < dsc a b c d)) (x, y, z, u)).1 (Rd.sm2 (decide (0 < dsc a b c d)) (x, y, z, u)).2.1 (Rd.sm2 (decide (0 < dsc a b c d)) (x, y, z, u)).2.2.1 (Rd.sm2 (decide (0 < dsc a b c d)) (x, y, z, u)).2.2.2 W
      rw [change_in h0 ht] at h
      exact h

end Go.Proofs.Ytikmjefbjejbkaa
