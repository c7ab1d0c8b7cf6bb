/- Reduction: program and model go the same way, up to signs. Mathematics. -/
import Derived.Test.YtipeeljapmiciaaBaRd3
namespace Go.Proofs.Ytipeeljapmiciaa
open Go.RowKit
namespace Rd
def fl (α β : Int) (t : Red.F4) : Red.F4 := (α * t.1, β * t.2.1, α * t.2.2.1, β * t.2.2.2)
def wf (α β : Int) (t : Red.F4) : Red.F4 := (wrap64 (α * t.1), wrap64 (β * t.2.1), wrap64 (α * t.2.2.1), wrap64 (β * t.2.2.2))
def Sg (α : Int) : Prop := α = 1 ∨ α = -1
theorem wmp (a p b r : Int) : mp a p b r = wrap64 (a * p + b * r) := by unfold mp pl mu; simp only [wr_al, wr_ar]
theorem wmp2 (α β x y p r : Int) : mp (wrap64 (α * x)) p (wrap64 (β * y)) r = wrap64 (α * x * p + β * y * r) := by unfold mp pl mu; simp only [wr_al, wr_ar, wr_ml]
theorem wgm (γ x p y r : Int) : wrap64 (γ * mp x p y r) = wrap64 (γ * (x * p + y * r)) := by rw [wmp, wr_mr]
theorem lf_fl {α β : Int} (hα : Sg α) (hβ : Sg β) (s : Bool) (a b c d : Int) :
    Red.lf s (α * a) (β * b) (α * c) (β * d) = (if α = β then Red.lf s a b c d else Red.rt s a b c d) ∧ Red.rt s (α * a) (β * b) (α * c) (β * d) = (if α = β then Red.rt s a b c d else Red.lf s a b c d) ∧ Red.hg s (α * a) (β * b) (α * c) (β * d) = Red.hg s a b c d := by
  unfold Red.lf Red.rt Red.hg
  rcases hα with rfl | rfl <;> rcases hβ with rfl | rfl <;> cases s <;> simp <;> refine ⟨?_, ?_, ?_⟩ <;> grind
theorem dsc_fl {α β : Int} (hα : Sg α) (hβ : Sg β) (a b c d : Int) : Red.dsc (α * a) (β * b) (α * c) (β * d) = Red.dsc a b c d := by
  unfold Red.dsc
  rcases hα with rfl | rfl <;> rcases hβ with rfl | rfl <;> grind
theorem dsc_stp (s : Bool) (a b c d : Int) : Red.dsc (Red.stp s (a, b, c, d)).1 (Red.stp s (a, b, c, d)).2.1 (Red.stp s (a, b, c, d)).2.2.1 (Red.stp s (a, b, c, d)).2.2.2 = Red.dsc a b c d := by
  unfold Red.stp
  dsimp only
  split
  · have := Red.dsc_T a b c d (-1)
    have e1 : d - c + b - a = d + c*(-1) + b*(-1)*(-1) + a*(-1)*(-1)*(-1) := by grind
    have e2 : c - 2*b + 3*a = c + 2*b*(-1) + 3*a*(-1)*(-1) := by grind
    have e3 : b - 3*a = b + 3*a*(-1) := by grind
    dsimp only
    rw [e1, e2, e3]; exact this
  · split
    · have := Red.dsc_T a b c d 1
      have e1 : d + c + b + a = d + c*1 + b*1*1 + a*1*1*1 := by grind
      have e2 : c + 2*b + 3*a = c + 2*b*1 + 3*a*1*1 := by grind
      have e3 : b + 3*a = b + 3*a*1 := by grind
      dsimp only
      rw [e1, e2, e3]; exact this
    · unfold Red.dsc; grind
theorem Bd_fl {α β : Int} (hα : Sg α) (hβ : Sg β) {a b c d : Int} (h : Red.Bd (a, b, c, d)) : Red.Bd (fl α β (a, b, c, d)) := by
  obtain ⟨h1, h2, h3, h4⟩ := h
  dsimp only at h1 h2 h3 h4
  unfold Red.Bd fl
  dsimp only
  rcases hα with rfl | rfl <;> rcases hβ with rfl | rfl <;> refine ⟨?_, ?_, ?_, ?_⟩ <;> omega
/-- One step: the model's beside the program's. -/
theorem one {α β : Int} (hα : Sg α) (hβ : Sg β) (s : Bool) (a b c d : Int) (hk : Red.Ok s (a, b, c, d)) :
    Red.Ok s (fl α β (a, b, c, d)) ∧ (Red.rdF s (a, b, c, d) = true → sd s (fl α β (a, b, c, d)) = 0) ∧
    (Red.rdF s (a, b, c, d) = false → sd s (fl α β (a, b, c, d)) ≠ 0 ∧ ∃ α' β', Sg α' ∧ Sg β' ∧ stp2 s (fl α β (a, b, c, d)) = fl α' β' (Red.stp s (a, b, c, d)) ∧ ∀ m : Red.F4, mm (wf α β m) (sm2 s (fl α β (a, b, c, d))) = wf α' β' (mm m (sm s (a, b, c, d)))) := by
  obtain ⟨hB, hnb⟩ := hk
  dsimp only at hnb
  obtain ⟨e1, e2, e3⟩ := lf_fl hα hβ s a b c d
  have hrd : Red.rdF s (a, b, c, d) = (decide (0 ≤ Red.lf s a b c d) && decide (0 ≤ Red.rt s a b c d) && decide (0 ≤ Red.hg s a b c d)) := rfl
  have hsd : sd s (fl α β (a, b, c, d)) = if Red.rt s (α * a) (β * b) (α * c) (β * d) < 0 then 1 else if Red.lf s (α * a) (β * b) (α * c) (β * d) < 0 then -1 else if Red.hg s (α * a) (β * b) (α * c) (β * d) < 0 then 2 else 0 := rfl
  have hst : Red.stp s (a, b, c, d) = if Red.lf s a b c d < 0 then (a, b - 3*a, c - 2*b + 3*a, d - c + b - a) else if Red.rt s a b c d < 0 then (a, b + 3*a, c + 2*b + 3*a, d + c + b + a) else (d, c, b, a) := rfl
  have hsm : sm s (a, b, c, d) = if Red.lf s a b c d < 0 then (1, -1, 0, 1) else if Red.rt s a b c d < 0 then (1, 1, 0, 1) else (0, 1, 1, 0) := rfl
  rw [e1, e2, e3] at hsd
  refine ⟨⟨Bd_fl hα hβ hB, ?_⟩, ?_, ?_⟩
  · show ¬ (Red.lf s (α * a) (β * b) (α * c) (β * d) < 0 ∧ Red.rt s (α * a) (β * b) (α * c) (β * d) < 0)
    rw [e1, e2]
    split <;> omega
  · intro h
    rw [hrd] at h
    simp only [Bool.and_eq_true, decide_eq_true_eq] at h
    rw [hsd]
    (repeat' split) <;> omega
  · intro h
    rw [hrd] at h
    simp only [Bool.and_eq_false_iff, decide_eq_false_iff_not] at h
    generalize Red.lf s a b c d = L at *
    generalize Red.rt s a b c d = R at *
    generalize Red.hg s a b c d = H at *
    have fin : ∀ (k : Int), sd s (fl α β (a, b, c, d)) = k → k ≠ 0 → (∃ α' β', Sg α' ∧ Sg β' ∧ stp2 s (fl α β (a, b, c, d)) = fl α' β' (Red.stp s (a, b, c, d)) ∧ ∀ m : Red.F4, mm (wf α β m) (sm2 s (fl α β (a, b, c, d))) = wf α' β' (mm m (sm s (a, b, c, d)))) → sd s (fl α β (a, b, c, d)) ≠ 0 ∧ ∃ α' β', Sg α' ∧ Sg β' ∧ stp2 s (fl α β (a, b, c, d)) = fl α' β' (Red.stp s (a, b, c, d)) ∧ ∀ m : Red.F4, mm (wf α β m) (sm2 s (fl α β (a, b, c, d))) = wf α' β' (mm m (sm s (a, b, c, d))) := fun k h1 h2 h3 => ⟨by rw [h1]; exact h2, h3⟩
    by_cases k1 : L < 0
    · rw [if_pos k1] at hst hsm
      rcases hα with rfl | rfl <;> rcases hβ with rfl | rfl
      · have hk : sd s (fl 1 1 (a, b, c, d)) = -1 := by rw [hsd]; rw [if_pos (rfl : (1 : Int) = 1), if_pos (rfl : (1 : Int) = 1)]; (repeat' split) <;> omega
        refine fin _ hk (by decide) ⟨1, 1, .inl rfl, .inl rfl, ?_, fun m => ?_⟩
        · unfold stp2; rw [hk, hst]; refine Prod.ext ?_ (Prod.ext ?_ (Prod.ext ?_ ?_)) <;> simp [fl] <;> omega
        · unfold sm2; rw [hk, hsm]; obtain ⟨x, y, z, t⟩ := m; refine Prod.ext ?_ (Prod.ext ?_ (Prod.ext ?_ ?_)) <;> simp only [mm, wf, wmp2, wgm] <;> (first | exact congrArg wrap64 (by simp <;> omega) | (simp [mm, wf, wmp2, wgm]; done) | (simp [mm, wf, wmp2, wgm]; congr 1; omega))
      · have hk : sd s (fl 1 (-1) (a, b, c, d)) = 1 := by rw [hsd]; rw [if_neg (show ¬ (1 : Int) = (-1) by decide), if_neg (show ¬ (1 : Int) = (-1) by decide)]; (repeat' split) <;> omega
        refine fin _ hk (by decide) ⟨1, (-1), .inl rfl, .inr rfl, ?_, fun m => ?_⟩
        · unfold stp2; rw [hk, hst]; refine Prod.ext ?_ (Prod.ext ?_ (Prod.ext ?_ ?_)) <;> simp [fl] <;> omega
        · unfold sm2; rw [hk, hsm]; obtain ⟨x, y, z, t⟩ := m; refine Prod.ext ?_ (Prod.ext ?_ (Prod.ext ?_ ?_)) <;> simp only [mm, wf, wmp2, wgm] <;> (first | exact congrArg wrap64 (by simp <;> omega) | (simp [mm, wf, wmp2, wgm]; done) | (simp [mm, wf, wmp2, wgm]; congr 1; omega))
      · have hk : sd s (fl (-1) 1 (a, b, c, d)) = 1 := by rw [hsd]; rw [if_neg (show ¬ ((-1) : Int) = 1 by decide), if_neg (show ¬ ((-1) : Int) = 1 by decide)]; (repeat' split) <;> omega
        refine fin _ hk (by decide) ⟨(-1), 1, .inr rfl, .inl rfl, ?_, fun m => ?_⟩
        · unfold stp2; rw [hk, hst]; refine Prod.ext ?_ (Prod.ext ?_ (Prod.ext ?_ ?_)) <;> simp [fl] <;> omega
        · unfold sm2; rw [hk, hsm]; obtain ⟨x, y, z, t⟩ := m; refine Prod.ext ?_ (Prod.ext ?_ (Prod.ext ?_ ?_)) <;> simp only [mm, wf, wmp2, wgm] <;> (first | exact congrArg wrap64 (by simp <;> omega) | (simp [mm, wf, wmp2, wgm]; done) | (simp [mm, wf, wmp2, wgm]; congr 1; omega))
      · have hk : sd s (fl (-1) (-1) (a, b, c, d)) = -1 := by rw [hsd]; rw [if_pos (rfl : ((-1) : Int) = (-1)), if_pos (rfl : ((-1) : Int) = (-1))]; (repeat' split) <;> omega
        refine fin _ hk (by decide) ⟨(-1), (-1), .inr rfl, .inr rfl, ?_, fun m => ?_⟩
        · unfold stp2; rw [hk, hst]; refine Prod.ext ?_ (Prod.ext ?_ (Prod.ext ?_ ?_)) <;> simp [fl] <;> omega
        · unfold sm2; rw [hk, hsm]; obtain ⟨x, y, z, t⟩ := m; refine Prod.ext ?_ (Prod.ext ?_ (Prod.ext ?_ ?_)) <;> simp only [mm, wf, wmp2, wgm] <;> (first | exact congrArg wrap64 (by simp <;> omega) | (simp [mm, wf, wmp2, wgm]; done) | (simp [mm, wf, wmp2, wgm]; congr 1; omega))
    · rw [if_neg k1] at hst hsm
      by_cases k2 : R < 0
      · rw [if_pos k2] at hst hsm
        rcases hα with rfl | rfl <;> rcases hβ with rfl | rfl
        · have hk : sd s (fl 1 1 (a, b, c, d)) = 1 := by rw [hsd]; rw [if_pos (rfl : (1 : Int) = 1), if_pos (rfl : (1 : Int) = 1)]; (repeat' split) <;> omega
          refine fin _ hk (by decide) ⟨1, 1, .inl rfl, .inl rfl, ?_, fun m => ?_⟩
          · unfold stp2; rw [hk, hst]; refine Prod.ext ?_ (Prod.ext ?_ (Prod.ext ?_ ?_)) <;> simp [fl] <;> omega
          · unfold sm2; rw [hk, hsm]; obtain ⟨x, y, z, t⟩ := m; refine Prod.ext ?_ (Prod.ext ?_ (Prod.ext ?_ ?_)) <;> simp only [mm, wf, wmp2, wgm] <;> (first | exact congrArg wrap64 (by simp <;> omega) | (simp [mm, wf, wmp2, wgm]; done) | (simp [mm, wf, wmp2, wgm]; congr 1; omega))
        · have hk : sd s (fl 1 (-1) (a, b, c, d)) = -1 := by rw [hsd]; rw [if_neg (show ¬ (1 : Int) = (-1) by decide), if_neg (show ¬ (1 : Int) = (-1) by decide)]; (repeat' split) <;> omega
          refine fin _ hk (by decide) ⟨1, (-1), .inl rfl, .inr rfl, ?_, fun m => ?_⟩
          · unfold stp2; rw [hk, hst]; refine Prod.ext ?_ (Prod.ext ?_ (Prod.ext ?_ ?_)) <;> simp [fl] <;> omega
          · unfold sm2; rw [hk, hsm]; obtain ⟨x, y, z, t⟩ := m; refine Prod.ext ?_ (Prod.ext ?_ (Prod.ext ?_ ?_)) <;> simp only [mm, wf, wmp2, wgm] <;> (first | exact congrArg wrap64 (by simp <;> omega) | (simp [mm, wf, wmp2, wgm]; done) | (simp [mm, wf, wmp2, wgm]; congr 1; omega))
        · have hk : sd s (fl (-1) 1 (a, b, c, d)) = -1 := by rw [hsd]; rw [if_neg (show ¬ ((-1) : Int) = 1 by decide), if_neg (show ¬ ((-1) : Int) = 1 by decide)]; (repeat' split) <;> omega
          refine fin _ hk (by decide) ⟨(-1), 1, .inr rfl, .inl rfl, ?_, fun m => ?_⟩
          · unfold stp2; rw [hk, hst]; refine Prod.ext ?_ (Prod.ext ?_ (Prod.ext ?_ ?_)) <;> simp [fl] <;> omega
          · unfold sm2; rw [hk, hsm]; obtain ⟨x, y, z, t⟩ := m; refine Prod.ext ?_ (Prod.ext ?_ (Prod.ext ?_ ?_)) <;> simp only [mm, wf, wmp2, wgm] <;> (first | exact congrArg wrap64 (by simp <;> omega) | (simp [mm, wf, wmp2, wgm]; done) | (simp [mm, wf, wmp2, wgm]; congr 1; omega))
        · have hk : sd s (fl (-1) (-1) (a, b, c, d)) = 1 := by rw [hsd]; rw [if_pos (rfl : ((-1) : Int) = (-1)), if_pos (rfl : ((-1) : Int) = (-1))]; (repeat' split) <;> omega
          refine fin _ hk (by decide) ⟨(-1), (-1), .inr rfl, .inr rfl, ?_, fun m => ?_⟩
          · unfold stp2; rw [hk, hst]; refine Prod.ext ?_ (Prod.ext ?_ (Prod.ext ?_ ?_)) <;> simp [fl] <;> omega
          · unfold sm2; rw [hk, hsm]; obtain ⟨x, y, z, t⟩ := m; refine Prod.ext ?_ (Prod.ext ?_ (Prod.ext ?_ ?_)) <;> simp only [mm, wf, wmp2, wgm] <;> (first | exact congrArg wrap64 (by simp <;> omega) | (simp [mm, wf, wmp2, wgm]; done) | (simp [mm, wf, wmp2, wgm]; congr 1; omega))
      · rw [if_neg k2] at hst hsm
        rcases hα with rfl | rfl <;> rcases hβ with rfl | rfl
        · have hk : sd s (fl 1 1 (a, b, c, d)) = 2 := by rw [hsd]; rw [if_pos (rfl : (1 : Int) = 1), if_pos (rfl : (1 : Int) = 1)]; (repeat' split) <;> omega
          refine fin _ hk (by decide) ⟨1, (-1), .inl rfl, .inr rfl, ?_, fun m => ?_⟩
          · unfold stp2; rw [hk, hst]; refine Prod.ext ?_ (Prod.ext ?_ (Prod.ext ?_ ?_)) <;> simp [fl] <;> omega
          · unfold sm2; rw [hk, hsm]; obtain ⟨x, y, z, t⟩ := m; refine Prod.ext ?_ (Prod.ext ?_ (Prod.ext ?_ ?_)) <;> simp only [mm, wf, wmp2, wgm] <;> (first | exact congrArg wrap64 (by simp <;> omega) | (simp [mm, wf, wmp2, wgm]; done) | (simp [mm, wf, wmp2, wgm]; congr 1; omega))
        · have hk : sd s (fl 1 (-1) (a, b, c, d)) = 2 := by rw [hsd]; rw [if_neg (show ¬ (1 : Int) = (-1) by decide), if_neg (show ¬ (1 : Int) = (-1) by decide)]; (repeat' split) <;> omega
          refine fin _ hk (by decide) ⟨(-1), (-1), .inr rfl, .inr rfl, ?_, fun m => ?_⟩
          · unfold stp2; rw [hk, hst]; refine Prod.ext ?_ (Prod.ext ?_ (Prod.ext ?_ ?_)) <;> simp [fl] <;> omega
          · unfold sm2; rw [hk, hsm]; obtain ⟨x, y, z, t⟩ := m; refine Prod.ext ?_ (Prod.ext ?_ (Prod.ext ?_ ?_)) <;> simp only [mm, wf, wmp2, wgm] <;> (first | exact congrArg wrap64 (by simp <;> omega) | (simp [mm, wf, wmp2, wgm]; done) | (simp [mm, wf, wmp2, wgm]; congr 1; omega))
        · have hk : sd s (fl (-1) 1 (a, b, c, d)) = 2 := by rw [hsd]; rw [if_neg (show ¬ ((-1) : Int) = 1 by decide), if_neg (show ¬ ((-1) : Int) = 1 by decide)]; (repeat' split) <;> omega
          refine fin _ hk (by decide) ⟨1, 1, .inl rfl, .inl rfl, ?_, fun m => ?_⟩
          · unfold stp2; rw [hk, hst]; refine Prod.ext ?_ (Prod.ext ?_ (Prod.ext ?_ ?_)) <;> simp [fl] <;> omega
          · unfold sm2; rw [hk, hsm]; obtain ⟨x, y, z, t⟩ := m; refine Prod.ext ?_ (Prod.ext ?_ (Prod.ext ?_ ?_)) <;> simp only [mm, wf, wmp2, wgm] <;> (first | exact congrArg wrap64 (by simp <;> omega) | (simp [mm, wf, wmp2, wgm]; done) | (simp [mm, wf, wmp2, wgm]; congr 1; omega))
        · have hk : sd s (fl (-1) (-1) (a, b, c, d)) = 2 := by rw [hsd]; rw [if_pos (rfl : ((-1) : Int) = (-1)), if_pos (rfl : ((-1) : Int) = (-1))]; (repeat' split) <;> omega
          refine fin _ hk (by decide) ⟨(-1), 1, .inr rfl, .inl rfl, ?_, fun m => ?_⟩
          · unfold stp2; rw [hk, hst]; refine Prod.ext ?_ (Prod.ext ?_ (Prod.ext ?_ ?_)) <;> simp [fl] <;> omega
          · unfold sm2; rw [hk, hsm]; obtain ⟨x, y, z, t⟩ := m; refine Prod.ext ?_ (Prod.ext ?_ (Prod.ext ?_ ?_)) <;> simp only [mm, wf, wmp2, wgm] <;> (first | exact congrArg wrap64 (by simp <;> omega) | (simp [mm, wf, wmp2, wgm]; done) | (simp [mm, wf, wmp2, wgm]; congr 1; omega))
end Rd

end Go.Proofs.Ytipeeljapmiciaa
