/- Chapter 5: kinds go with roots and with the discriminant. Mathematics; no Go function in sight. -/
import Derived.Test.YtambbhldhhlfgaaDoorFkKi
namespace Go.Proofs.YtambbhldhhlfgaaDoor
open Go.RowKit

theorem mmu_le (p a b c d x y : Int) : mmu p a b c d x y ≤ 3 := by
  unfold mmu; split <;> exact mm3_le _ _ _ _
/-- A form is k times three linear forms, modulo p. -/
structure Tri (p a b c d k : Int) (q r s : Int × Int) : Prop where
  hk : ¬ p ∣ k
  ea : cg p a (k * (q.2 * r.2 * s.2))
  eb : cg p b (k * (-(q.1 * r.2 * s.2) - q.2 * r.1 * s.2 - q.2 * r.2 * s.1))
  ec : cg p c (k * (q.1 * r.1 * s.2 + q.1 * r.2 * s.1 + q.2 * r.1 * s.1))
  ed : cg p d (k * (-(q.1 * r.1 * s.1)))
theorem cg_s {p x y : Int} (h : cg p x y) : cg p y x := by unfold cg at *; rw [show y - x = -(x - y) by omega]; exact Int.dvd_neg.2 h
theorem cg_t {p x y z : Int} (h : cg p x y) (h' : cg p y z) : cg p x z := by unfold cg at *; rw [show x - z = (x - y) + (y - z) by omega]; exact Int.dvd_add h h'
theorem cg_0 {p x : Int} : cg p x 0 ↔ p ∣ x := by unfold cg; rw [Int.sub_zero]
/-- The value of a linear form. -/
def li (q : Int × Int) (x y : Int) : Int := q.2 * x - q.1 * y
theorem vx_cg {p a b c d a' b' c' d' x y : Int} (ha : cg p a a') (hb : cg p b b') (hc : cg p c c') (hd : cg p d d') : cg p (vx a b c d x y) (vx a' b' c' d' x y) := by
  unfold vx
  exact cg_a (cg_a (cg_a (cg_m (cg_m (cg_m ha (cg_r _ _)) (cg_r _ _)) (cg_r _ _)) (cg_m (cg_m (cg_m hb (cg_r _ _)) (cg_r _ _)) (cg_r _ _))) (cg_m (cg_m (cg_m hc (cg_r _ _)) (cg_r _ _)) (cg_r _ _))) (cg_m (cg_m (cg_m hd (cg_r _ _)) (cg_r _ _)) (cg_r _ _))
theorem q3_cg {p A B C A' B' C' x y : Int} (ha : cg p A A') (hb : cg p B B') (hc : cg p C C') : cg p (A * x * x + B * x * y + C * y * y) (A' * x * x + B' * x * y + C' * y * y) :=
  cg_a (cg_a (cg_m (cg_m ha (cg_r _ _)) (cg_r _ _)) (cg_m (cg_m hb (cg_r _ _)) (cg_r _ _))) (cg_m (cg_m hc (cg_r _ _)) (cg_r _ _))
theorem l2_cg {p A B A' B' x y : Int} (ha : cg p A A') (hb : cg p B B') : cg p (A * x + B * y) (A' * x + B' * y) := cg_a (cg_m ha (cg_r _ _)) (cg_m hb (cg_r _ _))
theorem Tri.v {p a b c d k : Int} {q r s : Int × Int} (h : Tri p a b c d k q r s) (x y : Int) : cg p (vx a b c d x y) (k * (li q x y * li r x y * li s x y)) := by
  have e := vx_cg (x := x) (y := y) h.ea h.eb h.ec h.ed
  rwa [show vx (k * (q.2 * r.2 * s.2)) (k * (-(q.1 * r.2 * s.2) - q.2 * r.1 * s.2 - q.2 * r.2 * s.1)) (k * (q.1 * r.1 * s.2 + q.1 * r.2 * s.1 + q.2 * r.1 * s.1)) (k * (-(q.1 * r.1 * s.1))) x y = k * (li q x y * li r x y * li s x y) by unfold vx li; grind] at e
theorem Tri.x {p a b c d k : Int} {q r s : Int × Int} (h : Tri p a b c d k q r s) (x y : Int) : cg p (3 * a * x * x + 2 * b * x * y + c * y * y) (k * (q.2 * (li r x y * li s x y) + li q x y * (r.2 * li s x y + s.2 * li r x y))) := by
  have e := q3_cg (x := x) (y := y) (cg_m (cg_r p 3) h.ea) (cg_m (cg_r p 2) h.eb) h.ec
  rwa [show 3 * (k * (q.2 * r.2 * s.2)) * x * x + 2 * (k * (-(q.1 * r.2 * s.2) - q.2 * r.1 * s.2 - q.2 * r.2 * s.1)) * x * y + k * (q.1 * r.1 * s.2 + q.1 * r.2 * s.1 + q.2 * r.1 * s.1) * y * y = k * (q.2 * (li r x y * li s x y) + li q x y * (r.2 * li s x y + s.2 * li r x y)) by unfold li; grind] at e
theorem Tri.y {p a b c d k : Int} {q r s : Int × Int} (h : Tri p a b c d k q r s) (x y : Int) : cg p (b * x * x + 2 * c * x * y + 3 * d * y * y) (-(k * (q.1 * (li r x y * li s x y) + li q x y * (r.1 * li s x y + s.1 * li r x y)))) := by
  have e := q3_cg (x := x) (y := y) h.eb (cg_m (cg_r p 2) h.ec) (cg_m (cg_r p 3) h.ed)
  rwa [show k * (-(q.1 * r.2 * s.2) - q.2 * r.1 * s.2 - q.2 * r.2 * s.1) * x * x + 2 * (k * (q.1 * r.1 * s.2 + q.1 * r.2 * s.1 + q.2 * r.1 * s.1)) * x * y + 3 * (k * (-(q.1 * r.1 * s.1))) * y * y = -(k * (q.1 * (li r x y * li s x y) + li q x y * (r.1 * li s x y + s.1 * li r x y))) by unfold li; grind] at e
theorem Tri.sw {p a b c d k : Int} {q r s : Int × Int} (h : Tri p a b c d k q r s) : Tri p a b c d k r q s :=
  ⟨h.hk, by have := h.ea; rwa [show q.2 * r.2 * s.2 = r.2 * q.2 * s.2 by grind] at this, by have := h.eb; rwa [show -(q.1 * r.2 * s.2) - q.2 * r.1 * s.2 - q.2 * r.2 * s.1 = -(r.1 * q.2 * s.2) - r.2 * q.1 * s.2 - r.2 * q.2 * s.1 by grind] at this,
    by have := h.ec; rwa [show q.1 * r.1 * s.2 + q.1 * r.2 * s.1 + q.2 * r.1 * s.1 = r.1 * q.1 * s.2 + r.1 * q.2 * s.1 + r.2 * q.1 * s.1 by grind] at this, by have := h.ed; rwa [show q.1 * r.1 * s.1 = r.1 * q.1 * s.1 by grind] at this⟩
theorem Tri.ro {p a b c d k : Int} {q r s : Int × Int} (h : Tri p a b c d k q r s) : Tri p a b c d k s q r :=
  ⟨h.hk, by have := h.ea; rwa [show q.2 * r.2 * s.2 = s.2 * q.2 * r.2 by grind] at this, by have := h.eb; rwa [show -(q.1 * r.2 * s.2) - q.2 * r.1 * s.2 - q.2 * r.2 * s.1 = -(s.1 * q.2 * r.2) - s.2 * q.1 * r.2 - s.2 * q.2 * r.1 by grind] at this,
    by have := h.ec; rwa [show q.1 * r.1 * s.2 + q.1 * r.2 * s.1 + q.2 * r.1 * s.1 = s.1 * q.1 * r.2 + s.1 * q.2 * r.1 + s.2 * q.1 * r.1 by grind] at this, by have := h.ed; rwa [show q.1 * r.1 * s.1 = s.1 * q.1 * r.1 by grind] at this⟩
theorem li_pt {p : Int} (hp : prm p = true) {q q' : Int × Int} (h : q ∈ ptm p) (h' : q' ∈ ptm p) : p ∣ li q q'.1 q'.2 ↔ q = q' := by
  constructor
  · intro hd
    refine pt_eq hp h h' ?_
    unfold li at hd
    rw [show q.1 * q'.2 - q'.1 * q.2 = -(q.2 * q'.1 - q.1 * q'.2) by grind]
    exact Int.dvd_neg.2 hd
  · rintro rfl; unfold li; rw [show q.2 * q.1 - q.1 * q.2 = 0 by grind]; exact Int.dvd_zero p
theorem li_self (q : Int × Int) : li q q.1 q.2 = 0 := by unfold li; grind
/-- Values at the points: which are zeros. -/
theorem Tri.g1 {p a b c d k : Int} {q r s : Int × Int} (hp : prm p = true) (h : Tri p a b c d k q r s) (hq : q ∈ ptm p) (hr : r ∈ ptm p) (hs : s ∈ ptm p) {z : Int × Int} (hz : z ∈ ptm p) : ge1 p a b c d z.1 z.2 ↔ q = z ∨ r = z ∨ s = z := by
  rw [ge1, cg_d (h.v z.1 z.2), dv_l hp h.hk, ← li_pt hp hq hz, ← li_pt hp hr hz, ← li_pt hp hs hz]
  constructor
  · intro hd
    rcases prm_dvd_mul hp hd with hd | hd
    · rcases prm_dvd_mul hp hd with hd | hd
      · exact .inl hd
      · exact .inr (.inl hd)
    · exact .inr (.inr hd)
  · rintro (hd | hd | hd)
    · exact Int.dvd_mul_of_dvd_left (Int.dvd_mul_of_dvd_left hd)
    · exact Int.dvd_mul_of_dvd_left (Int.dvd_mul_of_dvd_right hd)
    · exact Int.dvd_mul_of_dvd_right hd
theorem Tri.g2 {p a b c d k : Int} {q r s : Int × Int} (hp : prm p = true) (h : Tri p a b c d k q r s) (hq : q ∈ ptm p) (hr : r ∈ ptm p) (hs : s ∈ ptm p) : ge2 p a b c d q.1 q.2 ↔ r = q ∨ s = q := by
  have hv : ge1 p a b c d q.1 q.2 := (h.g1 hp hq hr hs hq).2 (.inl rfl)
  rw [ge2, cg_d (h.x q.1 q.2), cg_d (h.y q.1 q.2), li_self, Int.zero_mul, Int.add_zero, Int.zero_mul, Int.add_zero, Int.dvd_neg, dv_l hp h.hk, dv_l hp h.hk, ← li_pt hp hr hq, ← li_pt hp hs hq]
  constructor
  · rintro ⟨_, h1, h2⟩
    rcases prm_dvd_mul hp h1 with h1 | h1
    · rcases prm_dvd_mul hp h2 with h2 | h2
      · exact absurd ⟨h2, h1⟩ (pt_ne hp hq)
      · exact prm_dvd_mul hp h2
    · exact prm_dvd_mul hp h1
  · rintro (hd | hd)
    · exact ⟨hv, Int.dvd_mul_of_dvd_right (Int.dvd_mul_of_dvd_left hd), Int.dvd_mul_of_dvd_right (Int.dvd_mul_of_dvd_left hd)⟩
    · exact ⟨hv, Int.dvd_mul_of_dvd_right (Int.dvd_mul_of_dvd_right hd), Int.dvd_mul_of_dvd_right (Int.dvd_mul_of_dvd_right hd)⟩
theorem Tri.g3 {p a b c d k : Int} {q s : Int × Int} (hp : prm p = true) (h : Tri p a b c d k q q s) (hq : q ∈ ptm p) (hs : s ∈ ptm p) : ge3 p a b c d q.1 q.2 ↔ s = q := by
  have hv : ge2 p a b c d q.1 q.2 := (h.g2 hp hq hq hs).2 (.inl rfl)
  have e1 := l2_cg (x := q.1) (y := q.2) (cg_m (cg_r p 3) h.ea) h.eb
  have e2 := l2_cg (x := q.1) (y := q.2) (cg_m (cg_r p 2) h.eb) (cg_m (cg_r p 2) h.ec)
  have e3 := l2_cg (x := q.1) (y := q.2) h.ec (cg_m (cg_r p 3) h.ed)
  rw [show 3 * (k * (q.2 * q.2 * s.2)) * q.1 + k * (-(q.1 * q.2 * s.2) - q.2 * q.1 * s.2 - q.2 * q.2 * s.1) * q.2 = k * (q.2 * (q.2 * li s q.1 q.2)) by unfold li; grind] at e1
  rw [show 2 * (k * (-(q.1 * q.2 * s.2) - q.2 * q.1 * s.2 - q.2 * q.2 * s.1)) * q.1 + 2 * (k * (q.1 * q.1 * s.2 + q.1 * q.2 * s.1 + q.2 * q.1 * s.1)) * q.2 = k * (-2 * q.1 * q.2 * li s q.1 q.2) by unfold li; grind] at e2
  rw [show k * (q.1 * q.1 * s.2 + q.1 * q.2 * s.1 + q.2 * q.1 * s.1) * q.1 + 3 * (k * (-(q.1 * q.1 * s.1))) * q.2 = k * (q.1 * (q.1 * li s q.1 q.2)) by unfold li; grind] at e3
  rw [ge3, cg_d e1, cg_d e2, cg_d e3, dv_l hp h.hk, dv_l hp h.hk, dv_l hp h.hk, ← li_pt hp hs hq]
  constructor
  · rintro ⟨_, h1, _, h3⟩
    rcases prm_dvd_mul hp h1 with h1 | h1
    · rcases prm_dvd_mul hp h3 with h3 | h3
      · exact absurd ⟨h3, h1⟩ (pt_ne hp hq)
      · exact (prm_dvd_mul hp h3).resolve_left fun h3 => pt_ne hp hq ⟨h3, h1⟩
    · rcases prm_dvd_mul hp h1 with h1 | h1
      · rcases prm_dvd_mul hp h3 with h3 | h3
        · exact absurd ⟨h3, h1⟩ (pt_ne hp hq)
        · exact (prm_dvd_mul hp h3).resolve_left fun h3 => pt_ne hp hq ⟨h3, h1⟩
      · exact h1
  · intro hd
    exact ⟨hv, Int.dvd_mul_of_dvd_right (Int.dvd_mul_of_dvd_right hd), Int.dvd_mul_of_dvd_right hd, Int.dvd_mul_of_dvd_right (Int.dvd_mul_of_dvd_right hd)⟩
def ind (q z : Int × Int) : Nat := if q = z then 1 else 0
/-- The multiplicities at the points. -/
theorem Tri.mu {p a b c d k : Int} {q r s : Int × Int} (hp : prm p = true) (h : Tri p a b c d k q r s) (hq : q ∈ ptm p) (hr : r ∈ ptm p) (hs : s ∈ ptm p) {z : Int × Int} (hz : z ∈ ptm p) : mmu p a b c d z.1 z.2 = ind q z + ind r z + ind s z := by
  have m1 := mu1_pt (a := a) (b := b) (c := c) (d := d) hz
  have m2 := mu2_pt (a := a) (b := b) (c := c) (d := d) hz
  have m3 := mu3_pt (a := a) (b := b) (c := c) (d := d) hz
  have ml := mmu_le p a b c d z.1 z.2
  rw [h.g1 hp hq hr hs hz] at m1
  generalize mmu p a b c d z.1 z.2 = m at m1 m2 m3 ml
  unfold ind
  by_cases e1 : q = z
  · subst e1
    rw [h.g2 hp hq hr hs] at m2
    by_cases e2 : r = q
    · subst e2
      rw [h.g3 hp hr hs] at m3
      by_cases e3 : s = r
      · subst e3; simp at m3 ⊢; omega
      · simp [e3] at m2 m3 ⊢; omega
    · by_cases e3 : s = q
      · subst e3
        have h' := h.ro
        rw [h'.g3 hp hs hr] at m3
        simp [e2] at m2 m3 ⊢; omega
      · simp [e2, e3] at m1 m2 ⊢; omega
  · by_cases e2 : r = z
    · subst e2
      have h' := h.sw
      rw [h'.g2 hp hr hq hs] at m2
      by_cases e3 : s = r
      · subst e3
        have h'' := h'.ro
        rw [h''.g3 hp hs hq] at m3
        simp [e1] at m2 m3 ⊢; omega
      · simp [e1, e3] at m1 m2 ⊢; omega
    · by_cases e3 : s = z
      · subst e3
        have h' := h.ro
        rw [h'.g2 hp hs hq hr] at m2
        simp [e1, e2] at m1 m2 ⊢; omega
      · simp [e1, e2, e3] at m1 ⊢; omega
/-- A zero of a quadratic form splits off. -/
theorem split2 {p A B C : Int} {q : Int × Int} (hq : q ∈ ptm p) (h : p ∣ A * q.1 * q.1 + B * q.1 * q.2 + C * q.2 * q.2) :
    ∃ D E, cg p A (q.2 * D) ∧ cg p B (q.2 * E - q.1 * D) ∧ cg p C (-(q.1 * E)) := by
  rcases pt_is hq with ⟨e, _⟩ | e
  · refine ⟨A, B + q.1 * A, ?_, ?_, ?_⟩
    · rw [e]; unfold cg; rw [show A - 1 * A = 0 by omega]; exact Int.dvd_zero p
    · rw [e]; unfold cg; rw [show B - (1 * (B + q.1 * A) - q.1 * A) = 0 by omega]; exact Int.dvd_zero p
    · unfold cg; rw [e] at h
      rwa [show C - -(q.1 * (B + q.1 * A)) = A * q.1 * q.1 + B * q.1 * 1 + C * 1 * 1 by grind]
  · rw [e] at h ⊢
    refine ⟨-B, -C, ?_, ?_, ?_⟩
    · unfold cg; simpa using h
    · unfold cg; simp
    · unfold cg; simp
theorem split3 {p a b c d : Int} {q : Int × Int} (hq : q ∈ ptm p) (h : ge1 p a b c d q.1 q.2) :
    ∃ A B C, cg p a (q.2 * A) ∧ cg p b (q.2 * B - q.1 * A) ∧ cg p c (q.2 * C - q.1 * B) ∧ cg p d (-(q.1 * C)) := by
  unfold ge1 at h
  rcases pt_is hq with ⟨e, _⟩ | e
  · refine ⟨a, b + q.1 * a, c + q.1 * (b + q.1 * a), ?_, ?_, ?_, ?_⟩
    · rw [e]; unfold cg; rw [show a - 1 * a = 0 by omega]; exact Int.dvd_zero p
    · rw [e]; unfold cg; rw [show b - (1 * (b + q.1 * a) - q.1 * a) = 0 by omega]; exact Int.dvd_zero p
    · rw [e]; unfold cg; rw [show c - (1 * (c + q.1 * (b + q.1 * a)) - q.1 * (b + q.1 * a)) = 0 by omega]; exact Int.dvd_zero p
    · unfold cg; rw [e] at h
      rwa [show d - -(q.1 * (c + q.1 * (b + q.1 * a))) = vx a b c d q.1 1 by unfold vx; grind]
  · rw [e] at h ⊢
    refine ⟨-b, -c, -d, ?_, ?_, ?_, ?_⟩
    · unfold cg; rw [show vx a b c d 1 0 = a by unfold vx; grind] at h; simpa using h
    · unfold cg; simp
    · unfold cg; simp
    · unfold cg; simp
/-- Two roots, or a root of a multiplicity of at least 2: three linear forms. -/
theorem tri_ex {p a b c d : Int} (hp : prm p = true) (hn : ¬ (p ∣ a ∧ p ∣ b ∧ p ∣ c ∧ p ∣ d)) {q r : Int × Int} (hq : q ∈ ptm p) (hr : r ∈ ptm p) (h1 : ge1 p a b c d q.1 q.2)
    (h2 : (q ≠ r ∧ ge1 p a b c d r.1 r.2) ∨ (q = r ∧ ge2 p a b c d q.1 q.2)) : ∃ k s, s ∈ ptm p ∧ Tri p a b c d k q r s := by
  obtain ⟨A, B, C, ea, eb, ec, ed⟩ := split3 hq h1
  have hQ : p ∣ A * r.1 * r.1 + B * r.1 * r.2 + C * r.2 * r.2 := by
    rcases h2 with ⟨hne, h2⟩ | ⟨rfl, h2⟩
    · unfold ge1 at h2
      rw [cg_d (vx_cg ea eb ec ed), show vx (q.2 * A) (q.2 * B - q.1 * A) (q.2 * C - q.1 * B) (-(q.1 * C)) r.1 r.2 = li q r.1 r.2 * (A * r.1 * r.1 + B * r.1 * r.2 + C * r.2 * r.2) by unfold vx li; grind] at h2
      exact (prm_dvd_mul hp h2).resolve_left fun h => hne ((li_pt hp hq hr).1 h)
    · obtain ⟨_, g1, g2⟩ := h2
      rw [cg_d (q3_cg (cg_m (cg_r p 3) ea) (cg_m (cg_r p 2) eb) ec), show 3 * (q.2 * A) * q.1 * q.1 + 2 * (q.2 * B - q.1 * A) * q.1 * q.2 + (q.2 * C - q.1 * B) * q.2 * q.2 = q.2 * (A * q.1 * q.1 + B * q.1 * q.2 + C * q.2 * q.2) by grind] at g1
      rw [cg_d (q3_cg eb (cg_m (cg_r p 2) ec) (cg_m (cg_r p 3) ed)), show (q.2 * B - q.1 * A) * q.1 * q.1 + 2 * (q.2 * C - q.1 * B) * q.1 * q.2 + 3 * (-(q.1 * C)) * q.2 * q.2 = -(q.1 * (A * q.1 * q.1 + B * q.1 * q.2 + C * q.2 * q.2)) by grind, Int.dvd_neg] at g2
      rcases prm_dvd_mul hp g1 with g1 | g1
      · exact (prm_dvd_mul hp g2).resolve_left fun g2 => pt_ne hp hq ⟨g2, g1⟩
      · exact g1
  obtain ⟨D, E, fA, fB, fC⟩ := split2 hr hQ
  have hDE : ¬ (p ∣ -E ∧ p ∣ D) := by
    rintro ⟨d1, d2⟩
    rw [Int.dvd_neg] at d1
    have zA : p ∣ A := (cg_d fA).2 (Int.dvd_mul_of_dvd_right d2)
    have zB : p ∣ B := (cg_d fB).2 (Int.dvd_sub (Int.dvd_mul_of_dvd_right d1) (Int.dvd_mul_of_dvd_right d2))
    have zC : p ∣ C := (cg_d fC).2 (Int.dvd_neg.2 (Int.dvd_mul_of_dvd_right d1))
    exact hn ⟨(cg_d ea).2 (Int.dvd_mul_of_dvd_right zA), (cg_d eb).2 (Int.dvd_sub (Int.dvd_mul_of_dvd_right zB) (Int.dvd_mul_of_dvd_right zA)),
      (cg_d ec).2 (Int.dvd_sub (Int.dvd_mul_of_dvd_right zC) (Int.dvd_mul_of_dvd_right zB)), (cg_d ed).2 (Int.dvd_neg.2 (Int.dvd_mul_of_dvd_right zC))⟩
  obtain ⟨s, hs, l, hl, l1, l2⟩ := pt_of hp hDE
  have gE : cg p E (-(l * s.1)) := by
    show p ∣ E - -(l * s.1)
    rw [show E - -(l * s.1) = -(-E - l * s.1) by omega]; exact Int.dvd_neg.2 l1
  have gD : cg p D (l * s.2) := l2
  have n : ∀ {x y : Int}, cg p x y → cg p (-x) (-y) := fun {x y} h => by unfold cg at *; rw [show -x - -y = -(x - y) by omega]; exact Int.dvd_neg.2 h
  have sb : ∀ {x x' y y' : Int}, cg p x x' → cg p y y' → cg p (x - y) (x' - y') := fun h h' => by
    have := cg_a h (n h'); rwa [← Int.sub_eq_add_neg, ← Int.sub_eq_add_neg] at this
  have kA := cg_t fA (cg_m (cg_r p r.2) gD)
  have kB := cg_t fB (sb (cg_m (cg_r p r.2) gE) (cg_m (cg_r p r.1) gD))
  have kC := cg_t fC (n (cg_m (cg_r p r.1) gE))
  refine ⟨l, s, hs, hl, ?_, ?_, ?_, ?_⟩
  · have := cg_t ea (cg_m (cg_r p q.2) kA)
    rwa [show q.2 * (r.2 * (l * s.2)) = l * (q.2 * r.2 * s.2) by grind] at this
  · have := cg_t eb (sb (cg_m (cg_r p q.2) kB) (cg_m (cg_r p q.1) kA))
    rwa [show q.2 * (r.2 * -(l * s.1) - r.1 * (l * s.2)) - q.1 * (r.2 * (l * s.2)) = l * (-(q.1 * r.2 * s.2) - q.2 * r.1 * s.2 - q.2 * r.2 * s.1) by grind] at this
  · have := cg_t ec (sb (cg_m (cg_r p q.2) kC) (cg_m (cg_r p q.1) kB))
    rwa [show q.2 * -(r.1 * -(l * s.1)) - q.1 * (r.2 * -(l * s.1) - r.1 * (l * s.2)) = l * (q.1 * r.1 * s.2 + q.1 * r.2 * s.1 + q.2 * r.1 * s.1) by grind] at this
  · have := cg_t ed (n (cg_m (cg_r p q.1) kC))
    rwa [show -(q.1 * -(r.1 * -(l * s.1))) = l * (-(q.1 * r.1 * s.1)) by grind] at this
/-- Sums over the points. -/
def smu (p a b c d : Int) : Nat := ((ptm p).map fun z => mmu p a b c d z.1 z.2).sum
theorem ind_sum (q : Int × Int) : ∀ L : List (Int × Int), L.Nodup → q ∈ L → (L.map (ind q)).sum = 1 := by
  intro L
  induction L with
  | nil => intro _ h; cases h
  | cons x L ih =>
    intro hn hm
    rw [List.nodup_cons] at hn
    rw [List.map_cons, List.sum_cons]
    by_cases e : q = x
    · subst e
      have : ∀ M : List (Int × Int), q ∉ M → (M.map (ind q)).sum = 0 := by
        intro M
        induction M with
        | nil => intro _; rfl
        | cons y M ih =>
          intro h
          have hne : q ≠ y := fun e => h (e ▸ List.mem_cons_self)
          rw [List.map_cons, List.sum_cons, ih fun h' => h (List.mem_cons_of_mem _ h')]; simp [ind, hne]
      rw [this L hn.1]; simp [ind]
    · rw [ih hn.2 ((List.mem_cons.1 hm).resolve_left e)]; simp [ind, e]
theorem sum_add3 (f g h : Int × Int → Nat) : ∀ L : List (Int × Int), (L.map fun z => f z + g z + h z).sum = (L.map f).sum + (L.map g).sum + (L.map h).sum := by
  intro L
  induction L with
  | nil => rfl
  | cons x L ih => simp only [List.map_cons, List.sum_cons, ih]; omega
/-- Either the multiplicities make 3, or there is at most one root, and it is simple. -/
theorem smu_or {p a b c d : Int} (hp : prm p = true) (hn : ¬ (p ∣ a ∧ p ∣ b ∧ p ∣ c ∧ p ∣ d)) :
    smu p a b c d = 3 ∨ ((∀ z ∈ ptm p, mmu p a b c d z.1 z.2 ≤ 1) ∧ ∀ z ∈ ptm p, ∀ z' ∈ ptm p, 1 ≤ mmu p a b c d z.1 z.2 → 1 ≤ mmu p a b c d z'.1 z'.2 → z = z') := by
  by_cases hc : ∃ q r, q ∈ ptm p ∧ r ∈ ptm p ∧ ge1 p a b c d q.1 q.2 ∧ ((q ≠ r ∧ ge1 p a b c d r.1 r.2) ∨ (q = r ∧ ge2 p a b c d q.1 q.2))
  · obtain ⟨q, r, hq, hr, h1, h2⟩ := hc
    obtain ⟨k, s, hs, hT⟩ := tri_ex hp hn hq hr h1 h2
    left
    unfold smu
    rw [List.map_congr_left (g := fun z => ind q z + ind r z + ind s z) fun z hz => hT.mu hp hq hr hs hz, sum_add3, ind_sum q _ (ptm_nodup p) hq, ind_sum r _ (ptm_nodup p) hr, ind_sum s _ (ptm_nodup p) hs]
  · right
    refine ⟨fun z hz => ?_, fun z hz z' hz' h h' => ?_⟩
    · refine Nat.le_of_not_lt fun h => hc ⟨z, z, hz, hz, (mu1_pt hz).1 (by omega), .inr ⟨rfl, (mu2_pt hz).1 h⟩⟩
    · refine Classical.byContradiction fun hne => hc ⟨z, z', hz, hz', (mu1_pt hz).1 h, .inl ⟨hne, (mu1_pt hz').1 h'⟩⟩
/-- The discriminant, and the Hessian. -/
def dsx (a b c d : Int) : Int := b * b * c * c - 4 * a * c * c * c - 4 * b * b * b * d - 27 * a * a * d * d + 18 * a * b * c * d
theorem dv_p {p n x : Int} (hp : prm p = true) (hn : ¬ p ∣ n) (h : p ∣ n * x) : p ∣ x := (prm_dvd_mul hp h).resolve_left hn
theorem not_dv {p n : Int} (hp : prm p = true) (h5 : 5 ≤ p) (hn : n = 2 ∨ n = 3 ∨ n = 4 ∨ n = 9 ∨ n = 12) : ¬ p ∣ n := by
  have two : ¬ p ∣ 2 := fun h => by have := Int.le_of_dvd (by omega) h; omega
  have three : ¬ p ∣ 3 := fun h => by have := Int.le_of_dvd (by omega) h; omega
  rcases hn with rfl | rfl | rfl | rfl | rfl
  · exact two
  · exact three
  · exact fun h => (prm_dvd_mul hp (show p ∣ 2 * 2 from h)).elim two two
  · exact fun h => (prm_dvd_mul hp (show p ∣ 3 * 3 from h)).elim three three
  · exact fun h => (prm_dvd_mul hp (show p ∣ 3 * 4 from h)).elim three fun h => (prm_dvd_mul hp (show p ∣ 2 * 2 from h)).elim two two
theorem eul {p a b c d x y : Int} (hp : prm p = true) (h3 : ¬ p ∣ 3) (h1 : p ∣ 3 * a * x * x + 2 * b * x * y + c * y * y) (h2 : p ∣ b * x * x + 2 * c * x * y + 3 * d * y * y) : ge1 p a b c d x y := by
  unfold ge1
  refine dv_p hp h3 ?_
  rw [show 3 * vx a b c d x y = (3 * a * x * x + 2 * b * x * y + c * y * y) * x + (b * x * x + 2 * c * x * y + 3 * d * y * y) * y by unfold vx; grind]
  exact Int.dvd_add (Int.dvd_mul_of_dvd_left h1) (Int.dvd_mul_of_dvd_left h2)
theorem fx1 {p a b c d : Int} (h : p ∣ dsx a b c d) : p ∣ 3 * a * -(b * c - 9 * a * d) * -(b * c - 9 * a * d) + 2 * b * -(b * c - 9 * a * d) * (2 * (b * b - 3 * a * c)) + c * (2 * (b * b - 3 * a * c)) * (2 * (b * b - 3 * a * c)) := by
  rw [show 3 * a * -(b * c - 9 * a * d) * -(b * c - 9 * a * d) + 2 * b * -(b * c - 9 * a * d) * (2 * (b * b - 3 * a * c)) + c * (2 * (b * b - 3 * a * c)) * (2 * (b * b - 3 * a * c)) = dsx a b c d * (-9 * a) by unfold dsx; grind]
  exact Int.dvd_mul_of_dvd_left h
theorem fy1 {p a b c d : Int} (h : p ∣ dsx a b c d) : p ∣ b * -(b * c - 9 * a * d) * -(b * c - 9 * a * d) + 2 * c * -(b * c - 9 * a * d) * (2 * (b * b - 3 * a * c)) + 3 * d * (2 * (b * b - 3 * a * c)) * (2 * (b * b - 3 * a * c)) := by
  rw [show b * -(b * c - 9 * a * d) * -(b * c - 9 * a * d) + 2 * c * -(b * c - 9 * a * d) * (2 * (b * b - 3 * a * c)) + 3 * d * (2 * (b * b - 3 * a * c)) * (2 * (b * b - 3 * a * c)) = dsx a b c d * (-3 * b) by unfold dsx; grind]
  exact Int.dvd_mul_of_dvd_left h
theorem fx2 {p a b c d : Int} (h : p ∣ dsx a b c d) : p ∣ 3 * a * (2 * (c * c - 3 * b * d)) * (2 * (c * c - 3 * b * d)) + 2 * b * (2 * (c * c - 3 * b * d)) * -(b * c - 9 * a * d) + c * -(b * c - 9 * a * d) * -(b * c - 9 * a * d) := by
  rw [show 3 * a * (2 * (c * c - 3 * b * d)) * (2 * (c * c - 3 * b * d)) + 2 * b * (2 * (c * c - 3 * b * d)) * -(b * c - 9 * a * d) + c * -(b * c - 9 * a * d) * -(b * c - 9 * a * d) = dsx a b c d * (-3 * c) by unfold dsx; grind]
  exact Int.dvd_mul_of_dvd_left h
theorem fy2 {p a b c d : Int} (h : p ∣ dsx a b c d) : p ∣ b * (2 * (c * c - 3 * b * d)) * (2 * (c * c - 3 * b * d)) + 2 * c * (2 * (c * c - 3 * b * d)) * -(b * c - 9 * a * d) + 3 * d * -(b * c - 9 * a * d) * -(b * c - 9 * a * d) := by
  rw [show b * (2 * (c * c - 3 * b * d)) * (2 * (c * c - 3 * b * d)) + 2 * c * (2 * (c * c - 3 * b * d)) * -(b * c - 9 * a * d) + 3 * d * -(b * c - 9 * a * d) * -(b * c - 9 * a * d) = dsx a b c d * (-9 * d) by unfold dsx; grind]
  exact Int.dvd_mul_of_dvd_left h
/-- A discriminant that is a multiple of p leads to a place of multiplicity 2. -/
theorem dsc_ge2 {p a b c d : Int} (hp : prm p = true) (hn : ¬ (p ∣ a ∧ p ∣ b ∧ p ∣ c ∧ p ∣ d)) (h : p ∣ dsx a b c d) : ∃ x y, ¬ (p ∣ x ∧ p ∣ y) ∧ ge2 p a b c d x y := by
  obtain ⟨h2, h97⟩ := prm_rng hp
  by_cases h5 : 5 ≤ p
  · -- the Hessian
    by_cases hH : p ∣ b * b - 3 * a * c ∧ p ∣ b * c - 9 * a * d ∧ p ∣ c * c - 3 * b * d
    · obtain ⟨hP, hQ, hR⟩ := hH
      by_cases ha : p ∣ a
      · have hb : p ∣ b := by
          have : p ∣ b * b := by rw [show b * b = (b * b - 3 * a * c) + a * (3 * c) by grind]; exact Int.dvd_add hP (Int.dvd_mul_of_dvd_left ha)
          exact (prm_dvd_mul hp this).elim id id
        refine ⟨1, 0, fun ⟨h1, _⟩ => (by have := Int.le_of_dvd (by omega) h1; omega), ?_, ?_, ?_⟩
        · unfold ge1; rw [show vx a b c d 1 0 = a by unfold vx; grind]; exact ha
        · rw [show 3 * a * 1 * 1 + 2 * b * 1 * 0 + c * 0 * 0 = a * 3 by grind]; exact Int.dvd_mul_of_dvd_left ha
        · rw [show b * 1 * 1 + 2 * c * 1 * 0 + 3 * d * 0 * 0 = b by grind]; exact hb
      · refine ⟨-b, 3 * a, fun ⟨_, h1⟩ => ha (dv_p hp (not_dv hp h5 (.inr (.inl rfl))) h1), ?_, ?_, ?_⟩
        · unfold ge1; rw [show vx a b c d (-b) (3 * a) = (b * b - 3 * a * c) * (2 * a * b) - (b * c - 9 * a * d) * (3 * a * a) by unfold vx; grind]
          exact Int.dvd_sub (Int.dvd_mul_of_dvd_left hP) (Int.dvd_mul_of_dvd_left hQ)
        · rw [show 3 * a * -b * -b + 2 * b * -b * (3 * a) + c * (3 * a) * (3 * a) = (b * b - 3 * a * c) * (-3 * a) by grind]; exact Int.dvd_mul_of_dvd_left hP
        · rw [show b * -b * -b + 2 * c * -b * (3 * a) + 3 * d * (3 * a) * (3 * a) = (b * b - 3 * a * c) * b - (b * c - 9 * a * d) * (3 * a) by grind]
          exact Int.dvd_sub (Int.dvd_mul_of_dvd_left hP) (Int.dvd_mul_of_dvd_left hQ)
    · by_cases hz : p ∣ -(b * c - 9 * a * d) ∧ p ∣ 2 * (b * b - 3 * a * c)
      · obtain ⟨z1, z2⟩ := hz
        have hQ := Int.dvd_neg.1 z1
        have hP := dv_p hp (not_dv hp h5 (.inl rfl)) z2
        have hR : ¬ p ∣ c * c - 3 * b * d := fun hR => hH ⟨hP, hQ, hR⟩
        refine ⟨2 * (c * c - 3 * b * d), -(b * c - 9 * a * d), fun ⟨h1, _⟩ => hR (dv_p hp (not_dv hp h5 (.inl rfl)) h1), ?_, ?_, ?_⟩
        · exact eul hp (not_dv hp h5 (.inr (.inl rfl))) (fx2 h) (fy2 h)
        · exact fx2 h
        · exact fy2 h
      · refine ⟨-(b * c - 9 * a * d), 2 * (b * b - 3 * a * c), hz, ?_, ?_, ?_⟩
        · exact eul hp (not_dv hp h5 (.inr (.inl rfl))) (fx1 h) (fy1 h)
        · exact fx1 h
        · exact fy1 h
  · have h4 : p ≠ 4 := fun e => by
      subst e
      rcases prm_dvd_mul hp (show (4 : Int) ∣ 2 * 2 by exact ⟨1, rfl⟩) with h | h <;> (have := Int.le_of_dvd (by omega) h; omega)
    have sq2 : ∀ x : Int, (2 : Int) ∣ x * x - x := fun x => by
      rcases Int.emod_two_eq x with e | e
      · obtain ⟨y, rfl⟩ : ∃ y, x = 2 * y := ⟨x / 2, by omega⟩
        exact ⟨2 * y * y - y, by grind⟩
      · obtain ⟨y, rfl⟩ : ∃ y, x = 2 * y + 1 := ⟨x / 2, by omega⟩
        exact ⟨2 * y * y + y, by grind⟩
    have cu3 : ∀ x : Int, (3 : Int) ∣ x * x * x - x := fun x => by
      rcases (show x % 3 = 0 ∨ x % 3 = 1 ∨ x % 3 = 2 by omega) with e | e | e
      · obtain ⟨y, rfl⟩ : ∃ y, x = 3 * y := ⟨x / 3, by omega⟩
        exact ⟨9 * y * y * y - y, by grind⟩
      · obtain ⟨y, rfl⟩ : ∃ y, x = 3 * y + 1 := ⟨x / 3, by omega⟩
        exact ⟨9 * y * y * y + 9 * y * y + 2 * y, by grind⟩
      · obtain ⟨y, rfl⟩ : ∃ y, x = 3 * y + 2 := ⟨x / 3, by omega⟩
        exact ⟨9 * y * y * y + 18 * y * y + 11 * y + 2, by grind⟩
    rcases (show p = 2 ∨ p = 3 by omega) with rfl | rfl
    · -- p = 2
      have hd : (2 : Int) ∣ b * c - a * d := by
        have s1 := sq2 (b * c)
        have s2 := sq2 (a * d)
        rw [show b * c - a * d = dsx a b c d - (b * c * (b * c) - b * c) + (a * d * (a * d) - a * d) + 2 * (2 * a * c * c * c + 2 * b * b * b * d + 13 * a * a * d * d - 9 * a * b * c * d) by unfold dsx; grind]
        exact Int.dvd_add (Int.dvd_add (Int.dvd_sub h s1) s2) (Int.dvd_mul_right _ _)
      have key : ∀ x y : Int, ¬ ((2 : Int) ∣ x ∧ (2 : Int) ∣ y) → (2 : Int) ∣ a * x + c * y → (2 : Int) ∣ b * x + d * y → ∃ x y, ¬ ((2 : Int) ∣ x ∧ (2 : Int) ∣ y) ∧ ge2 2 a b c d x y := fun x y hne k1 k2 => by
        have s1 := sq2 x
        have s2 := sq2 y
        have f1 : (2 : Int) ∣ a * (x * x) + c * (y * y) := by
          rw [show a * (x * x) + c * (y * y) = (a * x + c * y) + (x * x - x) * a + (y * y - y) * c by grind]
          exact Int.dvd_add (Int.dvd_add k1 (Int.dvd_mul_of_dvd_left s1)) (Int.dvd_mul_of_dvd_left s2)
        have f2 : (2 : Int) ∣ b * (x * x) + d * (y * y) := by
          rw [show b * (x * x) + d * (y * y) = (b * x + d * y) + (x * x - x) * b + (y * y - y) * d by grind]
          exact Int.dvd_add (Int.dvd_add k2 (Int.dvd_mul_of_dvd_left s1)) (Int.dvd_mul_of_dvd_left s2)
        refine ⟨x, y, hne, ?_, ?_, ?_⟩
        · unfold ge1; rw [show vx a b c d x y = (a * (x * x) + c * (y * y)) * x + (b * (x * x) + d * (y * y)) * y by unfold vx; grind]
          exact Int.dvd_add (Int.dvd_mul_of_dvd_left f1) (Int.dvd_mul_of_dvd_left f2)
        · rw [show 3 * a * x * x + 2 * b * x * y + c * y * y = (a * (x * x) + c * (y * y)) + 2 * (a * x * x + b * x * y) by grind]; exact Int.dvd_add f1 (Int.dvd_mul_right _ _)
        · rw [show b * x * x + 2 * c * x * y + 3 * d * y * y = (b * (x * x) + d * (y * y)) + 2 * (c * x * y + d * y * y) by grind]; exact Int.dvd_add f2 (Int.dvd_mul_right _ _)
      by_cases h1 : (2 : Int) ∣ c ∧ (2 : Int) ∣ a
      · exact key d b (fun ⟨k1, k2⟩ => hn ⟨h1.2, k2, h1.1, k1⟩) (Int.dvd_add (Int.dvd_mul_of_dvd_left h1.2) (Int.dvd_mul_of_dvd_left h1.1)) (by rw [show b * d + d * b = 2 * (b * d) by grind]; exact Int.dvd_mul_right _ _)
      · exact key c a h1 (by rw [show a * c + c * a = 2 * (a * c) by grind]; exact Int.dvd_mul_right _ _) (by rw [show b * c + d * a = (b * c - a * d) + 2 * (a * d) by grind]; exact Int.dvd_add hd (Int.dvd_mul_right _ _))
    · -- p = 3
      by_cases h1 : (3 : Int) ∣ c ∧ (3 : Int) ∣ b
      · obtain ⟨hc, hb⟩ := h1
        refine ⟨d, -a, fun ⟨k1, k2⟩ => hn ⟨Int.dvd_neg.1 k2, hb, hc, k1⟩, ?_, ?_, ?_⟩
        · unfold ge1
          rw [show vx a b c d d (-a) = (d * d * d - d) * a - (a * a * a - a) * d - b * (d * d * a) + c * (a * a * d) by unfold vx; grind]
          exact Int.dvd_add (Int.dvd_sub (Int.dvd_sub (Int.dvd_mul_of_dvd_left (cu3 d)) (Int.dvd_mul_of_dvd_left (cu3 a))) (Int.dvd_mul_of_dvd_left hb)) (Int.dvd_mul_of_dvd_left hc)
        · rw [show 3 * a * d * d + 2 * b * d * -a + c * -a * -a = 3 * (a * d * d) + b * (-2 * d * a) + c * (a * a) by grind]
          exact Int.dvd_add (Int.dvd_add (Int.dvd_mul_right _ _) (Int.dvd_mul_of_dvd_left hb)) (Int.dvd_mul_of_dvd_left hc)
        · rw [show b * d * d + 2 * c * d * -a + 3 * d * -a * -a = 3 * (d * a * a) + b * (d * d) + c * (-2 * d * a) by grind]
          exact Int.dvd_add (Int.dvd_add (Int.dvd_mul_right _ _) (Int.dvd_mul_of_dvd_left hb)) (Int.dvd_mul_of_dvd_left hc)
      · refine ⟨c, b, h1, ?_, ?_, ?_⟩
        · unfold ge1
          rw [show vx a b c d c b = -dsx a b c d + 3 * (b * b * c * c - a * c * c * c - b * b * b * d - 9 * a * a * d * d + 6 * a * b * c * d) by unfold vx dsx; grind]
          exact Int.dvd_add (Int.dvd_neg.2 h) (Int.dvd_mul_right _ _)
        · rw [show 3 * a * c * c + 2 * b * c * b + c * b * b = 3 * (a * c * c + b * b * c) by grind]; exact Int.dvd_mul_right _ _
        · rw [show b * c * c + 2 * c * c * b + 3 * d * b * b = 3 * (b * c * c + d * b * b) by grind]; exact Int.dvd_mul_right _ _
/-- .. and back. -/
theorem ge2_dsc {p a b c d : Int} {q : Int × Int} (hq : q ∈ ptm p) (h : ge2 p a b c d q.1 q.2) : p ∣ dsx a b c d := by
  obtain ⟨h1, h2, h3⟩ := h
  unfold ge1 at h1
  rcases pt_is hq with ⟨e, _⟩ | e
  · rw [e] at h1 h2
    generalize q.1 = x at h1 h2
    rw [show 3 * a * x * x + 2 * b * x * 1 + c * 1 * 1 = 3 * a * x * x + 2 * b * x + c by grind] at h2
    rw [show vx a b c d x 1 = a * x * x * x + b * x * x + c * x + d by unfold vx; grind] at h1
    rw [show dsx a b c d = (3 * a * x * x + 2 * b * x + c) * ((3 * a * x + b) * (3 * a * x + b) * (3 * a * x * x + 2 * b * x + c) - 4 * a * (3 * a * x * x + 2 * b * x + c) * (3 * a * x * x + 2 * b * x + c)) + (a * x * x * x + b * x * x + c * x + d) * (-4 * (3 * a * x + b) * (3 * a * x + b) * (3 * a * x + b) - 27 * a * a * (a * x * x * x + b * x * x + c * x + d) + 18 * a * (3 * a * x + b) * (3 * a * x * x + 2 * b * x + c)) by unfold dsx; grind]
    exact Int.dvd_add (Int.dvd_mul_of_dvd_left h2) (Int.dvd_mul_of_dvd_left h1)
  · rw [e] at h1 h3
    rw [show vx a b c d 1 0 = a by unfold vx; grind] at h1
    rw [show b * 1 * 1 + 2 * c * 1 * 0 + 3 * d * 0 * 0 = b by grind] at h3
    rw [show dsx a b c d = b * (b * c * c - 4 * b * b * d) + a * (-4 * c * c * c - 27 * a * d * d + 18 * b * c * d) by unfold dsx; grind]
    exact Int.dvd_add (Int.dvd_mul_of_dvd_left h3) (Int.dvd_mul_of_dvd_left h1)
theorem dsc_iff {p a b c d : Int} (hp : prm p = true) (hn : ¬ (p ∣ a ∧ p ∣ b ∧ p ∣ c ∧ p ∣ d)) : p ∣ dsx a b c d ↔ ∃ q ∈ ptm p, 2 ≤ mmu p a b c d q.1 q.2 := by
  constructor
  · intro h
    obtain ⟨x, y, hne, hg⟩ := dsc_ge2 hp hn h
    obtain ⟨q, hq, l, hl, hx, hy⟩ := pt_of hp hne
    exact ⟨q, hq, (mu2_pt hq).2 ((ge2_pt hp hl hx hy).1 hg)⟩
  · rintro ⟨q, hq, h⟩
    exact ge2_dsc hq ((mu2_pt hq).1 h)
theorem dsc_eq {a b c d : Int} (h : isF a b c d = true) : dsc a b c d = dsx a b c d := by
  obtain ⟨ha, hb, hc, hd⟩ := isF_t h
  have e1 := mulb4 hb hb hc hc
  have e2 := mulb (mulb4 (show -4 ≤ (4 : Int) ∧ (4 : Int) ≤ 4 by omega) ha hc hc) hc
  have e3 := mulb (mulb4 (show -4 ≤ (4 : Int) ∧ (4 : Int) ≤ 4 by omega) hb hb hb) hd
  have e4 := mulb (mulb4 (show -27 ≤ (27 : Int) ∧ (27 : Int) ≤ 27 by omega) ha ha hd) hd
  have e5 := mulb (mulb4 (show -18 ≤ (18 : Int) ∧ (18 : Int) ≤ 18 by omega) ha hb hc) hd
  simp only [Int.reduceMul] at e1 e2 e3 e4 e5
  have hw : dsc a b c d = wrap64 (dsx a b c d) := by
    simp only [dsx, dsc, pl, mi, mu, wr_al, wr_ar, wr_sl, wr_sr, wr_ml]
  rw [hw]
  exact wr_in (by unfold dsx; omega)
/-- The multiplicities of the roots that were found, together. -/
def rtt (R : List (Int × Int × Int)) : Int := (R.map fun r => r.2.2).sum
theorem rts_tot {p : Int} {L : List Int} {m : Int × Int → Nat} : ∀ P : List (Int × Int), (∀ q ∈ P, mlt p q.1 q.2 4 L = m q) → rtt (rts p L P) = ((P.map m).sum : Nat) := by
  intro P
  induction P with
  | nil => intro _; rfl
  | cons q P ih =>
    intro h
    have h0 := h q List.mem_cons_self
    have hi := ih fun x hx => h x (List.mem_cons_of_mem _ hx)
    unfold rtt rts at hi ⊢
    rw [List.flatMap_cons, List.map_append, List.sum_append, hi, List.map_cons, List.sum_cons]
    unfold rt1
    rw [h0]
    by_cases e : m q = 0
    · simp [e]
    · simp [e]
theorem rtp_tot {p a b c d : Int} (hF : isF a b c d = true) (hp : prm p = true) (hN : mul0 (cnt a b c d) p = false) : rtt (rtp a b c d p) = (smu p a b c d : Nat) :=
  rts_tot (m := fun q => mmu p a b c d q.1 q.2) (ptm p) fun _ hq => mlt_pt hF hp hN hq
theorem nul_n {p a b c d : Int} (hN : mul0 (cnt a b c d) p = false) : ¬ (p ∣ a ∧ p ∣ b ∧ p ∣ c ∧ p ∣ d) := fun h => by
  rw [mul0_d] at hN
  exact (of_decide_eq_false hN) (cnt_dvd.2 h)
/-- What stands of the roots: their multiplicities make 3, or there is at most one, a simple one. -/
theorem rtp_or {p a b c d : Int} (hF : isF a b c d = true) (hp : prm p = true) (hN : mul0 (cnt a b c d) p = false) : rtt (rtp a b c d p) = 3 ∨ (mxt (rtp a b c d p) ≤ 1 ∧ (rtp a b c d p).length ≤ 1) := by
  rcases smu_or hp (nul_n hN) with h | ⟨h1, h2⟩
  · left; rw [rtp_tot hF hp hN, h]; rfl
  · right
    constructor
    · refine Classical.byContradiction fun h => ?_
      obtain ⟨q, hq, hm⟩ := (mxt_k 2 (by omega) hF hp hN).1 (by omega)
      have := h1 q hq
      omega
    · rw [rtp_zpt hF hp hN]
      have hnd := (ptm_nodup p).filter fun q => decide (1 ≤ mmu p a b c d q.1 q.2)
      have hz : ∀ x ∈ zpt a b c d p, ∀ y ∈ zpt a b c d p, x = y := fun x hx y hy => by
        obtain ⟨hx1, hx2⟩ := List.mem_filter.1 hx
        obtain ⟨hy1, hy2⟩ := List.mem_filter.1 hy
        exact h2 x hx1 y hy1 (of_decide_eq_true hx2) (of_decide_eq_true hy2)
      change (zpt a b c d p).Nodup at hnd
      generalize zpt a b c d p = Z at hz hnd
      match Z, hz, hnd with
      | [], _, _ => simp
      | [x], _, _ => simp
      | x :: y :: Z, hz, hnd =>
        have := hz x List.mem_cons_self y (List.mem_cons_of_mem _ List.mem_cons_self)
        subst this
        simp at hnd
theorem tot_len : ∀ (R : List (Int × Int × Int)) (k : Int), (∀ r ∈ R, 0 < r.2.2 ∧ r.2.2 ≤ k) → (R.length : Int) ≤ rtt R ∧ rtt R ≤ k * R.length := by
  intro R
  induction R with
  | nil => intro k _; simp [rtt]
  | cons r R ih =>
    intro k h
    obtain ⟨h1, h2⟩ := ih k fun r' hr' => h r' (List.mem_cons_of_mem _ hr')
    obtain ⟨h3, h4⟩ := h r List.mem_cons_self
    unfold rtt at h1 h2 ⊢
    simp only [List.map_cons, List.sum_cons, List.length_cons]
    constructor
    · omega
    · rw [show k * ((R.length + 1 : Nat) : Int) = k * R.length + k by push_cast; grind]; omega
theorem tot_mem : ∀ (R : List (Int × Int × Int)) (r : Int × Int × Int), r ∈ R → (∀ r ∈ R, 0 < r.2.2) → r.2.2 + (R.length : Int) - 1 ≤ rtt R := by
  intro R
  induction R with
  | nil => intro r h; cases h
  | cons x R ih =>
    intro r hr h
    have hx := h x List.mem_cons_self
    have hl := (tot_len R (rtt R) fun r' hr' => ⟨h r' (List.mem_cons_of_mem _ hr'), by
      have : ∀ (M : List (Int × Int × Int)), (∀ r ∈ M, 0 < r.2.2) → ∀ r ∈ M, r.2.2 ≤ rtt M := by
        intro M
        induction M with
        | nil => intro _ r hr; cases hr
        | cons y M ihm =>
          intro hM r hr
          have hy := hM y List.mem_cons_self
          have hpos : 0 ≤ rtt M := by
            clear ihm hr
            induction M with
            | nil => simp [rtt]
            | cons z M ihz =>
              have := ihz fun r hr => hM r (by rcases List.mem_cons.1 hr with rfl | hr; exact List.mem_cons_self; exact List.mem_cons_of_mem _ (List.mem_cons_of_mem _ hr))
              have hz := hM z (List.mem_cons_of_mem _ List.mem_cons_self)
              unfold rtt at this ⊢
              simp only [List.map_cons, List.sum_cons]; omega
          rcases List.mem_cons.1 hr with rfl | hr
          · unfold rtt at hpos ⊢; simp only [List.map_cons, List.sum_cons]; omega
          · have := ihm (fun r hr => hM r (List.mem_cons_of_mem _ hr)) r hr
            unfold rtt at this ⊢; simp only [List.map_cons, List.sum_cons]; omega
      exact this R (fun r hr => h r (List.mem_cons_of_mem _ hr)) r' hr'⟩).1
    unfold rtt at hl ih ⊢
    simp only [List.map_cons, List.sum_cons, List.length_cons]
    rcases List.mem_cons.1 hr with rfl | hr
    · push_cast; omega
    · have := ih r hr fun r hr => h r (List.mem_cons_of_mem _ hr)
      push_cast; omega
theorem mx_mem : ∀ (R : List (Int × Int × Int)) (m : Int), R.foldl (fun m r => max m r.2.2) m = m ∨ ∃ r ∈ R, r.2.2 = R.foldl (fun m r => max m r.2.2) m := by
  intro R
  induction R with
  | nil => intro m; exact .inl rfl
  | cons x R ih =>
    intro m
    rw [List.foldl_cons]
    rcases ih (max m x.2.2) with h | ⟨r, hr, h⟩
    · rw [h]
      by_cases e : m ≤ x.2.2
      · exact .inr ⟨x, List.mem_cons_self, by omega⟩
      · exact .inl (by omega)
    · exact .inr ⟨r, List.mem_cons_of_mem _ hr, h⟩
/-- Kinds, roots, multiplicities and the discriminant. -/
structure KdOk (kd len tt : Int) (ram : Bool) : Prop where
  k1 : kd = 1 → len = 3 ∧ tt = 3
  k2 : kd = 2 → len = 1 ∧ tt = 1
  k3 : kd = 3 → len = 0
  k4 : kd = 4 → len = 2 ∧ tt = 3
  k5 : kd = 5 → len = 1 ∧ tt = 3
  rng : 1 ≤ kd ∧ kd ≤ 5
  ra : ram = decide (kd = 4 ∨ kd = 5)
theorem kd_ok {p a b c d : Int} (hF : isF a b c d = true) (hp : prm p = true) (hN : mul0 (cnt a b c d) p = false) : KdOk (kdn a b c d p) (rtp a b c d p).length (rtt (rtp a b c d p)) (mul0 (dsc a b c d) p) := by
  have hr3 := rtp_3 hF (prm_prq hp) hN
  have hor := rtp_or hF hp hN
  have hk : kdn a b c d p = kdm (rtp a b c d p) := by unfold kdn; rw [hN]; exact kd_eq (rtp_pw hF (prm_prq hp) hN) hr3
  have hd : mul0 (dsc a b c d) p = decide (2 ≤ mxt (rtp a b c d p)) := by
    rw [mul0_d, dsc_eq hF]
    refine decide_eq_decide.2 ?_
    rw [dsc_iff hp (nul_n hN)]
    exact (mxt_k 2 (by omega) hF hp hN).symm
  rw [hk, hd]
  generalize rtp a b c d p = R at hr3 hor
  have hl := tot_len R (mxt R) fun r hr => ⟨(hr3 r hr).1, (mx_ge R 0).2 r hr⟩
  have hm3 : mxt R ≤ 3 := mx_of R 0 3 (by omega) fun r hr => (hr3 r hr).2
  have hm0 : 0 ≤ mxt R := (mx_ge R 0).1
  have hmm : mxt R = 0 ∨ mxt R + (R.length : Int) - 1 ≤ rtt R := by
    rcases mx_mem R 0 with h | ⟨r, hr, h⟩
    · exact .inl h
    · right
      have := tot_mem R r hr fun r hr => (hr3 r hr).1
      unfold mxt; omega
  unfold kdm
  generalize mxt R = m at hl hm3 hm0 hmm hor
  generalize rtt R = t at hl hmm hor
  generalize R.length = n at hl hmm hor
  obtain ⟨hl1, hl2⟩ := hl
  rcases (show m = 0 ∨ m = 1 ∨ m = 2 ∨ m = 3 by omega) with rfl | rfl | rfl | rfl
  · have : n = 0 := by omega
    subst this
    refine ⟨?_, ?_, ?_, ?_, ?_, ?_, ?_⟩ <;> simp
  · by_cases e3 : n = 3
    · subst e3; refine ⟨?_, ?_, ?_, ?_, ?_, ?_, ?_⟩ <;> simp; omega
    · by_cases e1 : n = 1
      · subst e1; refine ⟨?_, ?_, ?_, ?_, ?_, ?_, ?_⟩ <;> simp; omega
      · have : n = 0 := by omega
        subst this
        refine ⟨?_, ?_, ?_, ?_, ?_, ?_, ?_⟩ <;> simp
  · have : n = 2 ∧ t = 3 := by omega
    obtain ⟨rfl, rfl⟩ := this
    refine ⟨?_, ?_, ?_, ?_, ?_, ?_, ?_⟩ <;> simp
  · have : n = 1 ∧ t = 3 := by omega
    obtain ⟨rfl, rfl⟩ := this
    refine ⟨?_, ?_, ?_, ?_, ?_, ?_, ?_⟩ <;> simp


end Go.Proofs.YtambbhldhhlfgaaDoor
