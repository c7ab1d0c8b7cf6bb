/- Reduction of cubic forms ends, and no number becomes too great: for discriminants greater than 0 by the Hessian, for those less than 0 by a product of a linear and a definite quadratic form with whole numbers that lies near to a great multiple of the form. Mathematics alone. -/
import Derived.Test.YtikmjefbjejbkaaRows
namespace Go.Proofs.Ytikmjefbjejbkaa.Red
theorem sq0 (x : Int) : 0 ≤ x * x := by
  rcases Int.le_total 0 x with h | h
  · exact Int.mul_nonneg h h
  · exact Int.mul_nonneg_of_nonpos_of_nonpos h h
theorem mb {x y X Y : Int} (hx : -X ≤ x ∧ x ≤ X) (hy : -Y ≤ y ∧ y ≤ Y) : -(X * Y) ≤ x * y ∧ x * y ≤ X * Y := by
  have hX : 0 ≤ X := by omega
  have hY : 0 ≤ Y := by omega
  have h1 : 0 ≤ (X - x) * (Y + y) := Int.mul_nonneg (by omega) (by omega)
  have h2 : 0 ≤ (X + x) * (Y - y) := Int.mul_nonneg (by omega) (by omega)
  have h3 : 0 ≤ (X - x) * (Y - y) := Int.mul_nonneg (by omega) (by omega)
  have h4 : 0 ≤ (X + x) * (Y + y) := Int.mul_nonneg (by omega) (by omega)
  constructor <;> grind
theorem sq_lt {x y : Int} (hy : 0 ≤ y) (h : x * x < y * y) : -y < x ∧ x < y := by
  constructor
  · rcases Int.lt_or_le (-y) x with h1 | h1
    · exact h1
    · have : 0 ≤ (-x - y) * (-x + y) := Int.mul_nonneg (by omega) (by omega)
      grind
  · rcases Int.lt_or_le x y with h1 | h1
    · exact h1
    · have : 0 ≤ (x - y) * (x + y) := Int.mul_nonneg (by omega) (by omega)
      grind
/-- Four numbers. -/
abbrev F4 := Int × Int × Int × Int
def dsc (a b c d : Int) : Int := b*b*c*c - 4*a*c*c*c - 4*b*b*b*d - 27*a*a*d*d + 18*a*b*c*d
def qv (A B C x z : Int) : Int := A*x*x + B*x*z + C*z*z
def fv (a b c d x z : Int) : Int := a*x*x*x + b*x*x*z + c*x*z*z + d*z*z*z
/-- The numbers of a form that is changed. -/
def fA (a b c d x z : Int) : Int := fv a b c d x z
def fB (a b c d x y z t : Int) : Int := 3*a*x*x*y + b*(x*x*t + 2*x*y*z) + c*(2*x*z*t + y*z*z) + 3*d*z*z*t
/-- The numbers of a product that is changed. -/
def qB (A B C x y z t : Int) : Int := 2*A*x*y + B*(x*t + y*z) + 2*C*z*t
theorem J_ch (A B C x y z t : Int) : 4 * qv A B C x z * qv A B C y t - qB A B C x y z t * qB A B C x y z t = (4*A*C - B*B) * ((x*t - y*z) * (x*t - y*z)) := by unfold qv qB; grind
theorem mid_lt {A B C : Int} (h : 1 ≤ 4*A*C - B*B) (hA : 1 ≤ A) (hC : 1 ≤ C) : -(A + C) < B ∧ B < A + C := by
  refine sq_lt (by omega) ?_
  have := sq0 (A - C)
  grind
theorem fA_ch (a b c d x y z t u v : Int) : fA (fA a b c d x z) (fB a b c d x y z t) (fB a b c d y x t z) (fA a b c d y t) u v = fA a b c d (x*u + y*v) (z*u + t*v) := by
  unfold fA fB fv; grind
theorem fB_ch (a b c d x y z t u v p q : Int) : fB (fA a b c d x z) (fB a b c d x y z t) (fB a b c d y x t z) (fA a b c d y t) u p v q = fB a b c d (x*u + y*v) (x*p + y*q) (z*u + t*v) (z*p + t*q) := by
  unfold fB fA fv; grind
theorem qv_ch (A B C x y z t u v : Int) : qv (qv A B C x z) (qB A B C x y z t) (qv A B C y t) u v = qv A B C (x*u + y*v) (z*u + t*v) := by
  unfold qv qB; grind
/-- A definite form at a small place. -/
theorem qv_one {A B C u v : Int} (hB : -(A + C) < B ∧ B < A + C) (hA : 1 ≤ A) (hC : 1 ≤ C) (hu : -1 ≤ u ∧ u ≤ 1) (hv : -1 ≤ v ∧ v ≤ 1) : qv A B C u v ≤ 2 * (A + C) := by
  have h1 : u = -1 ∨ u = 0 ∨ u = 1 := by omega
  have h2 : v = -1 ∨ v = 0 ∨ v = 1 := by omega
  unfold qv
  rcases h1 with rfl | rfl | rfl <;> rcases h2 with rfl | rfl | rfl <;> omega
/-- The three margins. -/
def lf (s : Bool) (a b c d : Int) : Int := if s then (b*b - 3*a*c) - (b*c - 9*a*d) else (a*d - b*c) + (a-b)*(a-b) + a*c
def rt (s : Bool) (a b c d : Int) : Int := if s then (b*b - 3*a*c) + (b*c - 9*a*d) else (a+b)*(a+b) + a*c - (a*d - b*c)
def hg (s : Bool) (a b c d : Int) : Int := if s then (c*c - 3*b*d) - (b*b - 3*a*c) else d*d - a*a - b*d + a*c
def isR (s : Bool) (a b c d : Int) : Bool := decide (0 ≤ lf s a b c d) && decide (0 ≤ rt s a b c d) && decide (0 ≤ hg s a b c d)
/-- One step. -/
def stp (s : Bool) (t : F4) : F4 :=
  let (a, b, c, d) := t
  if lf s a b c d < 0 then (a, b - 3*a, c - 2*b + 3*a, d - c + b - a)
  else if rt s a b c d < 0 then (a, b + 3*a, c + 2*b + 3*a, d + c + b + a)
  else (d, c, b, a)
def Bd (t : F4) : Prop := (-430000000 ≤ t.1 ∧ t.1 ≤ 430000000) ∧ (-1620000000 ≤ t.2.1 ∧ t.2.1 ≤ 1620000000) ∧ (-1620000000 ≤ t.2.2.1 ∧ t.2.2.1 ≤ 1620000000) ∧ (-430000000 ≤ t.2.2.2 ∧ t.2.2.2 ≤ 430000000)
def rdF (s : Bool) (t : F4) : Bool := isR s t.1 t.2.1 t.2.2.1 t.2.2.2
/-- What holds of each form on the way: bounds, and no two ways to move. -/
def Ok (s : Bool) (t : F4) : Prop := Bd t ∧ ¬ (lf s t.1 t.2.1 t.2.2.1 t.2.2.2 < 0 ∧ rt s t.1 t.2.1 t.2.2.1 t.2.2.2 < 0)
/-- All forms that small matrices make of it are bounded. -/
def UB (t : F4) : Prop := ∀ x y z w : Int, (-1 ≤ x ∧ x ≤ 1) → (-1 ≤ y ∧ y ≤ 1) → (-1 ≤ z ∧ z ≤ 1) → (-1 ≤ w ∧ w ≤ 1) → (x*w - y*z) * (x*w - y*z) = 1 →
  Bd (fA t.1 t.2.1 t.2.2.1 t.2.2.2 x z, fB t.1 t.2.1 t.2.2.1 t.2.2.2 x y z w, fB t.1 t.2.1 t.2.2.1 t.2.2.2 y x w z, fA t.1 t.2.1 t.2.2.1 t.2.2.2 y w)
/-- The last form. -/
def fin (s : Bool) : Nat → F4 → F4
  | 0, t => t
  | n + 1, t => if rdF s t = true then t else fin s n (stp s t)
/-- It ends within n steps. -/
def En (s : Bool) : Nat → F4 → Prop
  | 0, _ => False
  | n + 1, t => Ok s t ∧ (rdF s t = true ∨ En s n (stp s t))
theorem En.mono {s : Bool} : ∀ {n m : Nat} {t : F4}, n ≤ m → En s n t → En s m t := by
  intro n
  induction n with
  | zero => intro m t _ h; exact h.elim
  | succ n ih =>
    intro m t hm h
    obtain ⟨m, rfl⟩ : ∃ k, m = k + 1 := ⟨m - 1, by omega⟩
    exact ⟨h.1, h.2.imp id (ih (by omega))⟩
/-- A measure that falls. -/
theorem ends_gen {σ : Type} (s : Bool) (F : σ → F4) (A C : σ → Int) (I : σ → Prop) (hb : ∀ x, I x → Ok s (F x) ∧ 0 < A x ∧ 0 < C x ∧ UB (F x))
    (hs : ∀ x, I x → rdF s (F x) = false → ∃ y, I y ∧ F y = stp s (F x) ∧ (A y = A x ∧ A y + C y < A x + C x ∨ A y < A x ∧ A y + C y = A x + C x)) :
    ∀ (N k : Nat) (x : σ), I x → A x + C x ≤ N → A x ≤ k → ∃ n, En s n (F x) ∧ UB (fin s n (F x)) := by
  intro N
  induction N with
  | zero => intro k x h hN _; have := hb x h; omega
  | succ N ihN =>
    intro k
    induction k with
    | zero => intro x h _ hk; have := hb x h; omega
    | succ k ihk =>
      intro x h hN hk
      obtain ⟨h1, h2, h3, h4⟩ := hb x h
      by_cases hr : rdF s (F x) = true
      · exact ⟨1, ⟨h1, .inl hr⟩, by rw [fin, if_pos hr]; exact h4⟩
      · obtain ⟨y, hy, e, hm⟩ := hs x h (by simpa using hr)
        have : ∃ n, En s n (F y) ∧ UB (fin s n (F y)) := by
          rcases hm with ⟨m1, m2⟩ | ⟨m1, m2⟩
          · exact ihN (A y).toNat y hy (by omega) (by omega)
          · exact ihk y hy (by omega) (by omega)
        obtain ⟨n, hn, hu⟩ := this
        rw [e] at hn hu
        exact ⟨n + 1, ⟨h1, .inr hn⟩, by rw [fin, if_neg hr]; exact hu⟩
/- ## Discriminants greater than 0 -/
def hP (a b c : Int) : Int := b*b - 3*a*c
def hQ (a b c d : Int) : Int := b*c - 9*a*d
theorem hes_disc (a b c d : Int) : 4 * hP a b c * hP d c b - hQ a b c d * hQ a b c d = 3 * dsc a b c d := by
  unfold hP hQ dsc; grind
/-- The syzygy at 1, 0. -/
theorem syz0 (a b c d : Int) : ∃ g : Int, 4 * (hP a b c * hP a b c * hP a b c) = g * g + 27 * dsc a b c d * (a * a) :=
  ⟨2*b*b*b - 9*a*b*c + 27*a*a*d, by unfold hP dsc; grind⟩
theorem pos_pr {a b c d : Int} (hD : 0 < dsc a b c d) : (0 < hP a b c ∧ 0 < hP d c b) := by
  have h1 := hes_disc a b c d
  have h2 := sq0 (hQ a b c d)
  obtain ⟨g, hg⟩ := syz0 a b c d
  obtain ⟨g', hg'⟩ := syz0 d c b a
  have e : dsc d c b a = dsc a b c d := by unfold dsc; grind
  have hpr : 0 < hP a b c * hP d c b := by grind
  have nn : ∀ P G x : Int, 4 * (P * P * P) = G * G + 27 * dsc a b c d * (x * x) → 0 ≤ P := fun P G x h => by
    rcases Int.lt_or_le P 0 with hp | hp
    · have h3 : P * P * P ≤ 0 := Int.mul_nonpos_of_nonneg_of_nonpos (sq0 P) (by omega)
      have h4 := sq0 G
      have h5 : 0 ≤ 27 * dsc a b c d * (x * x) := Int.mul_nonneg (by omega) (sq0 x)
      have h6 : P * P * P = 0 := by omega
      have : P = 0 := by
        rcases Int.mul_eq_zero.1 h6 with h7 | h7
        · rcases Int.mul_eq_zero.1 h7 with h8 | h8 <;> exact h8
        · exact h7
      omega
    · exact hp
  have p1 := nn _ _ _ hg
  rw [e] at hg'
  have p2 := nn _ _ _ hg'
  constructor
  · rcases Int.lt_or_le 0 (hP a b c) with h | h
    · exact h
    · have : hP a b c = 0 := by omega
      rw [this] at hpr; simp at hpr
  · rcases Int.lt_or_le 0 (hP d c b) with h | h
    · exact h
    · have : hP d c b = 0 := by omega
      rw [this] at hpr; simp at hpr
/-- A value is small where the Hessian's is. -/
theorem val_small {P a D X : Int} (h : ∃ g : Int, 4 * (P * P * P) = g * g + 27 * D * (a * a)) (hD : 1 ≤ D) (hX : 0 ≤ X) (hP : P * P * P * 4 < 27 * (X * X)) : -X < a ∧ a < X := by
  obtain ⟨g, h⟩ := h
  have h1 := sq0 g
  have h2 : 0 ≤ (D - 1) * (a * a) := Int.mul_nonneg (by omega) (sq0 a)
  refine sq_lt hX ?_
  grind
theorem cube_le {P M : Int} (h0 : 0 ≤ P) (h : P ≤ M) : P * P * P ≤ M * M * M := by
  have h1 : P * P ≤ M * M := Int.mul_le_mul h h h0 (by omega)
  exact Int.mul_le_mul h1 h h0 (Int.mul_nonneg (by omega) (by omega))
theorem dsc_T (a b c d k : Int) : dsc a (b + 3*a*k) (c + 2*b*k + 3*a*k*k) (d + c*k + b*k*k + a*k*k*k) = dsc a b c d := by
  unfold dsc; grind
theorem pos_bd {a b c d : Int} (hD : 1 ≤ dsc a b c d) (h : hP a b c + hP d c b ≤ 320000) : Bd (a, b, c, d) := by
  obtain ⟨p1, p2⟩ := pos_pr (by omega : 0 < dsc a b c d)
  have e : dsc d c b a = dsc a b c d := by unfold dsc; grind
  have A := val_small (X := 75000000) (syz0 a b c d) hD (by omega) (by have := cube_le (M := 320000) (by omega) (by omega : hP a b c ≤ 320000); omega)
  have s2 := syz0 d c b a
  rw [e] at s2
  have B := val_small (X := 75000000) s2 hD (by omega) (by have := cube_le (M := 320000) (by omega) (by omega : hP d c b ≤ 320000); omega)
  -- at 1, 1 and at 1, -1
  have hq := hes_disc a b c d
  have hq2 : hQ a b c d * hQ a b c d < (hP a b c + hP d c b) * (hP a b c + hP d c b) := by
    have := sq0 (hP a b c - hP d c b)
    grind
  obtain ⟨q1, q2⟩ := sq_lt (by omega) hq2
  have t1 : hP (d + c*1 + b*1*1 + a*1*1*1) (c + 2*b*1 + 3*a*1*1) (b + 3*a*1) = hP a b c + hQ a b c d + hP d c b := by unfold hP hQ; grind
  have t2 : hP (d + c*(-1) + b*(-1)*(-1) + a*(-1)*(-1)*(-1)) (c + 2*b*(-1) + 3*a*(-1)*(-1)) (b + 3*a*(-1)) = hP a b c - hQ a b c d + hP d c b := by unfold hP hQ; grind
  have e1 := dsc_T a b c d 1
  have e2 := dsc_T a b c d (-1)
  have rv : ∀ a b c d : Int, dsc d c b a = dsc a b c d := fun a b c d => by unfold dsc; grind
  have s3 := syz0 (d + c*1 + b*1*1 + a*1*1*1) (c + 2*b*1 + 3*a*1*1) (b + 3*a*1) a
  have s4 := syz0 (d + c*(-1) + b*(-1)*(-1) + a*(-1)*(-1)*(-1)) (c + 2*b*(-1) + 3*a*(-1)*(-1)) (b + 3*a*(-1)) a
  rw [rv, e1, t1] at s3
  rw [rv, e2, t2] at s4
  have C := val_small (X := 210000000) s3 hD (by omega) (by have := cube_le (M := 640000) (by omega) (by omega : hP a b c + hQ a b c d + hP d c b ≤ 640000); omega)
  have E := val_small (X := 210000000) s4 hD (by omega) (by have := cube_le (M := 640000) (by omega) (by omega : hP a b c - hQ a b c d + hP d c b ≤ 640000); omega)
  refine ⟨?_, ?_, ?_, ?_⟩ <;> dsimp only <;> omega
theorem hes_ch (a b c d x y z t : Int) : hP (fA a b c d x z) (fB a b c d x y z t) (fB a b c d y x t z) = qv (hP a b c) (hQ a b c d) (hP d c b) x z * ((x*t - y*z) * (x*t - y*z)) := by
  unfold hP hQ qv fA fB fv; grind
theorem hesQ_ch (a b c d x y z t : Int) : hQ (fA a b c d x z) (fB a b c d x y z t) (fB a b c d y x t z) (fA a b c d y t) = qB (hP a b c) (hQ a b c d) (hP d c b) x y z t * ((x*t - y*z) * (x*t - y*z)) := by
  unfold hP hQ qB fA fB fv; grind
/-- The discriminant of a changed form. -/
theorem dsc_ch {a b c d x y z t : Int} (hu : (x*t - y*z) * (x*t - y*z) = 1) : dsc (fA a b c d x z) (fB a b c d x y z t) (fB a b c d y x t z) (fA a b c d y t) = dsc a b c d := by
  have h1 := hes_disc (fA a b c d x z) (fB a b c d x y z t) (fB a b c d y x t z) (fA a b c d y t)
  have h2 := hes_ch a b c d x y z t
  have h3 := hesQ_ch a b c d x y z t
  have h4 := hes_ch a b c d y x t z
  have hu' : (y*z - x*t) * (y*z - x*t) = 1 := by rw [← hu]; grind
  rw [hu, Int.mul_one] at h2 h3
  rw [hu', Int.mul_one] at h4
  have h5 := hes_disc a b c d
  have h6 := J_ch (hP a b c) (hQ a b c d) (hP d c b) x y z t
  rw [hu, Int.mul_one] at h6
  rw [h2, h3, h4, h6, h5] at h1
  omega
theorem pos_ub {a b c d : Int} (hD : 1 ≤ dsc a b c d) (h : hP a b c + hP d c b ≤ 80000) : UB (a, b, c, d) := by
  intro x y z w hx hy hz hw hu
  dsimp only
  obtain ⟨p1, p2⟩ := pos_pr (by omega : 0 < dsc a b c d)
  have hq := hes_disc a b c d
  have hm := mid_lt (A := hP a b c) (B := hQ a b c d) (C := hP d c b) (by omega) (by omega) (by omega)
  have hu' : (y*z - x*w) * (y*z - x*w) = 1 := by rw [← hu]; grind
  have g1 := hes_ch a b c d x y z w
  have g2 := hes_ch a b c d y x w z
  rw [hu, Int.mul_one] at g1
  rw [hu', Int.mul_one] at g2
  have k1 := qv_one hm (by omega) (by omega) hx hz
  have k2 := qv_one hm (by omega) (by omega) hy hw
  refine pos_bd (by rw [dsc_ch hu]; exact hD) ?_
  rw [g1, g2]; omega
theorem pos_ends {a b c d : Int} (hD : 1 ≤ dsc a b c d) (ha : -100 ≤ a ∧ a ≤ 100) (hb : -100 ≤ b ∧ b ≤ 100) (hc : -100 ≤ c ∧ c ≤ 100) (hd : -100 ≤ d ∧ d ≤ 100) : ∃ n, En true n (a, b, c, d) ∧ UB (fin true n (a, b, c, d)) := by
  have b1 := mb hb hb; have b2 := mb hc hc; have b3 := mb ha hc; have b4 := mb hb hd
  have hS : hP a b c + hP d c b ≤ 80000 := by
    have e1 : 3 * a * c = 3 * (a * c) := by grind
    have e2 : 3 * d * b = 3 * (b * d) := by grind
    unfold hP; rw [e1, e2]; omega
  refine ends_gen true (fun t : F4 => t) (fun t => hP t.1 t.2.1 t.2.2.1) (fun t => hP t.2.2.2 t.2.2.1 t.2.1) (fun t => 1 ≤ dsc t.1 t.2.1 t.2.2.1 t.2.2.2 ∧ hP t.1 t.2.1 t.2.2.1 + hP t.2.2.2 t.2.2.1 t.2.1 ≤ 80000) ?_ ?_ 80000 (hP a b c).toNat (a, b, c, d) ⟨hD, hS⟩ hS (by dsimp only; omega)
  · rintro ⟨a, b, c, d⟩ ⟨h1, h2⟩
    have := pos_pr (by dsimp only at h1; omega : 0 < dsc a b c d)
    refine ⟨⟨pos_bd h1 (by dsimp only at h2; omega), fun h => ?_⟩, this.1, this.2, pos_ub h1 h2⟩
    have k1 : hP a b c - hQ a b c d < 0 := h.1
    have k2 : hP a b c + hQ a b c d < 0 := h.2
    have k3 : 0 < hP a b c := this.1
    omega
  · rintro ⟨a, b, c, d⟩ ⟨h1, h2⟩ hr
    dsimp only at h1 h2
    have hsp : (∃ t, stp true (a, b, c, d) = t ∧ 1 ≤ dsc t.1 t.2.1 t.2.2.1 t.2.2.2 ∧ (hP t.1 t.2.1 t.2.2.1 = hP a b c ∧ hP t.1 t.2.1 t.2.2.1 + hP t.2.2.2 t.2.2.1 t.2.1 < hP a b c + hP d c b ∨ hP t.1 t.2.1 t.2.2.1 < hP a b c ∧ hP t.1 t.2.1 t.2.2.1 + hP t.2.2.2 t.2.2.1 t.2.1 = hP a b c + hP d c b)) := by
      refine ⟨_, rfl, ?_⟩
      unfold stp
      by_cases k1 : lf true a b c d < 0
      · simp only [k1, if_true]
        have e := dsc_T a b c d (-1)
        have e1 : d - c + b - a = d + c*(-1) + b*(-1)*(-1) + a*(-1)*(-1)*(-1) := by grind
        have e2 : c - 2*b + 3*a = c + 2*b*(-1) + 3*a*(-1)*(-1) := by grind
        have e3 : b - 3*a = b + 3*a*(-1) := by grind
        have t2 : hP (d + c*(-1) + b*(-1)*(-1) + a*(-1)*(-1)*(-1)) (c + 2*b*(-1) + 3*a*(-1)*(-1)) (b + 3*a*(-1)) = hP a b c - hQ a b c d + hP d c b := by unfold hP hQ; grind
        have t3 : hP a (b + 3*a*(-1)) (c + 2*b*(-1) + 3*a*(-1)*(-1)) = hP a b c := by unfold hP; grind
        have k2 : hP a b c - hQ a b c d < 0 := k1
        rw [e1, e2, e3, e, t2, t3]
        exact ⟨h1, .inl ⟨rfl, by omega⟩⟩
      · by_cases k2 : rt true a b c d < 0
        · simp only [k1, k2, if_false, if_true]
          have e := dsc_T a b c d 1
          have e1 : d + c + b + a = d + c*1 + b*1*1 + a*1*1*1 := by grind
          have e2 : c + 2*b + 3*a = c + 2*b*1 + 3*a*1*1 := by grind
          have e3 : b + 3*a = b + 3*a*1 := by grind
          have t1 : hP (d + c*1 + b*1*1 + a*1*1*1) (c + 2*b*1 + 3*a*1*1) (b + 3*a*1) = hP a b c + hQ a b c d + hP d c b := by unfold hP hQ; grind
          have t3 : hP a (b + 3*a*1) (c + 2*b*1 + 3*a*1*1) = hP a b c := by unfold hP; grind
          have k3 : hP a b c + hQ a b c d < 0 := k2
          rw [e1, e2, e3, e, t1, t3]
          exact ⟨h1, .inl ⟨rfl, by omega⟩⟩
        · simp only [k1, k2, if_false]
          have k3 : hg true a b c d < 0 := by
            simp only [rdF, isR, Bool.and_eq_false_iff, decide_eq_false_iff_not] at hr
            omega
          have k4 : (c*c - 3*b*d) - hP a b c < 0 := k3
          have e1 : hP d c b = c*c - 3*b*d := by unfold hP; grind
          have e : dsc d c b a = dsc a b c d := by unfold dsc; grind
          rw [e]
          exact ⟨h1, .inr ⟨by omega, by omega⟩⟩
    obtain ⟨t, e, g1, g2⟩ := hsp
    exact ⟨t, ⟨g1, by rcases g2 with g | g <;> omega⟩, e.symm, g2⟩
/- ## Discriminants less than 0: a nearby product of a linear and a quadratic form -/
/-- What is known of a form and a product near it. -/
structure Near (a b c d S p q A B C e0 e1 e2 e3 M J r : Int) : Prop where
  hS : 1 ≤ S
  ha : S * a = p * A + e0
  hb : S * b = p * B + q * A + e1
  hc : S * c = p * C + q * B + e2
  hd : S * d = q * C + e3
  hA : 1 ≤ A
  hC : 1 ≤ C
  hM : A + C ≤ M
  hJ : J = 4*A*C - B*B
  hr : r = A*q*q - B*p*q + C*p*p
  hr1 : 1 ≤ r
  hD : 29 * (S*S*S*S) ≤ 10 * (J * (r * r))
  hm : r * M ≤ 500000 * (S * S)
  h0 : -S ≤ 100000000000000 * e0 ∧ 100000000000000 * e0 ≤ S
  h1 : -S ≤ 100000000000000 * e1 ∧ 100000000000000 * e1 ≤ S
  h2 : -S ≤ 100000000000000 * e2 ∧ 100000000000000 * e2 ≤ S
  h3 : -S ≤ 100000000000000 * e3 ∧ 100000000000000 * e3 ≤ S
theorem J_pos {S X J : Int} (hS : 1 ≤ S) (h : 29 * (S*S*S*S) ≤ 10 * (J * (X * X))) : 1 ≤ J := by
  have h1 : 0 < S*S*S*S := Int.mul_pos (Int.mul_pos (Int.mul_pos (by omega) (by omega)) (by omega)) (by omega)
  rcases Int.lt_or_le 0 J with h2 | h2
  · omega
  · have : J * (X * X) ≤ 0 := Int.mul_nonpos_of_nonpos_of_nonneg h2 (sq0 X)
    omega
/-- A value of the product is small where the quadratic form is. -/
theorem prod_small {S r M J L Q K : Int} (hS : 1 ≤ S) (hr : 1 ≤ r) (hM : 1 ≤ M) (hK : 1 ≤ K) (hQ0 : 0 ≤ Q) (hQ : Q ≤ K * M)
    (hL : J * (L * L) ≤ 4 * r * Q) (hD : 29 * (S*S*S*S) ≤ 10 * (J * (r * r))) (hm : r * M ≤ 500000 * (S * S)) :
    29 * ((L * Q) * (L * Q)) ≤ 40 * (K*K*K) * (500000*500000*500000) * (S * S) := by
  -- J r² (LQ)² ≤ 4 r³ Q³ ≤ 4 K³ (rM)³
  have hrM : 0 ≤ r * M := Int.mul_nonneg (by omega) (by omega)
  have c1 : Q * Q * Q ≤ (K * M) * (K * M) * (K * M) := cube_le hQ0 hQ
  have c2 : (r * M) * (r * M) * (r * M) ≤ (500000 * (S * S)) * (500000 * (S * S)) * (500000 * (S * S)) := cube_le hrM hm
  have h1 : J * (L * L) * (Q * Q) ≤ 4 * r * Q * (Q * Q) := Int.mul_le_mul_of_nonneg_right hL (sq0 Q)
  have h2 : (r * r) * (J * (L * L) * (Q * Q)) ≤ (r * r) * (4 * r * Q * (Q * Q)) := Int.mul_le_mul_of_nonneg_left h1 (sq0 r)
  have h3 : 4 * (r * r * r) * (Q * Q * Q) ≤ 4 * (r * r * r) * ((K * M) * (K * M) * (K * M)) :=
    Int.mul_le_mul_of_nonneg_left c1 (Int.mul_nonneg (by omega) (Int.mul_nonneg (sq0 r) (by omega)))
  have hK3 : 0 ≤ 4 * (K * K * K) := Int.mul_nonneg (by omega) (Int.mul_nonneg (sq0 K) (by omega))
  have h4 : 4 * (K * K * K) * ((r * M) * (r * M) * (r * M)) ≤ 4 * (K * K * K) * ((500000 * (S * S)) * (500000 * (S * S)) * (500000 * (S * S))) := Int.mul_le_mul_of_nonneg_left c2 hK3
  have h5 : 29 * (S*S*S*S) * ((L * Q) * (L * Q)) ≤ 10 * (J * (r * r)) * ((L * Q) * (L * Q)) := Int.mul_le_mul_of_nonneg_right hD (sq0 _)
  have e1 : 10 * (J * (r * r)) * ((L * Q) * (L * Q)) = 10 * ((r * r) * (J * (L * L) * (Q * Q))) := by grind
  have e2 : (r * r) * (4 * r * Q * (Q * Q)) = 4 * (r * r * r) * (Q * Q * Q) := by grind
  have e3 : 4 * (r * r * r) * ((K * M) * (K * M) * (K * M)) = 4 * (K * K * K) * ((r * M) * (r * M) * (r * M)) := by grind
  have e4 : 4 * (K * K * K) * ((500000 * (S * S)) * (500000 * (S * S)) * (500000 * (S * S))) = (S*S*S*S) * (4 * (K*K*K) * (500000*500000*500000) * (S * S)) := by grind
  have h6 : (S*S*S*S) * (29 * ((L * Q) * (L * Q))) ≤ (S*S*S*S) * (40 * (K*K*K) * (500000*500000*500000) * (S * S)) := by
    have e5 : (S*S*S*S) * (29 * ((L * Q) * (L * Q))) = 29 * (S*S*S*S) * ((L * Q) * (L * Q)) := by grind
    have e6 : (S*S*S*S) * (40 * (K*K*K) * (500000*500000*500000) * (S * S)) = 10 * ((S*S*S*S) * (4 * (K*K*K) * (500000*500000*500000) * (S * S))) := by grind
    rw [e5, e6]
    rw [e4] at h4; rw [e3] at h3; rw [e2] at h2
    omega
  have hS4 : 0 < S*S*S*S := Int.mul_pos (Int.mul_pos (Int.mul_pos (by omega) (by omega)) (by omega)) (by omega)
  exact Int.le_of_mul_le_mul_left h6 hS4
/-- S a number near S X. -/
theorem near_num {S v L E X : Int} (hS : 1 ≤ S) (h : S * v = L + E) (hL : -(X * S) < L ∧ L < X * S) (hE : -S ≤ E ∧ E ≤ S) : -X - 1 ≤ v ∧ v ≤ X + 1 := by
  constructor
  · rcases Int.lt_or_le v (-X - 1) with h1 | h1
    · have h2 : S * v ≤ S * (-X - 2) := Int.mul_le_mul_of_nonneg_left (by omega) (by omega)
      have e : S * (-X - 2) = -(X * S) - 2 * S := by grind
      omega
    · exact h1
  · rcases Int.lt_or_le (X + 1) v with h1 | h1
    · have h2 : S * (X + 2) ≤ S * v := Int.mul_le_mul_of_nonneg_left (by omega) (by omega)
      have e : S * (X + 2) = X * S + 2 * S := by grind
      omega
    · exact h1
/-- The identity behind: a linear form's values by a definite form's. -/
theorem lin_quad (A B C p q x z : Int) : (4*A*C - B*B) * ((p*x + q*z) * (p*x + q*z)) + (2*A*q*x + B*q*z - B*p*x - 2*C*p*z) * (2*A*q*x + B*q*z - B*p*x - 2*C*p*z) = 4 * (A*q*q - B*p*q + C*p*p) * qv A B C x z := by
  unfold qv; grind
theorem qv_id (A B C x z : Int) : 4 * A * qv A B C x z = (2*A*x + B*z) * (2*A*x + B*z) + (4*A*C - B*B) * (z * z) := by unfold qv; grind
theorem qv_nn {A B C : Int} (hA : 1 ≤ A) (hJ : 1 ≤ 4*A*C - B*B) (x z : Int) : 0 ≤ qv A B C x z := by
  have h1 := qv_id A B C x z
  have h2 := sq0 (2*A*x + B*z)
  have h3 : 0 ≤ (4*A*C - B*B) * (z * z) := Int.mul_nonneg (by omega) (sq0 z)
  rcases Int.lt_or_le (qv A B C x z) 0 with h4 | h4
  · have : 4 * A * qv A B C x z < 0 := Int.mul_neg_of_pos_of_neg (by omega) h4
    omega
  · exact h4
theorem Near.bd {a b c d S p q A B C e0 e1 e2 e3 M J r : Int} (h : Near a b c d S p q A B C e0 e1 e2 e3 M J r) : Bd (a, b, c, d) := by
  have hJ := J_pos h.hS h.hD
  have hJ' := hJ
  rw [h.hJ] at hJ'
  have hM : 1 ≤ M := by have := h.hM; have := h.hA; have := h.hC; omega
  obtain ⟨hS, ha, hb, hc, hd, hA, hC, hAM, hJe, hr, hr1, hD, hm, k0, k1, k2, k3⟩ := h
  have hB := mid_lt hJ' hA hC
  have lq : ∀ x z : Int, J * ((p*x + q*z) * (p*x + q*z)) ≤ 4 * r * qv A B C x z := fun x z => by
    have h1 := lin_quad A B C p q x z
    have h2 := sq0 (2*A*q*x + B*q*z - B*p*x - 2*C*p*z)
    rw [hJe, hr]; omega
  have vs : ∀ x z K X : Int, 1 ≤ K → 0 ≤ X → qv A B C x z ≤ K * M → 40 * (K*K*K) * (500000*500000*500000) < 29 * (X * X) → -(X * S) < (p*x + q*z) * qv A B C x z ∧ (p*x + q*z) * qv A B C x z < X * S := fun x z K X hK hX hq hx => by
    have h1 := prod_small hS hr1 hM hK (qv_nn hA hJ' x z) hq (lq x z) hD hm
    refine sq_lt (Int.mul_nonneg hX (by omega)) ?_
    have hSS : 0 < S * S := Int.mul_pos (by omega) (by omega)
    have h2 : 40 * (K*K*K) * (500000*500000*500000) * (S * S) < 29 * (X * X) * (S * S) := Int.mul_lt_mul_of_pos_right hx hSS
    have e : 29 * (X * X) * (S * S) = 29 * ((X * S) * (X * S)) := by grind
    omega
  have v1 := vs 1 0 1 415300000 (by omega) (by omega) (by unfold qv; omega) (by omega)
  have v2 := vs 0 1 1 415300000 (by omega) (by omega) (by unfold qv; omega) (by omega)
  have v3 := vs 1 1 2 1174500000 (by omega) (by omega) (by unfold qv; omega) (by omega)
  have v4 := vs 1 (-1) 2 1174500000 (by omega) (by omega) (by unfold qv; omega) (by omega)
  have w1 := near_num (v := a) (E := e0) hS (by rw [ha]; unfold qv; grind) v1 (by omega)
  have w2 := near_num (v := d) (E := e3) hS (by rw [hd]; unfold qv; grind) v2 (by omega)
  have w3 := near_num (v := a + b + c + d) (E := e0 + e1 + e2 + e3) hS (by
    have : S * (a + b + c + d) = S * a + S * b + S * c + S * d := by grind
    rw [this, ha, hb, hc, hd]; unfold qv; grind) v3 (by omega)
  have w4 := near_num (v := a - b + c - d) (E := e0 - e1 + e2 - e3) hS (by
    have : S * (a - b + c - d) = S * a - S * b + S * c - S * d := by grind
    rw [this, ha, hb, hc, hd]; unfold qv; grind) v4 (by omega)
  refine ⟨?_, ?_, ?_, ?_⟩ <;> dsimp only <;> omega
/-- A margin below 0 shows in the product's. -/
theorem marg {S T f g G : Int} (hS : 1 ≤ S) (hT : f ≤ -1) (hg : G = S * S * f - S * g + T) (h1 : -(40000000000 * S) ≤ 100000000000000 * g) (h2 : 10000000000000000000000000000 * T ≤ 100 * (S * S)) : G < 0 := by
  have hSS : 0 < S * S := Int.mul_pos (by omega) (by omega)
  have a1 : S * S * f ≤ S * S * (-1) := Int.mul_le_mul_of_nonneg_left hT (by omega)
  have a2 : S * -(40000000000 * S) ≤ S * (100000000000000 * g) := Int.mul_le_mul_of_nonneg_left h1 (by omega)
  have e1 : S * -(40000000000 * S) = -(40000000000 * (S * S)) := by grind
  have e2 : S * (100000000000000 * g) = 100000000000000 * (S * g) := by grind
  omega
theorem neg_fac {x y : Int} (h : x * y < 0) (hy : 0 ≤ y) : x < 0 := by
  rcases Int.lt_or_le x 0 with h1 | h1
  · exact h1
  · have := Int.mul_nonneg h1 hy; omega
theorem lf_prod (p q A B C : Int) : (A - B) * qv A B C (p - q) (-p) = lf false (p*A) (p*B + q*A) (p*C + q*B) (q*C) := by simp only [lf, qv]; grind
theorem hg_prod (p q A B C : Int) : (C - A) * qv A B C p (-q) = hg false (p*A) (p*B + q*A) (p*C + q*B) (q*C) := by simp only [hg, qv]; grind
theorem lf_split (S a b c d e0 e1 e2 e3 : Int) : lf false (S*a - e0) (S*b - e1) (S*c - e2) (S*d - e3) = S * S * lf false a b c d - S * (a * e3 + d * e0 - b * e2 - c * e1 + 2 * ((a - b) * e0) - 2 * ((a - b) * e1) + a * e2 + c * e0) + (e0 * e3 - e1 * e2 + e0 * e0 - 2 * (e0 * e1) + e1 * e1 + e0 * e2) := by simp only [lf]; grind
theorem hg_split (S a b c d e0 e1 e2 e3 : Int) : hg false (S*a - e0) (S*b - e1) (S*c - e2) (S*d - e3) = S * S * hg false a b c d - S * (2 * (d * e3) - 2 * (a * e0) - b * e3 - d * e1 + a * e2 + c * e0) + (e3 * e3 - e0 * e0 - e1 * e3 + e0 * e2) := by simp only [hg]; grind
theorem sc (x y k : Int) : x * (k * y) = k * (x * y) := by grind
theorem sc2 (x y k : Int) : (k * x) * (k * y) = k * k * (x * y) := by grind
theorem Near.left {a b c d S p q A B C e0 e1 e2 e3 M J r : Int} (h : Near a b c d S p q A B C e0 e1 e2 e3 M J r) (hl : lf false a b c d < 0) : A < B := by
  obtain ⟨ba, bb, bc, bd⟩ := h.bd
  have hJ' := J_pos h.hS h.hD
  rw [h.hJ] at hJ'
  obtain ⟨hS, ha, hb, hc, hd, hA, hC, hAM, hJe, hr, hr1, hD, hm, k0, k1, k2, k3⟩ := h
  dsimp only at ba bb bc bd
  have hx := qv_nn hA hJ' (p - q) (-p)
  have key : (A - B) * qv A B C (p - q) (-p) < 0 := by
    have m1 := mb (x := a) (X := 1620000000) (by omega) k3
    have m2 := mb (x := d) (X := 1620000000) (by omega) k0
    have m3 := mb bb k2
    have m4 := mb bc k1
    have m5 := mb (x := a - b) (X := 3240000000) (by omega) k0
    have m6 := mb (x := a - b) (X := 3240000000) (by omega) k1
    have m7 := mb (x := a) (X := 1620000000) (by omega) k2
    have m8 := mb bc k0
    have n1 := mb k0 k3; have n2 := mb k1 k2; have n3 := mb k0 k0; have n4 := mb k0 k1; have n5 := mb k1 k1; have n6 := mb k0 k2
    rw [sc] at m1 m2 m3 m4 m5 m6 m7 m8
    rw [sc2] at n1 n2 n3 n4 n5 n6
    have e1 := lf_split S a b c d e0 e1 e2 e3
    rw [ha, hb, hc, hd, Int.add_sub_cancel, Int.add_sub_cancel, Int.add_sub_cancel, Int.add_sub_cancel, ← lf_prod] at e1
    refine marg hS (by omega) e1 ?_ ?_
    · clear e1 ha hb hc hd hD hm hJe hr hJ' hx; omega
    · clear e1 ha hb hc hd hD hm hJe hr hJ' hx; omega
  have := neg_fac key hx
  omega
theorem r_flip (A B C p q : Int) : A*q*q - B*p*q + C*p*p = A*-q*-q - -B*p*-q + C*p*p := by grind
theorem Near.flip {a b c d S p q A B C e0 e1 e2 e3 M J r : Int} (h : Near a b c d S p q A B C e0 e1 e2 e3 M J r) : Near a (-b) c (-d) S p (-q) A (-B) C e0 (-e1) e2 (-e3) M J r := by
  obtain ⟨hS, ha, hb, hc, hd, hA, hC, hAM, hJe, hr, hr1, hD, hm, k0, k1, k2, k3⟩ := h
  refine ⟨hS, ha, ?_, ?_, ?_, hA, hC, hAM, ?_, ?_, hr1, hD, hm, k0, by omega, k2, by omega⟩
  · rw [Int.mul_neg, hb, Int.mul_neg, Int.neg_mul]; omega
  · rw [hc, Int.neg_mul_neg]
  · rw [Int.mul_neg, hd, Int.neg_mul]; omega
  · rw [hJe, Int.neg_mul_neg]
  · rw [hr]; exact r_flip A B C p q
theorem rt_lf (a b c d : Int) : rt false a b c d = lf false a (-b) c (-d) := by simp only [rt, lf]; grind
theorem Near.right {a b c d S p q A B C e0 e1 e2 e3 M J r : Int} (h : Near a b c d S p q A B C e0 e1 e2 e3 M J r) (hl : rt false a b c d < 0) : A < -B :=
  h.flip.left (by rw [← rt_lf]; exact hl)
theorem Near.high {a b c d S p q A B C e0 e1 e2 e3 M J r : Int} (h : Near a b c d S p q A B C e0 e1 e2 e3 M J r) (hl : hg false a b c d < 0) : C < A := by
  obtain ⟨ba, bb, bc, bd⟩ := h.bd
  have hJ' := J_pos h.hS h.hD
  rw [h.hJ] at hJ'
  obtain ⟨hS, ha, hb, hc, hd, hA, hC, hAM, hJe, hr, hr1, hD, hm, k0, k1, k2, k3⟩ := h
  dsimp only at ba bb bc bd
  have hx := qv_nn hA hJ' p (-q)
  have key : (C - A) * qv A B C p (-q) < 0 := by
    have m1 := mb (x := a) (X := 1620000000) (by omega) k0
    have m2 := mb (x := d) (X := 1620000000) (by omega) k3
    have m3 := mb bb k3
    have m4 := mb (x := d) (X := 1620000000) (by omega) k1
    have m7 := mb (x := a) (X := 1620000000) (by omega) k2
    have m8 := mb bc k0
    have n1 := mb k0 k0; have n2 := mb k3 k3; have n3 := mb k1 k3; have n4 := mb k0 k2
    rw [sc] at m1 m2 m3 m4 m7 m8
    rw [sc2] at n1 n2 n3 n4
    have e1 := hg_split S a b c d e0 e1 e2 e3
    rw [ha, hb, hc, hd, Int.add_sub_cancel, Int.add_sub_cancel, Int.add_sub_cancel, Int.add_sub_cancel, ← hg_prod] at e1
    refine marg hS (by omega) e1 ?_ ?_
    · clear e1 ha hb hc hd hD hm hJe hr hJ' hx; omega
    · clear e1 ha hb hc hd hD hm hJe hr hJ' hx; omega
  have := neg_fac key hx
  omega
theorem fA_near {a b c d S p q A B C e : Int} (ha : S*a = p*A) (hb : S*b = p*B + q*A) (hc : S*c = p*C + q*B) (hd : S*d = q*C + e) (x z : Int) :
    S * fA a b c d x z = (p*x + q*z) * qv A B C x z + e*(z*z*z) := by
  have h : S * fA a b c d x z = S*a*(x*x*x) + S*b*(x*x*z) + S*c*(x*z*z) + S*d*(z*z*z) := by unfold fA fv; grind
  rw [h, ha, hb, hc, hd]
  clear h ha hb hc hd
  unfold qv; grind
theorem fB_near {a b c d S p q A B C e : Int} (ha : S*a = p*A) (hb : S*b = p*B + q*A) (hc : S*c = p*C + q*B) (hd : S*d = q*C + e) (x y z t : Int) :
    S * fB a b c d x y z t = (p*x + q*z) * qB A B C x y z t + (p*y + q*t) * qv A B C x z + e*(3*(z*z*t)) := by
  have h : S * fB a b c d x y z t = S*a*(3*(x*x*y)) + S*b*(x*x*t + 2*x*y*z) + S*c*(2*x*z*t + y*z*z) + S*d*(3*(z*z*t)) := by unfold fB; grind
  rw [h, ha, hb, hc, hd]
  clear h ha hb hc hd
  unfold qv qB; grind
theorem qB_sw (A B C x y z t : Int) : qB A B C y x t z = qB A B C x y z t := by unfold qB; grind
theorem r_ch (A B C p q x y z t : Int) : qv A B C x z * (p*y + q*t) * (p*y + q*t) - qB A B C x y z t * (p*x + q*z) * (p*y + q*t) + qv A B C y t * (p*x + q*z) * (p*x + q*z) = (A*q*q - B*p*q + C*p*p) * ((x*t - y*z) * (x*t - y*z)) := by unfold qv qB; grind
/-- A form and its product at the start. -/
structure Nr (a b c d S p q A B C e M J r : Int) : Prop where
  hS : 1 ≤ S
  ha : S * a = p * A
  hb : S * b = p * B + q * A
  hc : S * c = p * C + q * B
  hd : S * d = q * C + e
  hA : 1 ≤ A
  hC : 1 ≤ C
  hM : 4 * (A + C) = M
  hJ : J = 4*A*C - B*B
  hr : r = A*q*q - B*p*q + C*p*p
  hr1 : 1 ≤ r
  hD : 29 * (S*S*S*S) ≤ 10 * (J * (r * r))
  hm : r * M ≤ 500000 * (S * S)
  he : -S ≤ 1000000000000000000000000000000000 * e ∧ 1000000000000000000000000000000000 * e ≤ S
/-- A matrix on the way. -/
def Way (A B C M : Int) (m : F4) : Prop := (m.1*m.2.2.2 - m.2.1*m.2.2.1) * (m.1*m.2.2.2 - m.2.1*m.2.2.1) = 1 ∧ qv A B C m.1 m.2.2.1 + qv A B C m.2.1 m.2.2.2 ≤ M
/-- Its second row is not great. -/
theorem row_small {S r M J A Q z : Int} (hS : 1 ≤ S) (hr : 1 ≤ r) (hA : 1 ≤ A) (hAM : A ≤ M) (hQ0 : 0 ≤ Q) (hQ : Q ≤ M) (hz : J * (z * z) ≤ 4 * A * Q)
    (hD : 29 * (S*S*S*S) ≤ 10 * (J * (r * r))) (hm : r * M ≤ 500000 * (S * S)) : -600000 < z ∧ z < 600000 := by
  have hJ := J_pos hS hD
  have hM : 1 ≤ M := by omega
  have h1 : A * Q ≤ M * M := Int.mul_le_mul hAM hQ hQ0 (by omega)
  have hrM : 0 ≤ r * M := Int.mul_nonneg (by omega) (by omega)
  have h2 : (r * M) * (r * M) ≤ (500000 * (S * S)) * (500000 * (S * S)) := Int.mul_le_mul hm hm hrM (by omega)
  have e2 : (500000 * (S * S)) * (500000 * (S * S)) = 250000000000 * (S*S*S*S) := by grind
  have e3 : (r * M) * (r * M) = (r * r) * (M * M) := by grind
  have h3 : 4 * A * Q = 4 * (A * Q) := by grind
  have hrr : 0 < r * r := Int.mul_pos (by omega) (by omega)
  have h4 : (r * r) * (29 * (M * M)) ≤ (r * r) * (2500000000000 * J) := by
    have e4 : (r * r) * (29 * (M * M)) = 29 * ((r * r) * (M * M)) := by grind
    have e5 : (r * r) * (2500000000000 * J) = 250000000000 * (10 * (J * (r * r))) := by grind
    rw [e4, e5]; omega
  have h5 := Int.le_of_mul_le_mul_left h4 hrr
  have h6 : J * (z * z) < J * (600000 * 600000) := by omega
  have h7 := Int.lt_of_mul_lt_mul_left h6 (by omega)
  exact sq_lt (by omega) h7
theorem Way.near {a b c d S p q A B C e M J r x y z t : Int} (h : Nr a b c d S p q A B C e M J r) (hw : Way A B C M (x, y, z, t)) :
    Near (fA a b c d x z) (fB a b c d x y z t) (fB a b c d y x t z) (fA a b c d y t) S (p*x + q*z) (p*y + q*t) (qv A B C x z) (qB A B C x y z t) (qv A B C y t) (e*(z*z*z)) (e*(3*(z*z*t))) (e*(3*(t*t*z))) (e*(t*t*t)) M J r := by
  obtain ⟨hS, ha, hb, hc, hd, hA, hC, hM, hJ, hr, hr1, hD, hm, he⟩ := h
  obtain ⟨w1, w2⟩ := hw
  dsimp only at w1 w2
  have hJ1 := J_pos hS hD
  have hJ2 : 1 ≤ 4*A*C - B*B := by omega
  have n1 := qv_nn hA hJ2 x z
  have n2 := qv_nn hA hJ2 y t
  have jc := J_ch A B C x y z t
  have rc := r_ch A B C p q x y z t
  rw [w1, Int.mul_one] at jc rc
  have hp : 0 < 4 * qv A B C x z * qv A B C y t := by have := sq0 (qB A B C x y z t); omega
  have q1 : 1 ≤ qv A B C x z := by
    rcases Int.lt_or_le 0 (qv A B C x z) with h | h
    · omega
    · have : qv A B C x z = 0 := by omega
      rw [this] at hp; simp at hp
  have q2 : 1 ≤ qv A B C y t := by
    rcases Int.lt_or_le 0 (qv A B C y t) with h | h
    · omega
    · have : qv A B C y t = 0 := by omega
      rw [this] at hp; simp at hp
  have sm : ∀ u v : Int, 0 ≤ qv A B C u v → qv A B C u v ≤ M → -600000 < v ∧ v < 600000 := fun u v h0 h1 => by
    refine row_small hS hr1 hA (by omega) h0 h1 ?_ hD hm
    have := qv_id A B C u v
    have := sq0 (2*A*u + B*v)
    rw [hJ]; omega
  have z1 := sm x z n1 (by omega)
  have t1 := sm y t n2 (by omega)
  have zz := mb (x := z) (y := z) (X := 600000) (Y := 600000) (by omega) (by omega)
  have tt := mb (x := t) (y := t) (X := 600000) (Y := 600000) (by omega) (by omega)
  have b0 := mb he (mb zz (y := z) (Y := 600000) (by omega))
  have b1 := mb he (mb zz (y := t) (Y := 600000) (by omega))
  have b2 := mb he (mb tt (y := z) (Y := 600000) (by omega))
  have b3 := mb he (mb tt (y := t) (Y := 600000) (by omega))
  have l3 : ∀ u : Int, 100000000000000 * (e * (3 * u)) = 300000000000000 * (e * u) := fun u => by grind
  have sa : ∀ u : Int, 1000000000000000000000000000000000 * e * u = 1000000000000000000000000000000000 * (e * u) := fun u => by grind
  rw [sa] at b0 b1 b2 b3
  refine ⟨hS, fA_near ha hb hc hd x z, fB_near ha hb hc hd x y z t, ?_, fA_near ha hb hc hd y t, q1, q2, w2, by omega, by rw [rc]; exact hr, hr1, hD, hm, ?_, ?_, ?_, ?_⟩
  · rw [fB_near ha hb hc hd y x t z, qB_sw, Int.add_comm ((p*y + q*t) * _)]
  · omega
  · rw [l3]; omega
  · rw [l3]; omega
  · omega
theorem fch1 (a b c d x y z t k : Int) : fB a b c d x (y + k*x) z (t + k*z) = fB a b c d x y z t + 3 * fA a b c d x z * k ∧ fB a b c d (y + k*x) x (t + k*z) z = fB a b c d y x t z + 2 * fB a b c d x y z t * k + 3 * fA a b c d x z * k * k ∧
    fA a b c d (y + k*x) (t + k*z) = fA a b c d y t + fB a b c d y x t z * k + fB a b c d x y z t * k * k + fA a b c d x z * k * k * k := by
  refine ⟨?_, ?_, ?_⟩ <;> (unfold fB; try unfold fA fv) <;> grind
theorem qch1 (A B C x y z t k : Int) : qv A B C (y + k*x) (t + k*z) = qv A B C y t + k * qB A B C x y z t + k * k * qv A B C x z := by unfold qv qB; grind
theorem Way.mono {a b c d S p q A B C e M J r : Int} {m : F4} (hw : Way A B C (A + C) m) (h : Nr a b c d S p q A B C e M J r) : Way A B C M m :=
  ⟨hw.1, by have := hw.2; have := h.hM; have := h.hA; have := h.hC; omega⟩
theorem neg_ends_of {a b c d S p q A B C e M J r : Int} (h : Nr a b c d S p q A B C e M J r) : ∃ n, En false n (a, b, c, d) ∧ UB (fin false n (a, b, c, d)) := by
  have g := ends_gen false (fun m : F4 => (fA a b c d m.1 m.2.2.1, fB a b c d m.1 m.2.1 m.2.2.1 m.2.2.2, fB a b c d m.2.1 m.1 m.2.2.2 m.2.2.1, fA a b c d m.2.1 m.2.2.2))
    (fun m => qv A B C m.1 m.2.2.1) (fun m => qv A B C m.2.1 m.2.2.2) (Way A B C (A + C)) ?_ ?_ M.toNat M.toNat (1, 0, 0, 1) ?_ ?_ ?_
  · obtain ⟨n, hn⟩ := g
    refine ⟨n, ?_⟩
    have e1 : fA a b c d 1 0 = a := by unfold fA fv; grind
    have e2 : fB a b c d 1 0 0 1 = b := by unfold fB; grind
    have e3 : fB a b c d 0 1 1 0 = c := by unfold fB; grind
    have e4 : fA a b c d 0 1 = d := by unfold fA fv; grind
    dsimp only at hn
    rwa [e1, e2, e3, e4] at hn
  · rintro ⟨x, y, z, t⟩ hw
    have n := Way.near h (hw.mono h)
    refine ⟨⟨n.bd, fun g => by have g1 := n.left g.1; have g2 := n.right g.2; have := n.hA; omega⟩, by have := n.hA; dsimp only; omega, by have := n.hC; dsimp only; omega, ?_⟩
    intro u p v q hu hp hv hq hd
    dsimp only
    rw [fA_ch, fA_ch, fB_ch, fB_ch]
    have hJ' := J_pos n.hS n.hD
    rw [n.hJ] at hJ'
    have hm := mid_lt hJ' n.hA n.hC
    have k1 := qv_one hm n.hA n.hC hu hv
    have k2 := qv_one hm n.hA n.hC hp hq
    rw [qv_ch] at k1 k2
    obtain ⟨w1, w2⟩ := hw
    dsimp only at w1 w2
    have hM := h.hM
    have hw2 : Way A B C M (x*u + y*v, x*p + y*q, z*u + t*v, z*p + t*q) := by
      refine ⟨?_, ?_⟩
      · dsimp only
        have e : (x*u + y*v) * (z*p + t*q) - (x*p + y*q) * (z*u + t*v) = (x*t - y*z) * (u*q - p*v) := by grind
        rw [e]
        have e2 : (x*t - y*z) * (u*q - p*v) * ((x*t - y*z) * (u*q - p*v)) = (x*t - y*z) * (x*t - y*z) * ((u*q - p*v) * (u*q - p*v)) := by grind
        rw [e2, w1, hd]; rfl
      · dsimp only; omega
    have n2 := (Way.near h hw2).bd
    have e3 : fB a b c d (x*p + y*q) (x*u + y*v) (z*p + t*q) (z*u + t*v) = fB a b c d (y*q + x*p) (y*v + x*u) (t*q + z*p) (t*v + z*u) := by
      rw [Int.add_comm (x*p), Int.add_comm (x*u), Int.add_comm (z*p), Int.add_comm (z*u)]
    first | exact n2 | (rw [e3] at n2; exact n2)
  · rintro ⟨x, y, z, t⟩ hw hr
    have n := Way.near h (hw.mono h)
    obtain ⟨w1, w2⟩ := hw
    dsimp only at w1 w2 hr ⊢
    simp only [rdF, isR, Bool.and_eq_false_iff, decide_eq_false_iff_not] at hr
    have mv : ∀ k : Int, (k * k = 1) → k * qB A B C x y z t + qv A B C x z < 0 → ∃ m : F4, Way A B C (A + C) m ∧ m.1 = x ∧ m.2.2.1 = z ∧ m.2.1 = y + k*x ∧ m.2.2.2 = t + k*z ∧ (qv A B C m.1 m.2.2.1 = qv A B C x z ∧ qv A B C m.1 m.2.2.1 + qv A B C m.2.1 m.2.2.2 < qv A B C x z + qv A B C y t) := fun k hk hq => by
      have e := qch1 A B C x y z t k
      rw [hk, Int.one_mul] at e
      refine ⟨(x, y + k*x, z, t + k*z), ⟨?_, ?_⟩, rfl, rfl, rfl, rfl, rfl, ?_⟩
      · dsimp only
        have : x * (t + k * z) - (y + k * x) * z = x * t - y * z := by grind
        rw [this]; exact w1
      · dsimp only; omega
      · dsimp only; omega
    unfold stp
    by_cases k1 : lf false (fA a b c d x z) (fB a b c d x y z t) (fB a b c d y x t z) (fA a b c d y t) < 0
    · simp only [k1, if_true]
      have k2 := n.left k1
      obtain ⟨m, g1, g2, g3, g4, g5, g6⟩ := mv (-1) (by omega) (by omega)
      refine ⟨m, g1, ?_, .inl g6⟩
      obtain ⟨f1, f2, f3⟩ := fch1 a b c d x y z t (-1)
      rw [g2, g3, g4, g5, f1, f2, f3]
      refine Prod.ext rfl (Prod.ext ?_ (Prod.ext ?_ ?_)) <;> dsimp only <;> omega
    · by_cases k2 : rt false (fA a b c d x z) (fB a b c d x y z t) (fB a b c d y x t z) (fA a b c d y t) < 0
      · simp only [k1, k2, if_false, if_true]
        have k3 := n.right k2
        obtain ⟨m, g1, g2, g3, g4, g5, g6⟩ := mv 1 (by omega) (by omega)
        refine ⟨m, g1, ?_, .inl g6⟩
        obtain ⟨f1, f2, f3⟩ := fch1 a b c d x y z t 1
        rw [g2, g3, g4, g5, f1, f2, f3]
        refine Prod.ext rfl (Prod.ext ?_ (Prod.ext ?_ ?_)) <;> dsimp only <;> omega
      · simp only [k1, k2, if_false]
        have k3 : hg false (fA a b c d x z) (fB a b c d x y z t) (fB a b c d y x t z) (fA a b c d y t) < 0 := by omega
        have k4 := n.high k3
        refine ⟨(y, x, t, z), ⟨?_, ?_⟩, rfl, .inr ⟨k4, by dsimp only; omega⟩⟩
        · dsimp only
          have : (y * z - x * t) * (y * z - x * t) = (x * t - y * z) * (x * t - y * z) := by grind
          rw [this]; exact w1
        · dsimp only; omega
  · have e1 : qv A B C 1 0 = A := by unfold qv; grind
    have e2 : qv A B C 0 1 = C := by unfold qv; grind
    exact ⟨by decide, by dsimp only; rw [e1, e2]; have := h.hM; omega⟩
  · have e1 : qv A B C 1 0 = A := by unfold qv; grind
    have e2 : qv A B C 0 1 = C := by unfold qv; grind
    dsimp only; rw [e1, e2]; have := h.hM; have := h.hA; have := h.hC; omega
  · have e1 : qv A B C 1 0 = A := by unfold qv; grind
    dsimp only; rw [e1]; have := h.hM; have := h.hA; have := h.hC; omega
theorem ivt (g : Int → Int) : ∀ (n : Nat) (lo : Int), g lo < 0 → 0 ≤ g (lo + n) → ∃ T, lo ≤ T ∧ T < lo + n ∧ g T < 0 ∧ 0 ≤ g (T + 1) := by
  intro n
  induction n with
  | zero => intro lo h1 h2; simp at h2; omega
  | succ n ih =>
    intro lo h1 h2
    rcases Int.lt_or_le (g (lo + n)) 0 with h | h
    · exact ⟨lo + n, by omega, by omega, h, by rwa [show lo + (n : Int) + 1 = lo + ((n + 1 : Nat) : Int) by omega]⟩
    · obtain ⟨T, k1, k2, k3, k4⟩ := ih lo h1 h
      exact ⟨T, k1, by omega, k3, k4⟩
theorem dsc_mod (a b c d : Int) (h : dsc a b c d < 0) : dsc a b c d ≤ -3 := by
  have e : dsc a b c d = (b*c + a*d)*(b*c + a*d) - 4 * (a*c*c*c + b*b*b*d + 7*a*a*d*d - 4*a*b*c*d) := by unfold dsc; grind
  have hp : ∀ x : Int, x * x % 4 = 0 ∨ x * x % 4 = 1 := fun x => by
    obtain ⟨k, hk⟩ : ∃ k, x = 2*k ∨ x = 2*k+1 := ⟨x / 2, by omega⟩
    rcases hk with rfl | rfl
    · left; have : 2*k*(2*k) = 4*(k*k) := by grind
      omega
    · right; have : (2*k+1)*(2*k+1) = 4*(k*k+k) + 1 := by grind
      omega
  have := hp (b*c + a*d)
  omega
theorem dsc_lq (p q A B C : Int) : dsc (p*A) (p*B + q*A) (p*C + q*B) (q*C) = -((4*A*C - B*B) * ((A*q*q - B*p*q + C*p*p) * (A*q*q - B*p*q + C*p*p))) := by unfold dsc; grind
theorem dsc_ep (S a b c d e : Int) : dsc (S*a) (S*b) (S*c) (S*d - e) = S*S*S*S * dsc a b c d + S*S*S * (e * (4*(b*b*b) + 54*(a*a*d) - 18*(a*b*c))) - 27 * ((S*a*e)*(S*a*e)) := by unfold dsc; grind
/-- A product is near enough to the form. -/
theorem disc_near {a b c d S p q A B C e : Int} (hS : 1 ≤ S) (ha : S*a = p*A) (hb : S*b = p*B + q*A) (hc : S*c = p*C + q*B) (hd : S*d = q*C + e)
    (he : -S ≤ 1000000000000000000000000000000000 * e ∧ 1000000000000000000000000000000000 * e ≤ S) (hD : dsc a b c d < 0)
    (ka : -100 ≤ a ∧ a ≤ 100) (kb : -100 ≤ b ∧ b ≤ 100) (kc : -100 ≤ c ∧ c ≤ 100) (kd : -100 ≤ d ∧ d ≤ 100) :
    29 * (S*S*S*S) ≤ 10 * ((4*A*C - B*B) * ((A*q*q - B*p*q + C*p*p) * (A*q*q - B*p*q + C*p*p))) := by
  have h1 := dsc_mod a b c d hD
  have h2 := dsc_lq p q A B C
  have h3 := dsc_ep S a b c d e
  have e3 : S*d - e = q*C := by omega
  rw [e3, ha, hb, hc, h2] at h3
  have hS3 : 0 < S*S*S := Int.mul_pos (Int.mul_pos (by omega) (by omega)) (by omega)
  have hS4 : 0 < S*S*S*S := Int.mul_pos hS3 (by omega)
  have t1 : S*S*S*S * dsc a b c d ≤ S*S*S*S * (-3) := Int.mul_le_mul_of_nonneg_left h1 (by omega)
  have k1 := mb (mb kb kb) kb
  have k2 := mb (mb ka ka) kd
  have k3 := mb (mb ka kb) kc
  have k4 := mb he (y := 4*(b*b*b) + 54*(a*a*d) - 18*(a*b*c)) (Y := 76000000) (by omega)
  rw [Int.mul_assoc] at k4
  have t2 : S*S*S * (1000000000000000000000000000000000 * (e * (4*(b*b*b) + 54*(a*a*d) - 18*(a*b*c)))) ≤ S*S*S * (S * 76000000) := Int.mul_le_mul_of_nonneg_left k4.2 (by omega)
  have e4 : S*S*S * (S * 76000000) = 76000000 * (S*S*S*S) := by grind
  have e5 : ∀ y : Int, S*S*S * (1000000000000000000000000000000000 * y) = 1000000000000000000000000000000000 * (S*S*S * y) := fun y => by grind
  rw [e4, e5] at t2
  have t3 := sq0 (p*A*e)
  omega
theorem nr_zero_m {b d r : Int} (he : r = b) (hb : 1 ≤ b ∧ b ≤ 100) (hd : 1 ≤ d ∧ d ≤ 100) : r * (4*(b + d)) ≤ 500000 * (1 * 1) := by
  have := mb (x := b) (y := b + d) (X := 100) (Y := 200) (by omega) (by omega)
  have e2 : b*(4*(b + d)) = 4*(b*(b + d)) := by grind
  rw [he, e2]; omega
theorem nr_zero {b c d : Int} (hD : dsc 0 b c d < 0) (kb : 1 ≤ b ∧ b ≤ 100) (kc : -100 ≤ c ∧ c ≤ 100) (kd : -100 ≤ d ∧ d ≤ 100) : ∃ S p q A B C e M J r, Nr 0 b c d S p q A B C e M J r := by
  have hn := disc_near (a := 0) (b := b) (c := c) (d := d) (S := 1) (p := 0) (q := 1) (A := b) (B := c) (C := d) (e := 0) (by omega) (by omega) (by omega) (by omega) (by omega) (by omega) hD (by omega) (by omega) kc kd
  have hJ := J_pos (by omega) hn
  have hC : 1 ≤ d := by
    rcases Int.lt_or_le 0 d with h | h
    · omega
    · have := sq0 c
      have : 4 * b * d ≤ 0 := Int.mul_nonpos_of_nonneg_of_nonpos (by omega) h
      omega
  have er : b*1*1 - c*0*1 + d*0*0 = b := by omega
  exact ⟨1, 0, 1, b, c, d, 0, _, _, _, by omega, by omega, by omega, by omega, by omega, by omega, hC, rfl, rfl, rfl, by omega, hn, nr_zero_m er (by omega) (by omega), by omega⟩
theorem near_val {a b c d N T : Int} (hN : 1000000000000000000000000000000000000000000 ≤ N) (ka : 1 ≤ a ∧ a ≤ 100) (kb : -100 ≤ b ∧ b ≤ 100) (kc : -100 ≤ c ∧ c ≤ 100)
    (hT : -102*N ≤ T ∧ T ≤ 102*N) (g1 : fv a b c d T N < 0) (g2 : 0 ≤ fv a b c d (T + 1) N) : -(10000000*(N*N)) ≤ fv a b c d T N ∧ fv a b c d T N ≤ 10000000*(N*N) := by
  have e : fv a b c d (T + 1) N = fv a b c d T N + a*(3*(T*T) + 3*T + 1) + b*(N*(2*T + 1)) + c*(N*N) := by unfold fv; grind
  have hNN : 1000000000000000000000000000000000000000000 * N ≤ N*N := Int.mul_le_mul_of_nonneg_right hN (by omega)
  have t1 := mb (x := T) (y := T) (X := 102*N) (Y := 102*N) (by omega) (by omega)
  have e1 : 102*N*(102*N) = 10404*(N*N) := by grind
  rw [e1] at t1
  have m1 := mb (x := a) (X := 100) (y := 3*(T*T) + 3*T + 1) (Y := 31213*(N*N)) (by omega) (by omega)
  have m2' := mb (x := N) (X := N) (y := 2*T + 1) (Y := 205*N) (by omega) (by omega)
  have e2 : N*(205*N) = 205*(N*N) := by grind
  rw [e2] at m2'
  have m2 := mb kb m2'
  have m3 := mb kc (y := N*N) (Y := N*N) (by omega)
  omega
theorem ab (x : Int) : ∃ y, 0 ≤ y ∧ (y = x ∨ y = -x) ∧ -y ≤ x ∧ x ≤ y := by
  rcases Int.le_total 0 x with h | h
  · exact ⟨x, h, .inl rfl, by omega, by omega⟩
  · exact ⟨-x, by omega, .inr rfl, by omega, by omega⟩
theorem rm_fin {R M n x y : Int} (hR : R ≤ x * n) (hM0 : 0 ≤ M) (hM : M ≤ y * n) (hx : 0 ≤ x) (hn : 0 ≤ n) (hxy : x * y ≤ 125000) : R * M ≤ 125000 * (n * n) := by
  have h1 : R * M ≤ x * n * M := Int.mul_le_mul_of_nonneg_right hR hM0
  have h2 : x * n * M ≤ x * n * (y * n) := Int.mul_le_mul_of_nonneg_left hM (Int.mul_nonneg hx hn)
  have h3 : x * y * (n * n) ≤ 125000 * (n * n) := Int.mul_le_mul_of_nonneg_right hxy (Int.mul_nonneg hn hn)
  have e : x * n * (y * n) = x * y * (n * n) := by grind
  omega
theorem rm_fin2 {T τ N R M x y : Int} (hτ : 0 < τ) (eτ : T*T = τ*τ) (h1 : -(x*(N*(τ*τ))) ≤ T*R ∧ T*R ≤ x*(N*(τ*τ))) (h2 : -(y*(N*(N*N))) ≤ T*M ∧ T*M ≤ y*(N*(N*N))) (hxy : x*y ≤ 125000) : R*M ≤ 125000*(N*N*(N*N)) := by
  have h := (mb h1 h2).2
  have e1 : T*R*(T*M) = τ*τ*(R*M) := by rw [← eτ]; grind
  have e2 : x*(N*(τ*τ))*(y*(N*(N*N))) = τ*τ*(x*y*(N*N*(N*N))) := by grind
  rw [e1, e2] at h
  have h3 := Int.le_of_mul_le_mul_left h (Int.mul_pos hτ hτ)
  have h4 : x*y*(N*N*(N*N)) ≤ 125000*(N*N*(N*N)) := Int.mul_le_mul_of_nonneg_right hxy (sq0 _)
  omega
theorem near_rm {a b c d N T g : Int} (hN : 1000000000000000000000000000000000000000000 ≤ N) (ka : 1 ≤ a ∧ a ≤ 100) (kb : -100 ≤ b ∧ b ≤ 100) (kc : -100 ≤ c ∧ c ≤ 100) (kd : -100 ≤ d ∧ d ≤ 100)
    (hg : fv a b c d T N = g) (g1 : -(10000000*(N*N)) ≤ g ∧ g ≤ 10000000*(N*N)) (hC : 0 ≤ N*N*c + N*(b*T) + a*(T*T)) :
    (3*(a*(T*T)) + 2*(b*(T*N)) + c*(N*N)) * (N*N*a + (N*N*c + N*(b*T) + a*(T*T))) ≤ 125000 * (N*N*(N*N)) := by
  have hNN : 1000000000000000000000000000000000000000000 * N ≤ N*N := Int.mul_le_mul_of_nonneg_right hN (by omega)
  have hNNN : N*(1000000000000000000000000000000000000000000 * N) ≤ N*(N*N) := Int.mul_le_mul_of_nonneg_left hNN (by omega)
  have eN : N*(1000000000000000000000000000000000000000000 * N) = 1000000000000000000000000000000000000000000*(N*N) := by grind
  rw [eN] at hNNN
  have m0 := mb kc (y := N*N) (Y := N*N) (by omega)
  have m5 := mb kd (y := N*N) (Y := N*N) (by omega)
  have m6 := mb (x := N*N) (X := N*N) (y := a) (Y := 100) (by omega) (by omega)
  have m7 := mb (x := N*N) (X := N*N) (y := c) (Y := 100) (by omega) kc
  have m9 : 0 ≤ N*N*a := Int.mul_nonneg (sq0 N) (by omega)
  have m8 := mb (x := N) (X := N) (by omega) m5
  have e8 : N*(100*(N*N)) = 100*(N*(N*N)) := by grind
  rw [e8] at m8
  obtain ⟨τ, h0, h1, h2, h3⟩ := ab T
  have eτ : T*T = τ*τ := by rcases h1 with h1 | h1 <;> rw [h1] <;> grind
  have m2 : T*(N*N*c + N*(b*T) + a*(T*T)) = g - N*(d*(N*N)) := by rw [← hg]; unfold fv; grind
  have eR : 3*(a*(T*T)) + 2*(b*(T*N)) + c*(N*N) = (N*N*c + N*(b*T) + a*(T*T)) + 2*(a*(T*T)) + b*(T*N) := by grind
  have tT := mb (x := T) (y := T) (X := τ) (Y := τ) (by omega) (by omega)
  have tN := mb (x := T) (y := N) (X := τ) (Y := N) (by omega) (by omega)
  have p1 := mb (x := a) (X := 100) (by omega) tT
  have p2 := mb kb tN
  have eC : N*N*c + N*(b*T) + a*(T*T) = N*N*c + b*(T*N) + a*(T*T) := by grind
  rcases Int.le_total τ N with hc | hc
  · generalize hCq : N*N*c + N*(b*T) + a*(T*T) = Cq at *
    have q0 : τ*Cq ≤ 101*(N*(N*N)) := by
      have : τ*Cq = T*Cq ∨ τ*Cq = -(T*Cq) := by rcases h1 with h1 | h1 <;> rw [h1] <;> grind
      omega
    rw [eR]
    by_cases k1 : 2*τ ≤ N
    · have t1 := mb (x := 2*τ) (y := 2*τ) (X := N) (Y := N) (by omega) (by omega)
      have t2 := mb (x := 2*τ) (y := N) (X := N) (Y := N) (by omega) (by omega)
      have e1 : 2*τ*(2*τ) = 4*(τ*τ) := by grind
      have e2 : 2*τ*N = 2*(τ*N) := by grind
      rw [e1] at t1; rw [e2] at t2
      exact rm_fin (x := 275) (y := 275) (by omega) (by omega) (by omega) (by omega) (by omega) (by omega)
    · have k0 : 0 ≤ Cq := hC
      by_cases k2 : 4*τ ≤ 3*N
      · have t1 := mb (x := 4*τ) (y := 4*τ) (X := 3*N) (Y := 3*N) (by omega) (by omega)
        have t2 := mb (x := 4*τ) (y := N) (X := 3*N) (Y := N) (by omega) (by omega)
        have e1 : 4*τ*(4*τ) = 16*(τ*τ) := by grind
        have e2 : 4*τ*N = 4*(τ*N) := by grind
        have e3 : 3*N*(3*N) = 9*(N*N) := by grind
        have e4 : 3*N*N = 3*(N*N) := by grind
        rw [e1, e3] at t1; rw [e2, e4] at t2
        have s1 : N*Cq ≤ (2*τ)*Cq := Int.mul_le_mul_of_nonneg_right (by omega) k0
        have e5 : (2*τ)*Cq = 2*(τ*Cq) := by grind
        have s2 : N*Cq ≤ N*(202*(N*N)) := by
          have : N*(202*(N*N)) = 202*(N*(N*N)) := by grind
          omega
        have s3 := Int.le_of_mul_le_mul_left s2 (by omega)
        exact rm_fin (x := 390) (y := 302) (by omega) (by omega) (by omega) (by omega) (by omega) (by omega)
      · have t1 := mb (x := τ) (y := τ) (X := N) (Y := N) (by omega) (by omega)
        have t2 := mb (x := τ) (y := N) (X := N) (Y := N) (by omega) (by omega)
        have s1 : (3*N)*Cq ≤ (4*τ)*Cq := Int.mul_le_mul_of_nonneg_right (by omega) k0
        have e5 : (4*τ)*Cq = 4*(τ*Cq) := by grind
        have s2 : N*(3*Cq) ≤ N*(404*(N*N)) := by
          have : N*(404*(N*N)) = 404*(N*(N*N)) := by grind
          have : N*(3*Cq) = 3*N*Cq := by grind
          omega
        have s3 := Int.le_of_mul_le_mul_left s2 (by omega)
        exact rm_fin (x := 435) (y := 235) (by omega) (by omega) (by omega) (by omega) (by omega) (by omega)
  · have hT : 0 < τ := by omega
    have n1 : N*N ≤ τ*N := Int.mul_le_mul_of_nonneg_right hc (by omega)
    have n2 : τ*N ≤ τ*τ := Int.mul_le_mul_of_nonneg_left hc (by omega)
    have n3 : N*(N*N) ≤ N*(τ*N) := Int.mul_le_mul_of_nonneg_left n1 (by omega)
    have n4 : N*(τ*N) ≤ N*(τ*τ) := Int.mul_le_mul_of_nonneg_left n2 (by omega)
    have hττ : 0 < τ*τ := Int.mul_pos hT hT
    have w1 : (T*T)*(a*T) = g - (N*(b*(T*T)) + N*(c*(T*N)) + N*(d*(N*N))) := by rw [← hg]; unfold fv; grind
    have b1 := mb (x := N) (X := N) (by omega) (mb kb tT)
    have b2 := mb (x := N) (X := N) (by omega) (mb kc tN)
    have e1 : N*(100*(τ*τ)) = 100*(N*(τ*τ)) := by grind
    have e2 : N*(100*(τ*N)) = 100*(N*(τ*N)) := by grind
    rw [e1] at b1; rw [e2] at b2
    rw [eτ] at w1 b1
    -- T R and T M
    have w2 : T*(3*(a*(T*T)) + 2*(b*(T*N)) + c*(N*N)) = (T*T)*(a*T) - N*(c*(T*N)) - 2*(N*(d*(N*N))) + 2*g := by rw [← hg]; unfold fv; grind
    have w3 : T*(N*N*a + (N*N*c + N*(b*T) + a*(T*T))) = N*N*(a*T) + g - N*(d*(N*N)) := by rw [← hg]; unfold fv; grind
    rw [show (T*T)*(a*T) = τ*τ*(a*T) by rw [eτ]] at w2
    obtain ⟨ω, o0, o1, o2, o3⟩ := ab (a*T)
    have o4 : τ*τ*ω = τ*τ*(a*T) ∨ τ*τ*ω = -(τ*τ*(a*T)) := by rcases o1 with o1 | o1 <;> rw [o1] <;> grind
    have o5 : -(τ*τ*ω) ≤ τ*τ*(a*T) ∧ τ*τ*(a*T) ≤ τ*τ*ω := by
      have : 0 ≤ τ*τ*ω := Int.mul_nonneg (by omega) o0
      omega
    have o6 := mb (x := N*N) (X := N*N) (by omega) ⟨o2, o3⟩
    have o7 : ω ≤ 100*τ := by
      have := mb (x := a) (X := 100) (by omega) (y := T) (Y := τ) (by omega)
      omega
    by_cases k1 : 2*N ≤ τ
    · have u1 : N*(N*(2*N)) ≤ N*(N*τ) := Int.mul_le_mul_of_nonneg_left (Int.mul_le_mul_of_nonneg_left k1 (by omega)) (by omega)
      have u2 : N*(τ*(2*N)) ≤ N*(τ*τ) := Int.mul_le_mul_of_nonneg_left (Int.mul_le_mul_of_nonneg_left k1 (by omega)) (by omega)
      have v1 : N*(N*(2*N)) = 2*(N*(N*N)) := by grind
      have v2 : N*(τ*(2*N)) = 2*(N*(τ*N)) := by grind
      have v3 : N*(N*τ) = N*(τ*N) := by grind
      rw [v1, v3] at u1; rw [v2] at u2
      have s : τ*τ*ω ≤ τ*τ*(176*N) := by
        have : τ*τ*(176*N) = 176*(N*(τ*τ)) := by grind
        omega
      have s1 := Int.le_of_mul_le_mul_left s hττ
      have s2 : N*N*ω ≤ N*N*(176*N) := Int.mul_le_mul_of_nonneg_left s1 (by omega)
      have v4 : N*N*(176*N) = 176*(N*(N*N)) := by grind
      refine rm_fin2 (x := 277) (y := 277) hT eτ ?_ ?_ (by omega)
      · rw [w2]; have : τ*τ*(176*N) = 176*(N*(τ*τ)) := by grind
        omega
      · rw [w3]; omega
    · by_cases k2 : 4*N ≤ 3*τ
      · have s1 : ω ≤ 200*N := by omega
        have u1 : N*(N*(4*N)) ≤ N*(N*(3*τ)) := Int.mul_le_mul_of_nonneg_left (Int.mul_le_mul_of_nonneg_left k2 (by omega)) (by omega)
        have u2 : N*(τ*(4*N)) ≤ N*(τ*(3*τ)) := Int.mul_le_mul_of_nonneg_left (Int.mul_le_mul_of_nonneg_left k2 (by omega)) (by omega)
        have v1 : N*(N*(4*N)) = 4*(N*(N*N)) := by grind
        have v2 : N*(τ*(4*N)) = 4*(N*(τ*N)) := by grind
        have v3 : N*(N*(3*τ)) = 3*(N*(τ*N)) := by grind
        have v5 : N*(τ*(3*τ)) = 3*(N*(τ*τ)) := by grind
        rw [v1, v3] at u1; rw [v2, v5] at u2
        have s2 : N*N*ω ≤ N*N*(200*N) := Int.mul_le_mul_of_nonneg_left s1 (by omega)
        have v4 : N*N*(200*N) = 200*(N*(N*N)) := by grind
        have s3 : τ*τ*ω ≤ τ*τ*(200*N) := Int.mul_le_mul_of_nonneg_left s1 (by omega)
        have v6 : τ*τ*(200*N) = 200*(N*(τ*τ)) := by grind
        refine rm_fin2 (x := 389) (y := 301) hT eτ ?_ ?_ (by omega)
        · rw [w2]; omega
        · rw [w3]; omega
      · have s1 : 3*ω ≤ 400*N := by omega
        have s2 : N*N*(3*ω) ≤ N*N*(400*N) := Int.mul_le_mul_of_nonneg_left s1 (by omega)
        have v4 : N*N*(400*N) = 400*(N*(N*N)) := by grind
        have v5 : N*N*(3*ω) = 3*(N*N*ω) := by grind
        have s3 : τ*τ*(3*ω) ≤ τ*τ*(400*N) := Int.mul_le_mul_of_nonneg_left s1 (by omega)
        have v6 : τ*τ*(400*N) = 400*(N*(τ*τ)) := by grind
        have v7 : τ*τ*(3*ω) = 3*(τ*τ*ω) := by grind
        refine rm_fin2 (x := 435) (y := 235) hT eτ ?_ ?_ (by omega)
        · rw [w2]; omega
        · rw [w3]; omega
theorem nr_pos {a b c d : Int} (hD : dsc a b c d < 0) (ka : 1 ≤ a ∧ a ≤ 100) (kb : -100 ≤ b ∧ b ≤ 100) (kc : -100 ≤ c ∧ c ≤ 100) (kd : -100 ≤ d ∧ d ≤ 100) : ∃ S p q A B C e M J r, Nr a b c d S p q A B C e M J r := by
  obtain ⟨N, hN⟩ : ∃ N : Int, 1000000000000000000000000000000000000000000 ≤ N := ⟨_, Int.le_refl _⟩
  have hNN : 0 < N*N := Int.mul_pos (by omega) (by omega)
  have hN3 : 0 < N*(N*N) := Int.mul_pos (by omega) hNN
  have g0 : ∀ k : Int, fv a b c d (k*N) N = (a*(k*k*k) + b*(k*k) + c*k + d) * (N*(N*N)) := fun k => by unfold fv; grind
  have g1 : fv a b c d (-102*N) N < 0 := by
    rw [g0]; exact Int.mul_neg_of_neg_of_pos (by omega) hN3
  have g2 : 0 ≤ fv a b c d (-102*N + (204*N).toNat) N := by
    have : -102*N + ((204*N).toNat : Int) = 102*N := by omega
    rw [this, g0]; exact Int.mul_nonneg (by omega) (by omega)
  obtain ⟨T, t1, t2, t3, t4⟩ := ivt (fun x => fv a b c d x N) _ _ g1 g2
  have hg := near_val hN ka kb kc (T := T) (by omega) t3 t4
  have hS : 1 ≤ N*(N*N) := by omega
  have ea : N*(N*N)*a = N*(N*N*a) := by grind
  have eb : N*(N*N)*b = N*(N*N*b + N*(a*T)) + (-T)*(N*N*a) := by grind
  have ec : N*(N*N)*c = N*(N*N*c + N*(b*T) + a*(T*T)) + (-T)*(N*N*b + N*(a*T)) := by grind
  have ed : N*(N*N)*d = (-T)*(N*N*c + N*(b*T) + a*(T*T)) + fv a b c d T N := by unfold fv; grind
  have he : -(N*(N*N)) ≤ 1000000000000000000000000000000000 * fv a b c d T N ∧ 1000000000000000000000000000000000 * fv a b c d T N ≤ N*(N*N) := by
    have : 1000000000000000000000000000000000000000000*(N*N) ≤ N*(N*N) := Int.mul_le_mul_of_nonneg_right hN (by omega)
    omega
  have hn := disc_near hS ea eb ec ed he hD (by omega) kb kc kd
  have hJ := J_pos hS hn
  have hA : 1 ≤ N*N*a := by have : 0 < N*N*a := Int.mul_pos hNN (by omega)
                            omega
  have hC : 1 ≤ N*N*c + N*(b*T) + a*(T*T) := by
    rcases Int.lt_or_le 0 (N*N*c + N*(b*T) + a*(T*T)) with h | h
    · omega
    · have := sq0 (N*N*b + N*(a*T))
      have : 4 * (N*N*a) * (N*N*c + N*(b*T) + a*(T*T)) ≤ 0 := Int.mul_nonpos_of_nonneg_of_nonpos (by omega) h
      omega
  have hm := near_rm (T := T) hN ka kb kc kd rfl hg (by omega)
  have er : N*N*a*(-T)*(-T) - (N*N*b + N*(a*T))*N*(-T) + (N*N*c + N*(b*T) + a*(T*T))*N*N = N*N*(3*(a*(T*T)) + 2*(b*(T*N)) + c*(N*N)) := by grind
  have hr1 : 1 ≤ N*N*a*(-T)*(-T) - (N*N*b + N*(a*T))*N*(-T) + (N*N*c + N*(b*T) + a*(T*T))*N*N := by
    have h1 := qv_nn hA hJ (-T) (-N)
    have h2 : qv (N*N*a) (N*N*b + N*(a*T)) (N*N*c + N*(b*T) + a*(T*T)) (-T) (-N) = N*N*a*(-T)*(-T) - (N*N*b + N*(a*T))*N*(-T) + (N*N*c + N*(b*T) + a*(T*T))*N*N := by unfold qv; grind
    rw [h2] at h1
    rcases Int.lt_or_eq_of_le h1 with h3 | h3
    · omega
    · rw [← h3] at hn
      have : 0 < N*(N*N)*(N*(N*N))*(N*(N*N))*(N*(N*N)) := Int.mul_pos (Int.mul_pos (Int.mul_pos hN3 hN3) hN3) hN3
      simp at hn
      omega
  refine ⟨N*(N*N), N, -T, N*N*a, N*N*b + N*(a*T), N*N*c + N*(b*T) + a*(T*T), fv a b c d T N, _, _, _, hS, ea, eb, ec, ed, hA, hC, rfl, rfl, rfl, hr1, hn, ?_, he⟩
  rw [er]
  have h5 : N*N*((3*(a*(T*T)) + 2*(b*(T*N)) + c*(N*N)) * (N*N*a + (N*N*c + N*(b*T) + a*(T*T)))) ≤ N*N*(125000 * (N*N*(N*N))) := Int.mul_le_mul_of_nonneg_left hm (by omega)
  have e1 : N*N*(3*(a*(T*T)) + 2*(b*(T*N)) + c*(N*N)) * (4*(N*N*a + (N*N*c + N*(b*T) + a*(T*T)))) = 4*(N*N*((3*(a*(T*T)) + 2*(b*(T*N)) + c*(N*N)) * (N*N*a + (N*N*c + N*(b*T) + a*(T*T))))) := by grind
  have e2 : 500000 * (N*(N*N)*(N*(N*N))) = 4*(N*N*(125000 * (N*N*(N*N)))) := by grind
  rw [e1, e2]; omega
theorem Nr.neg {a b c d S p q A B C e M J r : Int} (h : Nr a b c d S p q A B C e M J r) : Nr (-a) (-b) (-c) (-d) S (-p) (-q) A B C (-e) M J r := by
  obtain ⟨hS, ha, hb, hc, hd, hA, hC, hM, hJ, hr, hr1, hD, hm, he⟩ := h
  refine ⟨hS, by rw [Int.mul_neg, ha, Int.neg_mul], by rw [Int.mul_neg, hb, Int.neg_mul, Int.neg_mul]; omega, by rw [Int.mul_neg, hc, Int.neg_mul, Int.neg_mul]; omega, by rw [Int.mul_neg, hd, Int.neg_mul]; omega, hA, hC, hM, hJ, ?_, hr1, hD, hm, by omega⟩
  rw [hr]
  have : ∀ A B C p q : Int, A*q*q - B*p*q + C*p*p = A*(-q)*(-q) - B*(-p)*(-q) + C*(-p)*(-p) := fun A B C p q => by grind
  exact this A B C p q
theorem neg_ends {a b c d : Int} (hD : dsc a b c d < 0) (ka : -100 ≤ a ∧ a ≤ 100) (kb : -100 ≤ b ∧ b ≤ 100) (kc : -100 ≤ c ∧ c ≤ 100) (kd : -100 ≤ d ∧ d ≤ 100) : ∃ n, En false n (a, b, c, d) ∧ UB (fin false n (a, b, c, d)) := by
  have e : dsc (-a) (-b) (-c) (-d) = dsc a b c d := by unfold dsc; grind
  have go : ∃ S p q A B C e M J r, Nr a b c d S p q A B C e M J r := by
    have fl : (∃ S p q A B C e M J r, Nr (-a) (-b) (-c) (-d) S p q A B C e M J r) → ∃ S p q A B C e M J r, Nr a b c d S p q A B C e M J r := by
      rintro ⟨S, p, q, A, B, C, e, M, J, r, h⟩
      have := h.neg
      rw [Int.neg_neg, Int.neg_neg, Int.neg_neg, Int.neg_neg] at this
      exact ⟨_, _, _, _, _, _, _, _, _, _, this⟩
    rcases Int.lt_trichotomy a 0 with h | h | h
    · exact fl (nr_pos (by rw [e]; exact hD) (by omega) (by omega) (by omega) (by omega))
    · subst h
      have hb : b ≠ 0 := by rintro rfl; simp [dsc] at hD
      rcases Int.lt_or_gt_of_ne hb with h | h
      · exact fl (by rw [Int.neg_zero]; rw [Int.neg_zero] at e; exact nr_zero (by rw [e]; exact hD) (by omega) (by omega) (by omega))
      · exact nr_zero hD (by omega) kc kd
    · exact nr_pos hD (by omega) kb kc kd
  obtain ⟨S, p, q, A, B, C, e, M, J, r, h⟩ := go
  exact neg_ends_of h

end Go.Proofs.Ytikmjefbjejbkaa.Red
