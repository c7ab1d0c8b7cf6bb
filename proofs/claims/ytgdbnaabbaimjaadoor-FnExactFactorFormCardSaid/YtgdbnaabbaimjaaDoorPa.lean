/- Several texts in one: XFa, XFb, XFe, XRb2, XFs. -/
import Derived.Test.YtgdbnaabbaimjaaDoorGm
import Derived.Test.YtgdbnaabbaimjaaDoorGq
import Derived.Test.YtgdbnaabbaimjaaDoorRb
import Derived.Test.YtgdbnaabbaimjaaDoorRo

/- Chapter 5: factors: rests of forms divided by their roots keep the other roots with their multiplicities. Mathematics; no Go function in sight. -/
namespace Go.Proofs.YtgdbnaabbaimjaaDoor
open Go.RowKit

/-- A list times y X - x Y. -/
def mulA (x y : Int) (p : Int) : List Int → List Int
  | [] => [-(x * p)]
  | m :: M => (y * m - x * p) :: mulA x y m M
def mulL (x y : Int) (M : List Int) : List Int := mulA x y 0 M
theorem mulL0 (x y : Int) : mulL x y [] = [-(x * 0)] := rfl
theorem mulL1 (x y a : Int) : mulL x y [a] = [y * a - x * 0, -(x * a)] := rfl
theorem mulL2 (x y a b : Int) : mulL x y [a, b] = [y * a - x * 0, y * b - x * a, -(x * b)] := rfl
theorem mulL3 (x y a b c : Int) : mulL x y [a, b, c] = [y * a - x * 0, y * b - x * a, y * c - x * b, -(x * c)] := rfl
theorem mulL_len (x y : Int) (M : List Int) : (mulL x y M).length = M.length + 1 := by
  unfold mulL
  generalize (0 : Int) = p
  induction M generalizing p with
  | nil => rfl
  | cons m M ih => simp [mulA, ih]
/-- The value, as a whole number. -/
def ev (L : List Int) (x y : Int) : Int := (L.foldl (fun s n => (s.1 * x + n * s.2, s.2 * y)) ((0, 1) : Int × Int)).1
theorem ev4 (a b c d x y : Int) : ev [a, b, c, d] x y = vx a b c d x y := by simp only [ev, List.foldl]; unfold vx; grind
theorem ev3 (a b c x y : Int) : ev [a, b, c] x y = a * x * x + b * x * y + c * y * y := by simp only [ev, List.foldl]; grind
theorem ev2 (a b x y : Int) : ev [a, b] x y = a * x + b * y := by simp only [ev, List.foldl]; grind
theorem ev1 (a x y : Int) : ev [a] x y = a := by simp only [ev, List.foldl]; grind
/-- Lists that are met: of one to four numbers, not all 0, not too great. -/
def bdF : Nat → Int
  | 4 => 1000
  | 3 => 1002001000
  | 2 => 1003003001000
  | _ => 1003003001000
def GL (L : List Int) : Prop := 1 ≤ L.length ∧ L.length ≤ 4 ∧ (∀ n ∈ L, -bdF L.length ≤ n ∧ n ≤ bdF L.length) ∧ ∃ n ∈ L, n ≠ 0
/-- Points: 1, 0, or x, y with y of at least 1, without a common divisor. -/
def PT (x y : Int) : Prop := (x = 1 ∧ y = 0) ∨ (1 ≤ y ∧ y ≤ 1000 ∧ -1000 ≤ x ∧ x ≤ 1000 ∧ Int.gcd x y = 1)
theorem PT.bd {x y : Int} (h : PT x y) : (-1000 ≤ x ∧ x ≤ 1000) ∧ (-1000 ≤ y ∧ y ≤ 1000) := by
  rcases h with ⟨rfl, rfl⟩ | h
  · omega
  · omega
theorem len_1 {L : List Int} (h : L.length = 1) : ∃ a, L = [a] := by
  match L, h with
  | [a], _ => exact ⟨a, rfl⟩
theorem len_2 {L : List Int} (h : L.length = 2) : ∃ a b, L = [a, b] := by
  match L, h with
  | [a, b], _ => exact ⟨a, b, rfl⟩
theorem len_3 {L : List Int} (h : L.length = 3) : ∃ a b c, L = [a, b, c] := by
  match L, h with
  | [a, b, c], _ => exact ⟨a, b, c, rfl⟩
theorem len_4 {L : List Int} (h : L.length = 4) : ∃ a b c d, L = [a, b, c, d] := by
  match L, h with
  | [a, b, c, d], _ => exact ⟨a, b, c, d, rfl⟩
theorem GL.cases {L : List Int} (h : GL L) : (∃ a, L = [a]) ∨ (∃ a b, L = [a, b]) ∨ (∃ a b c, L = [a, b, c]) ∨ (∃ a b c d, L = [a, b, c, d]) := by
  obtain ⟨h1, h2, _⟩ := h
  rcases (show L.length = 1 ∨ L.length = 2 ∨ L.length = 3 ∨ L.length = 4 by omega) with e | e | e | e
  · exact .inl (len_1 e)
  · exact .inr (.inl (len_2 e))
  · exact .inr (.inr (.inl (len_3 e)))
  · exact .inr (.inr (.inr (len_4 e)))
theorem GL.b1 {a : Int} (h : GL [a]) : a ≠ 0 ∧ -1003003001000 ≤ a ∧ a ≤ 1003003001000 := by
  obtain ⟨_, _, h3, h4⟩ := h
  simp [bdF] at h3 h4
  exact ⟨h4, h3.1, h3.2⟩
theorem GL.b2 {a b : Int} (h : GL [a, b]) : ¬ (a = 0 ∧ b = 0) ∧ (-1003003001000 ≤ a ∧ a ≤ 1003003001000) ∧ (-1003003001000 ≤ b ∧ b ≤ 1003003001000) := by
  obtain ⟨_, _, h3, h4⟩ := h
  simp [bdF] at h3 h4
  exact ⟨by omega, h3.1, h3.2⟩
theorem GL.b3 {a b c : Int} (h : GL [a, b, c]) : ¬ (a = 0 ∧ b = 0 ∧ c = 0) ∧ (-1002001000 ≤ a ∧ a ≤ 1002001000) ∧ (-1002001000 ≤ b ∧ b ≤ 1002001000) ∧ (-1002001000 ≤ c ∧ c ≤ 1002001000) := by
  obtain ⟨_, _, h3, h4⟩ := h
  simp [bdF] at h3 h4
  exact ⟨by omega, h3.1, h3.2.1, h3.2.2⟩
theorem GL.b4 {a b c d : Int} (h : GL [a, b, c, d]) : ¬ (a = 0 ∧ b = 0 ∧ c = 0 ∧ d = 0) ∧ (-1000 ≤ a ∧ a ≤ 1000) ∧ (-1000 ≤ b ∧ b ≤ 1000) ∧ (-1000 ≤ c ∧ c ≤ 1000) ∧ (-1000 ≤ d ∧ d ≤ 1000) := by
  obtain ⟨_, _, h3, h4⟩ := h
  simp [bdF] at h3 h4
  exact ⟨by omega, h3.1, h3.2.1, h3.2.2.1, h3.2.2.2⟩
theorem GL.m1 {a : Int} (h : a ≠ 0) (h1 : -1003003001000 ≤ a ∧ a ≤ 1003003001000) : GL [a] := ⟨by simp, by simp, by simp [bdF]; omega, by simpa using h⟩
theorem GL.m2 {a b : Int} (h : ¬ (a = 0 ∧ b = 0)) (h1 : -1003003001000 ≤ a ∧ a ≤ 1003003001000) (h2 : -1003003001000 ≤ b ∧ b ≤ 1003003001000) : GL [a, b] := ⟨by simp, by simp, by simp [bdF]; omega, by simp; omega⟩
theorem GL.m3 {a b c : Int} (h : ¬ (a = 0 ∧ b = 0 ∧ c = 0)) (h1 : -1002001000 ≤ a ∧ a ≤ 1002001000) (h2 : -1002001000 ≤ b ∧ b ≤ 1002001000) (h3 : -1002001000 ≤ c ∧ c ≤ 1002001000) : GL [a, b, c] := ⟨by simp, by simp, by simp [bdF]; omega, by simp; omega⟩
theorem GL.m4 {a b c d : Int} (h : ¬ (a = 0 ∧ b = 0 ∧ c = 0 ∧ d = 0)) (h1 : -1000 ≤ a ∧ a ≤ 1000) (h2 : -1000 ≤ b ∧ b ≤ 1000) (h3 : -1000 ≤ c ∧ c ≤ 1000) (h4 : -1000 ≤ d ∧ d ≤ 1000) : GL [a, b, c, d] := ⟨by simp, by simp, by simp [bdF]; omega, by simp; omega⟩
/-- The program's value is exact. -/
theorem nva_ev {L : List Int} {x y : Int} (h : GL L) (hp : PT x y) : nva L x y = ev L x y := by
  obtain ⟨hx, hy⟩ := hp.bd
  rcases h.cases with ⟨a, rfl⟩ | ⟨a, b, rfl⟩ | ⟨a, b, c, rfl⟩ | ⟨a, b, c, d, rfl⟩
  · obtain ⟨_, h1⟩ := h.b1
    rw [nx0, ev1, wr_in (by omega)]
  · obtain ⟨_, ha, hb⟩ := h.b2
    have m1 := mulb ha hx; have m2 := mulb hb hy
    rw [nx1, ev2, wr_in (by omega)]
  · obtain ⟨_, ha, hb, hc⟩ := h.b3
    have m1 := mulb (mulb ha hx) hx; have m2 := mulb (mulb hb hx) hy; have m3 := mulb (mulb hc hy) hy
    rw [nx2, ev3, wr_in (by omega)]
  · obtain ⟨_, ha, hb, hc, hd⟩ := h.b4
    have := vx_bd (A := 1000) (B := 1000) ha hb hc hd hx hy
    rw [nx3, ev4, wr_in (by omega)]
/-- A quotient of at most three numbers. -/
theorem qq {y z n B : Int} (hy : 1 ≤ y) (e : n = y * z) (h : -B ≤ n ∧ n ≤ B) : -B ≤ z ∧ z ≤ B := quo_bd hy (e ▸ h)
theorem stq {n x p y z B : Int} (hy : 1 ≤ y) (hB : B ≤ 9000000000000000000) (e : n = y * z - x * p) (h : -B ≤ y * z ∧ y * z ≤ B) : wrap64 ((pl n (mu x p)).tdiv y) = z := by
  simp only [pl, mu, wr_ar]
  exact qt1 (B := B) hy hB (by omega) (by omega)
/-- Division by y X - x Y: the quotient that the program takes is the exact one. -/
theorem dvd_mul {L M : List Int} {x y : Int} (h : GL L) (hp : PT x y) (e : L = mulL x y M) : dvd L x y = M ∧ GL M := by
  have hl := mulL_len x y M
  rw [← e] at hl
  have h4 := h.2.1
  have h0 : M ≠ [] := fun e0 => by
    subst e0; subst e
    have := h.b1; simp at this
  have hm : M.length = 1 ∨ M.length = 2 ∨ M.length = 3 := by
    have := List.length_pos_iff.2 h0; omega
  rcases hp with ⟨rfl, rfl⟩ | ⟨hy, hy', hx0, hx1, hg⟩
  · rcases hm with e1 | e1 | e1
    · obtain ⟨a, rfl⟩ := len_1 e1
      subst e
      obtain ⟨n0, ha, hb⟩ := h.b2
      refine ⟨?_, GL.m1 (by omega) (by omega)⟩
      simp [mulL1, dvd]; exact wr_in (by omega)
    · obtain ⟨a, b, rfl⟩ := len_2 e1
      subst e
      obtain ⟨n0, ha, hb, hc⟩ := h.b3
      refine ⟨?_, GL.m2 (by omega) (by omega) (by omega)⟩
      simp [mulL2, dvd]; exact ⟨wr_in (by omega), wr_in (by omega)⟩
    · obtain ⟨a, b, c, rfl⟩ := len_3 e1
      subst e
      obtain ⟨n0, ha, hb, hc, hd⟩ := h.b4
      refine ⟨?_, GL.m3 (by omega) (by omega) (by omega) (by omega)⟩
      simp [mulL3, dvd]; exact ⟨wr_in (by omega), wr_in (by omega), wr_in (by omega)⟩
  · have hx : -1000 ≤ x ∧ x ≤ 1000 := ⟨hx0, hx1⟩
    have ny : ¬ y = 0 := by omega
    have yz : ∀ {z : Int}, z = 0 → y * z = 0 := fun h => by rw [h]; simp
    have xz : ∀ {z : Int}, z = 0 → x * z = 0 := fun h => by rw [h]; simp
    rcases hm with e1 | e1 | e1
    · obtain ⟨a, rfl⟩ := len_1 e1
      subst e
      obtain ⟨n0, ha, hb⟩ := h.b2
      have qa := qq (B := 1003003001000) hy rfl (show -1003003001000 ≤ y * a ∧ y * a ≤ 1003003001000 by omega)
      refine ⟨?_, GL.m1 (fun h => n0 ⟨by rw [h]; simp, by rw [h]; simp⟩) qa⟩
      simp only [mulL1, dvd, ny, if_false, List.dropLast, List.foldl, dst, List.nil_append]
      rw [stq (B := 1003003001000) hy (by omega) rfl (by omega)]
    · obtain ⟨a, b, rfl⟩ := len_2 e1
      subst e
      obtain ⟨n0, ha, hb, hc⟩ := h.b3
      have qa := qq (B := 1002001000) hy rfl (show -1002001000 ≤ y * a ∧ y * a ≤ 1002001000 by omega)
      have m1 := mulb hx qa
      have qb := qq (B := 1003003001000) hy rfl (show -1003003001000 ≤ y * b ∧ y * b ≤ 1003003001000 by omega)
      refine ⟨?_, GL.m2 (fun h => n0 ⟨by rw [h.1]; simp, by rw [h.1, h.2]; simp, by rw [h.2]; simp⟩) (by omega) qb⟩
      simp only [mulL2, dvd, ny, if_false, List.dropLast, List.foldl, dst, List.nil_append, List.cons_append]
      rw [stq (z := a) (B := 1002001000) hy (by omega) rfl (by omega), stq (z := b) (B := 1003003001000) hy (by omega) rfl (by omega)]
    · obtain ⟨a, b, c, rfl⟩ := len_3 e1
      subst e
      obtain ⟨n0, ha, hb, hc, hd⟩ := h.b4
      have qa := qq (B := 1000) hy rfl (show -1000 ≤ y * a ∧ y * a ≤ 1000 by omega)
      have m1 := mulb hx qa
      have qb := qq (B := 1001000) hy rfl (show -1001000 ≤ y * b ∧ y * b ≤ 1001000 by omega)
      have m2 := mulb hx qb
      have qc := qq (B := 1001001000) hy rfl (show -1001001000 ≤ y * c ∧ y * c ≤ 1001001000 by omega)
      refine ⟨?_, GL.m3 (fun h => n0 ⟨by rw [h.1]; simp, by rw [h.1, h.2.1]; simp, by rw [h.2.1, h.2.2]; simp, by rw [h.2.2]; simp⟩) (by omega) (by omega) (by omega)⟩
      simp only [mulL3, dvd, ny, if_false, List.dropLast, List.foldl, dst, List.nil_append, List.cons_append]
      rw [stq (z := a) (B := 1000) hy (by omega) rfl (by omega), stq (z := b) (B := 1001000) hy (by omega) rfl (by omega), stq (z := c) (B := 1001001000) hy (by omega) rfl (by omega)]
/-- Where the value is 0 the form is a multiple. -/
theorem ev_mul {L : List Int} {x y : Int} (h : GL L) (hp : PT x y) (h0 : ev L x y = 0) : ∃ M, L = mulL x y M := by
  rcases h.cases with ⟨a, rfl⟩ | ⟨a, b, rfl⟩ | ⟨a, b, c, rfl⟩ | ⟨a, b, c, d, rfl⟩
  · rw [ev1] at h0; exact absurd h0 h.b1.1
  · rw [ev2] at h0
    rcases hp with ⟨rfl, rfl⟩ | ⟨hy, _, _, _, hg⟩
    · exact ⟨[-b], by rw [mulL1]; simp at h0 ⊢; exact h0⟩
    · obtain ⟨a', e1, e2⟩ := ex1 hy hg h0
      exact ⟨[a'], by rw [mulL1, e1, e2]; simp⟩
  · rw [ev3] at h0
    rcases hp with ⟨rfl, rfl⟩ | ⟨hy, _, _, _, hg⟩
    · exact ⟨[-b, -c], by rw [mulL2]; simp at h0 ⊢; exact h0⟩
    · obtain ⟨a', b', e1, e2, e3⟩ := ex2 hy hg h0
      exact ⟨[a', b'], by rw [mulL2, e1, e2, e3]; simp⟩
  · rw [ev4] at h0
    rcases hp with ⟨rfl, rfl⟩ | ⟨hy, _, _, _, hg⟩
    · exact ⟨[-b, -c, -d], by rw [mulL3]; simp [vx] at h0 ⊢; exact h0⟩
    · obtain ⟨a', b', c', e1, e2, e3, e4⟩ := ex3 hy hg h0
      exact ⟨[a', b', c'], by rw [mulL3, e1, e2, e3, e4]; simp⟩
theorem ev_app {M : List Int} {x y s t : Int} (h : M.length ≤ 3) : ev (mulL x y M) s t = (y * s - x * t) * ev M s t := by
  rcases (show M.length = 0 ∨ M.length = 1 ∨ M.length = 2 ∨ M.length = 3 by omega) with e | e | e | e
  · rw [List.length_eq_zero_iff.1 e, mulL0, ev1]; simp [ev]
  · obtain ⟨a, rfl⟩ := len_1 e
    rw [mulL1, ev2, ev1]; grind
  · obtain ⟨a, b, rfl⟩ := len_2 e
    rw [mulL2, ev3, ev2]; grind
  · obtain ⟨a, b, c, rfl⟩ := len_3 e
    rw [mulL3, ev4, ev3]; unfold vx; grind
theorem mulL_com {N : List Int} {x y s t : Int} (h : N.length ≤ 2) : mulL x y (mulL s t N) = mulL s t (mulL x y N) := by
  rcases (show N.length = 0 ∨ N.length = 1 ∨ N.length = 2 by omega) with e | e | e
  · rw [List.length_eq_zero_iff.1 e]; simp only [mulL0, mulL1]; simp
  · obtain ⟨a, rfl⟩ := len_1 e
    simp only [mulL1, mulL2, List.cons.injEq, and_true]; grind
  · obtain ⟨a, b, rfl⟩ := len_2 e
    simp only [mulL2, mulL3, List.cons.injEq, and_true]; grind
theorem mlt_e {x y : Int} {n : Nat} {L : List Int} (h : GL L) (hp : PT x y) : mlt 0 x y (n + 1) L = if ev L x y = 0 then mlt 0 x y n (dvd L x y) + 1 else 0 := by
  simp only [mlt, nva_ev h hp, mul0_0, decide_eq_true_eq]
/-- A factor of another root does not count. -/
theorem mlt_app {x y s t : Int} (hp : PT x y) (hq : PT s t) (hne : t * x - s * y ≠ 0) : ∀ (n : Nat) {L M : List Int}, GL L → L = mulL s t M → mlt 0 x y n L = mlt 0 x y n M := by
  intro n
  induction n with
  | zero => intro _ _ _ _; rfl
  | succ n ih =>
    intro L M hL e
    obtain ⟨_, hM⟩ := dvd_mul hL hq e
    have hl : M.length ≤ 3 := by have := mulL_len s t M; rw [← e] at this; have := hL.2.1; omega
    have he : ev L x y = 0 ↔ ev M x y = 0 := by
      rw [e, ev_app hl, Int.mul_eq_zero]
      exact ⟨fun h => h.resolve_left hne, .inr⟩
    rw [mlt_e hL hp, mlt_e hM hp]
    by_cases h0 : ev M x y = 0
    · obtain ⟨N, eN⟩ := ev_mul hM hp h0
      obtain ⟨d1, hN⟩ := dvd_mul hM hp eN
      have hNl : N.length ≤ 2 := by have := mulL_len x y N; rw [← eN] at this; omega
      have e2 : L = mulL x y (mulL s t N) := by rw [e, eN]; exact (mulL_com hNl).symm
      obtain ⟨d2, hK⟩ := dvd_mul hL hp e2
      rw [if_pos (he.2 h0), if_pos h0, d1, d2, ih hK rfl]
    · rw [if_neg h0, if_neg fun h => h0 (he.1 h)]


end Go.Proofs.YtgdbnaabbaimjaaDoor

/- Chapter 5: factors: the rows and the rest, root by root. Mathematics; no Go function in sight. -/
namespace Go.Proofs.YtgdbnaabbaimjaaDoor
open Go.RowKit

theorem mlt_fuel {x y : Int} (hp : PT x y) : ∀ (n m : Nat) {L : List Int}, GL L → L.length ≤ n → L.length ≤ m → mlt 0 x y n L = mlt 0 x y m L := by
  intro n
  induction n with
  | zero => intro m L h h0 _; have := h.1; omega
  | succ n ih =>
    intro m L h h0 h1
    cases m with
    | zero => have := h.1; omega
    | succ m =>
      rw [mlt_e h hp, mlt_e h hp]
      by_cases e : ev L x y = 0
      · obtain ⟨M, eM⟩ := ev_mul h hp e
        obtain ⟨d, hM⟩ := dvd_mul h hp eM
        have hl := mulL_len x y M
        rw [← eM] at hl
        rw [if_pos e, if_pos e, d, ih m hM (by omega) (by omega)]
      · rw [if_neg e, if_neg e]
theorem mulA_sc (x y k : Int) : ∀ (M : List Int) (p : Int), (mulA x y p M).map (k * ·) = mulA x y (k * p) (M.map (k * ·)) := by
  intro M
  induction M with
  | nil => intro p; simp [mulA]; grind
  | cons m M ih => intro p; simp only [mulA, List.map_cons, ih]; congr 1; grind
theorem mulL_sc (x y k : Int) (M : List Int) : (mulL x y M).map (k * ·) = mulL x y (M.map (k * ·)) := by
  unfold mulL; rw [mulA_sc, Int.mul_zero]
theorem ev_sc {L : List Int} (h : GL L) (k x y : Int) : ev (L.map (k * ·)) x y = k * ev L x y := by
  rcases h.cases with ⟨a, rfl⟩ | ⟨a, b, rfl⟩ | ⟨a, b, c, rfl⟩ | ⟨a, b, c, d, rfl⟩
  · simp only [List.map_cons, List.map_nil, ev1]
  · simp only [List.map_cons, List.map_nil, ev2]; grind
  · simp only [List.map_cons, List.map_nil, ev3]; grind
  · simp only [List.map_cons, List.map_nil, ev4]; unfold vx; grind
/-- Multiples have the same roots. -/
theorem mlt_sc {x y k : Int} (hp : PT x y) (hk : k ≠ 0) : ∀ (n : Nat) {L : List Int}, GL L → GL (L.map (k * ·)) → mlt 0 x y n (L.map (k * ·)) = mlt 0 x y n L := by
  intro n
  induction n with
  | zero => intro _ _ _; rfl
  | succ n ih =>
    intro L h h'
    rw [mlt_e h hp, mlt_e h' hp, ev_sc h]
    by_cases e : ev L x y = 0
    · obtain ⟨M, eM⟩ := ev_mul h hp e
      obtain ⟨d, hM⟩ := dvd_mul h hp eM
      obtain ⟨d', hM'⟩ := dvd_mul h' hp (by rw [eM, mulL_sc])
      rw [if_pos e, if_pos (by rw [e]; simp), d, d', ih hM hM']
    · rw [if_neg e, if_neg (fun h0 => (Int.mul_eq_zero.1 h0).elim hk e)]

theorem mlt_le (x y : Int) : ∀ (n : Nat) (L : List Int), mlt 0 x y n L ≤ n := by
  intro n
  induction n with
  | zero => intro L; simp [mlt]
  | succ n ih =>
    intro L
    simp only [mlt]
    split
    · have := ih (dvd L x y); omega
    · omega

/-- One root, s times: the rows, the rest. -/
def fJ (x y : Int) : Nat → List (List Int) × List Int → List (List Int) × List Int
  | 0, st => st
  | s + 1, st => fJ x y s (st.1 ++ [[x, y]], dvd st.2 x y)
def fR (R : List (Int × Int × Int)) (st : List (List Int) × List Int) : List (List Int) × List Int := R.foldl (fun st r => fJ r.1 r.2.1 r.2.2.toNat st) st
theorem fR_cons (r : Int × Int × Int) (R : List (Int × Int × Int)) (st : List (List Int) × List Int) : fR (r :: R) st = fR R (fJ r.1 r.2.1 r.2.2.toNat st) := rfl
structure FInv (st : List (List Int) × List Int) (R : List (Int × Int × Int)) : Prop where
  gl : GL st.2
  len : st.1.length + st.2.length = 4
  wid : ∀ r ∈ st.1, r.length = 2
  rt : ∀ r ∈ R, PT r.1 r.2.1 ∧ ((mlt 0 r.1 r.2.1 4 st.2 : Nat) : Int) = r.2.2
  pw : R.Pairwise fun r r' => r.2.1 * r'.1 - r.1 * r'.2.1 ≠ 0
  hd : mlt 0 1 0 4 st.2 = 0 ∨ ∃ r ∈ R, r.1 = 1 ∧ r.2.1 = 0
structure FInJ (st : List (List Int) × List Int) (x y : Int) (s : Nat) (R : List (Int × Int × Int)) : Prop where
  gl : GL st.2
  len : st.1.length + st.2.length = 4
  wid : ∀ r ∈ st.1, r.length = 2
  pt : PT x y
  mu : mlt 0 x y 4 st.2 = s
  rt : ∀ r ∈ R, PT r.1 r.2.1 ∧ ((mlt 0 r.1 r.2.1 4 st.2 : Nat) : Int) = r.2.2 ∧ y * r.1 - x * r.2.1 ≠ 0
  pw : R.Pairwise fun r r' => r.2.1 * r'.1 - r.1 * r'.2.1 ≠ 0
  hd : mlt 0 1 0 4 st.2 = 0 ∨ (x = 1 ∧ y = 0) ∨ ∃ r ∈ R, r.1 = 1 ∧ r.2.1 = 0
theorem FInv.start {st : List (List Int) × List Int} {r : Int × Int × Int} {R : List (Int × Int × Int)} (h : FInv st (r :: R)) : FInJ st r.1 r.2.1 r.2.2.toNat R := by
  obtain ⟨p1, p2⟩ := List.pairwise_cons.1 h.pw
  obtain ⟨q1, q2⟩ := h.rt r List.mem_cons_self
  refine ⟨h.gl, h.len, h.wid, q1, by omega, fun r' hr' => ?_, p2, ?_⟩
  · obtain ⟨u1, u2⟩ := h.rt r' (List.mem_cons_of_mem _ hr')
    exact ⟨u1, u2, p1 r' hr'⟩
  · rcases h.hd with h0 | ⟨r', hr', e⟩
    · exact .inl h0
    · rcases List.mem_cons.1 hr' with rfl | hr'
      · exact .inr (.inl e)
      · exact .inr (.inr ⟨r', hr', e⟩)
theorem FInJ.z {st : List (List Int) × List Int} {x y : Int} {s : Nat} {R : List (Int × Int × Int)} (h : FInJ st x y (s + 1) R) : ev st.2 x y = 0 := by
  have := h.mu
  rw [mlt_e h.gl h.pt] at this
  split at this
  · assumption
  · omega
theorem FInJ.nz {st : List (List Int) × List Int} {x y : Int} {R : List (Int × Int × Int)} (h : FInJ st x y 0 R) : ev st.2 x y ≠ 0 := fun e => by
  have := h.mu
  rw [mlt_e h.gl h.pt, if_pos e] at this
  omega
theorem FInJ.step {st : List (List Int) × List Int} {x y : Int} {s : Nat} {R : List (Int × Int × Int)} (h : FInJ st x y (s + 1) R) : FInJ (st.1 ++ [[x, y]], dvd st.2 x y) x y s R ∧ 2 ≤ st.2.length := by
  have e := h.z
  obtain ⟨M, eM⟩ := ev_mul h.gl h.pt e
  obtain ⟨d, hM⟩ := dvd_mul h.gl h.pt eM
  have hl := mulL_len x y M
  rw [← eM] at hl
  have hM1 := hM.1
  have hm := h.mu
  have h4 := h.gl.2.1
  rw [mlt_e h.gl h.pt, if_pos e, d] at hm
  have hf := mlt_fuel h.pt 3 4 hM (by omega) (by omega)
  have hap : ∀ {x' y' : Int}, PT x' y' → y * x' - x * y' ≠ 0 → mlt 0 x' y' 4 M = mlt 0 x' y' 4 st.2 := fun hp' hne => (mlt_app hp' h.pt hne 4 h.gl eM).symm
  refine ⟨⟨by simpa [d] using hM, ?_, ?_, h.pt, by simp only [d]; omega, fun r hr => ?_, h.pw, ?_⟩, by omega⟩
  · have := h.len; simp only [d, List.length_append, List.length_singleton]; omega
  · intro r hr
    rcases List.mem_append.1 hr with hr | hr
    · exact h.wid r hr
    · simp at hr; subst hr; rfl
  · obtain ⟨u1, u2, u3⟩ := h.rt r hr
    exact ⟨u1, by simp only [d]; rw [hap u1 u3]; exact u2, u3⟩
  · simp only [d]
    by_cases hy : y * 1 - x * 0 ≠ 0
    · rw [hap (.inl ⟨rfl, rfl⟩) hy]; exact h.hd
    · rcases h.pt with q | q
      · exact .inr (.inl q)
      · omega
theorem FInJ.fin {st : List (List Int) × List Int} {x y : Int} {R : List (Int × Int × Int)} (h : FInJ st x y 0 R) : FInv st R := by
  refine ⟨h.gl, h.len, h.wid, fun r hr => ?_, h.pw, ?_⟩
  · obtain ⟨u1, u2, _⟩ := h.rt r hr
    exact ⟨u1, u2⟩
  · rcases h.hd with h0 | ⟨rfl, rfl⟩ | h0
    · exact .inl h0
    · exact .inl h.mu
    · exact .inr h0
/-- At the end the first number is not 0. -/
theorem FInv.head {st : List (List Int) × List Int} (h : FInv st []) : ∃ a L, st.2 = a :: L ∧ a ≠ 0 := by
  have h0 : mlt 0 1 0 4 st.2 = 0 := by
    rcases h.hd with h0 | ⟨r, hr, _⟩
    · exact h0
    · cases hr
  have he : ev st.2 1 0 ≠ 0 := fun e => by
    rw [mlt_e h.gl (.inl ⟨rfl, rfl⟩), if_pos e] at h0
    omega
  rcases h.gl.cases with ⟨a, e⟩ | ⟨a, b, e⟩ | ⟨a, b, c, e⟩ | ⟨a, b, c, d, e⟩ <;> rw [e] at he ⊢
  · rw [ev1] at he; exact ⟨_, _, rfl, he⟩
  · rw [ev2] at he; exact ⟨_, _, rfl, by simpa using he⟩
  · rw [ev3] at he; exact ⟨_, _, rfl, by simpa using he⟩
  · rw [ev4] at he; exact ⟨_, _, rfl, by simpa [vx] using he⟩
theorem fR_inv : ∀ (R : List (Int × Int × Int)) (st : List (List Int) × List Int), FInv st R → FInv (fR R st) [] := by
  intro R
  induction R with
  | nil => intro st h; exact h
  | cons r R ih =>
    intro st h
    rw [fR_cons]
    refine ih _ ?_
    have hs := h.start
    generalize r.2.2.toNat = s at hs ⊢
    generalize r.1 = x at hs ⊢
    generalize r.2.1 = y at hs ⊢
    clear h ih
    induction s generalizing st with
    | zero => exact hs.fin
    | succ s ihs => exact ihs _ hs.step.1

/-- The places: 1, 0 and pairs without a common divisor. -/
theorem rpl_PT {a b c d : Int} (ha : -1000 ≤ a ∧ a ≤ 1000) (hb : -1000 ≤ b ∧ b ≤ 1000) (hc : -1000 ≤ c ∧ c ≤ 1000) (hd : -1000 ≤ d ∧ d ≤ 1000) {q : Int × Int} (h : q ∈ rpl a b c d) : PT q.1 q.2 := by
  obtain ⟨_, h1, h2⟩ := flK_N ha hb hc hd
  rcases mem_rpK h with e | ⟨j, hj, hy, _, hx⟩
  · rw [e]; exact .inl ⟨rfl, rfl⟩
  · obtain ⟨x1, x2, _, x4⟩ := mem_xs hx
    exact .inr ⟨by omega, by omega, by omega, by omega, x4⟩
/-- Two points that are multiples of each other are one. -/
theorem PT_prop {x y s t : Int} (hx : 1 ≤ y) (hg : Int.gcd x y = 1) (ht : 1 ≤ t) (hg' : Int.gcd s t = 1) (h : y * s - x * t = 0) : x = s ∧ y = t := by
  have d1 : y ∣ x * t := ⟨s, by omega⟩
  have d2 : t ∣ s * y := ⟨x, by rw [Int.mul_comm s y, Int.mul_comm t x]; omega⟩
  have e1 := Int.le_of_dvd (by omega) (cop_dvd hg d1)
  have e2 := Int.le_of_dvd (by omega) (cop_dvd hg' d2)
  have e : y = t := by omega
  subst e
  have : y * (s - x) = 0 := by rw [Int.mul_sub, Int.mul_comm y x]; exact h
  have := mul_can hx this
  exact ⟨by omega, rfl⟩
theorem xsK_nodup (L y : Int) (i : Nat) : (xsK L y i).Nodup := by
  unfold xsK List.Nodup
  refine List.Pairwise.filter _ ?_
  rw [List.pairwise_map]
  exact List.nodup_range.imp fun h e => h (by omega)
theorem rpl_pw {a b c d : Int} (ha : -1000 ≤ a ∧ a ≤ 1000) (hb : -1000 ≤ b ∧ b ≤ 1000) (hc : -1000 ≤ c ∧ c ≤ 1000) (hd : -1000 ≤ d ∧ d ≤ 1000) : (rpl a b c d).Pairwise fun q q' => q.2 * q'.1 - q.1 * q'.2 ≠ 0 := by
  obtain ⟨_, h1, h2⟩ := flK_N ha hb hc hd
  unfold rpl rpK
  have hmem : ∀ {j : Nat} {q : Int × Int}, q ∈ rpY (fN a b c d) (lN a b c d) j → q.2 = (j : Int) + 1 ∧ Int.gcd q.1 q.2 = 1 := fun {j q} h => by
    unfold rpY at h
    split at h
    · obtain ⟨x, hx, rfl⟩ := List.mem_map.1 h
      exact ⟨rfl, (mem_xs hx).2.2.2⟩
    · cases h
  refine List.pairwise_cons.2 ⟨fun q hq => ?_, ?_⟩
  · obtain ⟨j, _, hq⟩ := List.mem_flatMap.1 hq
    have := (hmem hq).1
    simp only; omega
  · rw [List.pairwise_flatMap]
    refine ⟨fun j _ => ?_, ?_⟩
    · unfold rpY
      split
      · unfold prY
        rw [List.pairwise_map]
        refine (xsK_nodup _ _ _).imp_of_mem fun {x x'} hx hx' hne e => hne ?_
        exact (PT_prop (by omega) (mem_xs hx).2.2.2 (by omega) (mem_xs hx').2.2.2 e).1
      · exact List.Pairwise.nil
    · refine List.nodup_range.imp fun {j j'} hne q hq q' hq' e => hne ?_
      obtain ⟨y1, g1⟩ := hmem hq
      obtain ⟨y2, g2⟩ := hmem hq'
      have := (PT_prop (by omega) g1 (by omega) g2 e).2
      omega
theorem rrt_pw {a b c d : Int} (ha : -1000 ≤ a ∧ a ≤ 1000) (hb : -1000 ≤ b ∧ b ≤ 1000) (hc : -1000 ≤ c ∧ c ≤ 1000) (hd : -1000 ≤ d ∧ d ≤ 1000) : (rrt a b c d).Pairwise fun r r' => r.2.1 * r'.1 - r.1 * r'.2.1 ≠ 0 := by
  unfold rrt rts
  have hm : ∀ {L : List Int} {q : Int × Int} {r : Int × Int × Int}, r ∈ rt1 0 L q → r.1 = q.1 ∧ r.2.1 = q.2 := fun {L q r} h => by
    unfold rt1 at h
    split at h
    · cases h
    · simp at h; subst h; exact ⟨rfl, rfl⟩
  rw [List.pairwise_flatMap]
  refine ⟨fun q _ => ?_, (rpl_pw ha hb hc hd).imp fun {q q'} h r hr r' hr' => ?_⟩
  · unfold rt1; split <;> simp
  · rw [(hm hr).1, (hm hr).2, (hm hr').1, (hm hr').2]; exact h
/-- The part without the content. -/
def ptl4 (a b c d : Int) : List Int := [a.tdiv (cnt a b c d), b.tdiv (cnt a b c d), c.tdiv (cnt a b c d), d.tdiv (cnt a b c d)]
theorem ptl4_m {a b c d : Int} (hN : mul0 (cnt a b c d) 0 = false) : cnt a b c d ≠ 0 ∧ [a, b, c, d] = (ptl4 a b c d).map (cnt a b c d * ·) := by
  have h0 : cnt a b c d ≠ 0 := fun h => by rw [mul0_0, h] at hN; simp at hN
  obtain ⟨d0, d1, d2, d3⟩ := cnt_dvd.1 (Int.dvd_refl (cnt a b c d))
  refine ⟨h0, ?_⟩
  simp only [ptl4, List.map_cons, List.map_nil, Int.mul_tdiv_cancel' d0, Int.mul_tdiv_cancel' d1, Int.mul_tdiv_cancel' d2, Int.mul_tdiv_cancel' d3]
theorem tdiv_bd {a g : Int} (ha : -1000 ≤ a ∧ a ≤ 1000) : -1000 ≤ a.tdiv g ∧ a.tdiv g ≤ 1000 := by
  have := Int.natAbs_tdiv_le_natAbs a g
  omega
theorem GL_f {a b c d : Int} (ha : -1000 ≤ a ∧ a ≤ 1000) (hb : -1000 ≤ b ∧ b ≤ 1000) (hc : -1000 ≤ c ∧ c ≤ 1000) (hd : -1000 ≤ d ∧ d ≤ 1000) (hN : mul0 (cnt a b c d) 0 = false) : GL [a, b, c, d] ∧ GL (ptl4 a b c d) := by
  obtain ⟨h0, e⟩ := ptl4_m hN
  have hn : ¬ (a = 0 ∧ b = 0 ∧ c = 0 ∧ d = 0) := fun h => h0 (cnt_0.2 h)
  refine ⟨GL.m4 hn ha hb hc hd, GL.m4 (fun ⟨e0, e1, e2, e3⟩ => hn ?_) (tdiv_bd ha) (tdiv_bd hb) (tdiv_bd hc) (tdiv_bd hd)⟩
  simp only [ptl4, e0, e1, e2, e3, List.map_cons, List.map_nil, Int.mul_zero, List.cons.injEq, and_true] at e
  exact ⟨e.1, e.2.1, e.2.2.1, e.2.2.2⟩
/-- At the beginning. -/
theorem FInv_0 {a b c d : Int} (ha : -1000 ≤ a ∧ a ≤ 1000) (hb : -1000 ≤ b ∧ b ≤ 1000) (hc : -1000 ≤ c ∧ c ≤ 1000) (hd : -1000 ≤ d ∧ d ≤ 1000) (hN : mul0 (cnt a b c d) 0 = false) : FInv ([], ptl4 a b c d) (rrt a b c d) := by
  obtain ⟨g1, g2⟩ := GL_f ha hb hc hd hN
  obtain ⟨h0, e⟩ := ptl4_m hN
  have hm : ∀ {x y : Int}, PT x y → mlt 0 x y 4 (ptl4 a b c d) = mlt 0 x y 4 [a, b, c, d] := fun hp => by
    have := mlt_sc hp h0 4 g2 (e ▸ g1)
    rw [← e] at this
    exact this.symm
  refine ⟨g2, rfl, fun r hr => (by cases hr), fun r hr => ?_, rrt_pw ha hb hc hd, ?_⟩
  · unfold rrt rts at hr
    obtain ⟨q, hq, hr⟩ := List.mem_flatMap.1 hr
    have hp := rpl_PT ha hb hc hd hq
    unfold rt1 at hr
    split at hr
    · cases hr
    · simp at hr; subst hr
      exact ⟨hp, by rw [hm hp]⟩
  · by_cases hz : mlt 0 1 0 4 (ptl4 a b c d) = 0
    · exact .inl hz
    · rw [hm (.inl ⟨rfl, rfl⟩)] at hz
      refine .inr ⟨(1, 0, ((mlt 0 1 0 4 [a, b, c, d] : Nat) : Int)), ?_, rfl, rfl⟩
      unfold rrt rts
      refine List.mem_flatMap.2 ⟨(1, 0), by simp [rpl, rpK], ?_⟩
      unfold rt1
      rw [if_neg hz]
      simp
/-- What FactorForm finds. -/
def fac (a b c d : Int) : List (List Int) × List Int := fR (rrt a b c d) ([], ptl4 a b c d)
def fsg (L : List Int) : Int := if L.headD 0 < 0 then -1 else 1
def frs (L : List Int) : List Int := L.map (fsg L * ·)


end Go.Proofs.YtgdbnaabbaimjaaDoor

/- Chapter 5: the model's division by y X - x Y: mathematics. -/
namespace Go.Proofs.YtgdbnaabbaimjaaDoor
open Go.RowKit

def lastD (qs : List Int) : Int := qs.getLast?.getD 0
theorem lastD_app (qs : List Int) (q : Int) : lastD (qs ++ [q]) = q := by simp [lastD]
theorem mulA_app (x y : Int) : ∀ (qs : List Int) (p q : Int), mulA x y p (qs ++ [q]) = (mulA x y p qs).take qs.length ++ [y * q - x * (qs.getLast?.getD p), -(x * q)] := by
  intro qs
  induction qs with
  | nil => intro p q; simp [mulA]
  | cons m qs ih =>
    intro p q
    simp only [List.cons_append, mulA, ih, List.length_cons, List.take_succ_cons]
    congr 3
    cases qs <;> simp [List.getLast?_cons]
theorem mulL_app (x y : Int) (qs : List Int) (q : Int) : mulL x y (qs ++ [q]) = (mulL x y qs).take qs.length ++ [y * q - x * lastD qs, -(x * q)] := mulA_app x y qs 0 q
theorem mulA_end (x y : Int) : ∀ (qs : List Int) (p : Int), mulA x y p qs = (mulA x y p qs).take qs.length ++ [-(x * (qs.getLast?.getD p))] := by
  intro qs
  induction qs with
  | nil => intro p; simp [mulA]
  | cons m qs ih =>
    intro p
    simp only [mulA, List.length_cons, List.take_succ_cons, List.cons_append]
    congr 1
    rw [ih m]
    congr 1
    · rw [← ih m]
    · cases qs <;> simp [List.getLast?_cons]
theorem mulL_end (x y : Int) (qs : List Int) : mulL x y qs = (mulL x y qs).take qs.length ++ [-(x * lastD qs)] := mulA_end x y qs 0
/-- The quotient's first numbers are settled by the product's. -/
theorem mulA_uni {x y : Int} (hy : y ≠ 0) : ∀ (qs M : List Int) (p : Int), qs.length ≤ M.length → (mulA x y p qs).take qs.length = (mulA x y p M).take qs.length → qs = M.take qs.length := by
  intro qs
  induction qs with
  | nil => intro M p _ _; simp
  | cons q qs ih =>
    intro M p hl h
    cases M with
    | nil => simp at hl
    | cons m M =>
      simp only [mulA, List.length_cons, List.take_succ_cons, List.cons.injEq] at h hl ⊢
      obtain ⟨h1, h2⟩ := h
      have e : q = m := Int.eq_of_mul_eq_mul_left hy (by omega)
      subst e
      exact ⟨rfl, ih M q (by omega) h2⟩
/-- The first numbers of the quotient. -/
def Pq (x y : Int) (L qs : List Int) : Prop := qs.length < L.length ∧ L.take qs.length = (mulL x y qs).take qs.length
theorem Pq.nil {x y : Int} {L : List Int} (h : 0 < L.length) : Pq x y L [] := ⟨h, by simp⟩
theorem Pq.step {x y : Int} {L qs : List Int} (h : Pq x y L qs) {q : Int} (hl : qs.length + 1 < L.length) (e : L.getD qs.length 0 = y * q - x * lastD qs) : Pq x y L (qs ++ [q]) := by
  refine ⟨by simp; omega, ?_⟩
  rw [List.length_append, List.length_singleton, take_succ_getD L _ (by omega), h.2, e, mulL_app, List.take_append]
  have hm : ((mulL x y qs).take qs.length).length = qs.length := by simp [mulL_len]
  simp [hm, List.take_take, show min (qs.length + 1) qs.length = qs.length by omega]
theorem Pq.eq {x y : Int} {L qs M : List Int} (h : Pq x y L qs) (hy : y ≠ 0) (e : L = mulL x y M) : qs = M.take qs.length := by
  have hl := mulL_len x y M
  rw [← e] at hl
  refine mulA_uni (x := x) hy qs M 0 (by have := h.1; omega) ?_
  have := h.2
  rw [e] at this
  exact this.symm
theorem Pq.val {x y : Int} {L qs M : List Int} (h : Pq x y L qs) (hy : y ≠ 0) (e : L = mulL x y M) (hl : qs.length < M.length) : L.getD qs.length 0 + x * lastD qs = y * M.getD qs.length 0 := by
  have hq := h.eq hy e
  have h2 : Pq x y L (M.take (qs.length + 1)) := by
    refine ⟨by have := mulL_len x y M; rw [← e] at this; simp; omega, ?_⟩
    have ha : ∀ (k : Nat) (M : List Int) (p : Int), k ≤ M.length → (mulA x y p M).take k = (mulA x y p (M.take k)).take k := by
      intro k
      induction k with
      | zero => intro M p _; simp
      | succ k ih =>
        intro M p hk
        cases M with
        | nil => simp at hk
        | cons m M => simp only [mulA, List.take_succ_cons]; rw [ih M m (by simpa using hk)]
    have := ha (qs.length + 1) M 0 (by omega)
    rw [List.length_take, Nat.min_eq_left (by omega), e]
    exact this
  have h3 : M.take (qs.length + 1) = qs ++ [M.getD qs.length 0] := by
    rw [List.take_succ_eq_append_getElem hl, ← hq]; simp [List.getD, hl]
  rw [h3] at h2
  have h4 := h2.2
  rw [List.length_append, List.length_singleton, take_succ_getD L _ h.1, mulL_app, h.2, List.take_append] at h4
  have hm : ((mulL x y qs).take qs.length).length = qs.length := by simp [mulL_len]
  simp [hm, List.take_take, show min (qs.length + 1) qs.length = qs.length by omega] at h4
  simp only [List.getD]
  omega
/-- Where the division fails the form is no multiple. -/
theorem Pq.no {x y : Int} {L qs : List Int} (h : Pq x y L qs) (hL : GL L) (hp : PT x y) (hy : y ≠ 0) (hl : qs.length + 1 < L.length) (hn : ¬ y ∣ L.getD qs.length 0 + x * lastD qs) : ev L x y ≠ 0 := fun h0 => by
  obtain ⟨M, e⟩ := ev_mul hL hp h0
  have hm := mulL_len x y M
  rw [← e] at hm
  exact hn ⟨_, h.val hy e (by omega)⟩
theorem ev_mulL {L M : List Int} {x y : Int} (hL : GL L) (e : L = mulL x y M) : ev L x y = 0 := by
  have hm := mulL_len x y M
  rw [← e] at hm
  rw [e, ev_app (by have := hL.2.1; omega), Int.mul_comm y x, Int.sub_self, Int.zero_mul]
theorem Pq.fin {x y : Int} {L qs : List Int} (h : Pq x y L qs) (hL : GL L) (hp : PT x y) (hy : y ≠ 0) (hl : qs.length + 1 = L.length) : (L.getD qs.length 0 + x * lastD qs = 0 ↔ ev L x y = 0) ∧ (ev L x y = 0 → dvd L x y = qs) := by
  have hx : L = L.take qs.length ++ [L.getD qs.length 0] := by
    have := List.take_succ_eq_append_getElem (l := L) h.1
    rw [List.take_of_length_le (by omega)] at this
    simpa [List.getD, h.1] using this
  have k1 : L.getD qs.length 0 + x * lastD qs = 0 → L = mulL x y qs := fun h0 => by
    rw [mulL_end, ← h.2]
    rw [show -(x * lastD qs) = L.getD qs.length 0 by omega]
    exact hx
  have k2 : ev L x y = 0 → L = mulL x y qs := fun h0 => by
    obtain ⟨M, e⟩ := ev_mul hL hp h0
    have hm := mulL_len x y M
    rw [← e] at hm
    have hq := h.eq hy e
    rw [List.take_of_length_le (by omega)] at hq
    rw [hq]; exact e
  refine ⟨⟨fun h0 => ev_mulL hL (k1 h0), fun h0 => ?_⟩, fun h0 => (dvd_mul hL hp (k2 h0)).1⟩
  have e := k2 h0
  have e2 := mulL_end x y qs
  rw [← e] at e2
  have e3 := List.append_cancel_left (hx.symm.trans e2)
  simp at e3
  simp only [List.getD]
  omega
/-- The numbers of a quotient are not too great. -/
theorem Pq.bd {x y : Int} {L qs : List Int} (h : Pq x y L qs) (hL : GL L) (hp : PT x y) (hy : y ≠ 0) : -1003003001000 ≤ lastD qs ∧ lastD qs ≤ 1003003001000 := by
  obtain ⟨hx, _⟩ := hp.bd
  have hy1 : 1 ≤ y := by rcases hp with ⟨_, h⟩ | h <;> omega
  obtain ⟨h1, h2⟩ := h
  rcases hL.cases with ⟨a, rfl⟩ | ⟨a, b, rfl⟩ | ⟨a, b, c, rfl⟩ | ⟨a, b, c, d, rfl⟩
  · have : qs = [] := by cases qs; rfl; simp at h1
    subst this; simp [lastD]
  · rcases (show qs.length = 0 ∨ qs.length = 1 by simp at h1; omega) with e | e
    · rw [List.length_eq_zero_iff.1 e]; simp [lastD]
    · obtain ⟨q, rfl⟩ := len_1 e
      obtain ⟨_, ha, _⟩ := hL.b2
      simp [mulL1] at h2
      have := quo_bd (B := 1003003001000) hy1 (z := q) (by omega)
      simpa [lastD] using this
  · obtain ⟨_, ha, hb, _⟩ := hL.b3
    rcases (show qs.length = 0 ∨ qs.length = 1 ∨ qs.length = 2 by simp at h1; omega) with e | e | e
    · rw [List.length_eq_zero_iff.1 e]; simp [lastD]
    · obtain ⟨q, rfl⟩ := len_1 e
      simp [mulL1] at h2
      have := quo_bd (B := 1002001000) hy1 (z := q) (by omega)
      simp [lastD]; omega
    · obtain ⟨q, r, rfl⟩ := len_2 e
      simp [mulL2] at h2
      have q1 := quo_bd (B := 1002001000) hy1 (z := q) (by omega)
      have m1 := mulb hx q1
      have := quo_bd (B := 1003003001000) hy1 (z := r) (by omega)
      simpa [lastD] using this
  · obtain ⟨_, ha, hb, hc, _⟩ := hL.b4
    rcases (show qs.length = 0 ∨ qs.length = 1 ∨ qs.length = 2 ∨ qs.length = 3 by simp at h1; omega) with e | e | e | e
    · rw [List.length_eq_zero_iff.1 e]; simp [lastD]
    · obtain ⟨q, rfl⟩ := len_1 e
      simp [mulL1] at h2
      have := quo_bd (B := 1000) hy1 (z := q) (by omega)
      simp [lastD]; omega
    · obtain ⟨q, r, rfl⟩ := len_2 e
      simp [mulL2] at h2
      have q1 := quo_bd (B := 1000) hy1 (z := q) (by omega)
      have m1 := mulb hx q1
      have := quo_bd (B := 1001000) hy1 (z := r) (by omega)
      simp [lastD]; omega
    · obtain ⟨q, r, s, rfl⟩ := len_3 e
      simp [mulL3] at h2
      have q1 := quo_bd (B := 1000) hy1 (z := q) (by omega)
      have m1 := mulb hx q1
      have q2 := quo_bd (B := 1001000) hy1 (z := r) (by omega)
      have m2 := mulb hx q2
      have := quo_bd (B := 1001001000) hy1 (z := s) (by omega)
      simp [lastD]; omega


end Go.Proofs.YtgdbnaabbaimjaaDoor

/- Chapter 5: quotients of forms of any degree, the program's: rows of the call's own. -/
namespace Go.Proofs.YtgdbnaabbaimjaaDoor
open Go.RowKit

set_option maxRecDepth 100000 in
set_option maxHeartbeats 2000000 in
theorem dividedAt_own (v : Value) (L : List Int) (x y : Int) (n : Nat) (w : World) (h : RdP w v L) (hL : L.length = n + 1) (hn : 1 ≤ n) (hn9 : n ≤ 9) :
    Calls Tryd.prog 83 #[v, .agg #[.int .i64 x, .int .i64 y]] w fun e w' => ∃ v, e = .returned v ∧ w'.ownsRow w.heap.size 2 1 v (dvd L x y).length ((dvd L x y).map (Value.int .i64)) ∧ Below w.heap.size w w' := by
  obtain ⟨b, cap, rfl, hlc, hcm, hb, hc⟩ := h
  have HC := hid hc
  have HL := hid hL
  obtain ⟨i0, hi, hi0, hi1, hi2⟩ := info_parts info_l64
  have HI := hid hi; have HZ0 := hid hi0; have HZ1 := hid hi1; have HZ2 := hid hi2
  clear hc hi hi0 hi1 hi2
  rw [hL] at hlc ⊢
  clear hL
  unfold maxLen at hcm
  have hX := Bx.new w #[.int .i64 x, .int .i64 y] 89
  have U0 := gr_alloc (Below.refl w.heap.size w) (.cells #[.int .i64 x, .int .i64 y] 89)
  have O0 := World.ownsRow_nil (w.alloc (.cells #[.int .i64 x, .int .i64 y] 89)) w.heap.size 2 1
  have hx0 := hX.cell 0
  have hx1 := hX.cell 1
  by_cases hy : y = 0
  · subst hy
    have HE := hid (@ngK_e L n HL.out x)
    generalize dvd L x 0 = D at HE ⊢
    go_enter Tryd.func83, Tryd.ntmps83
    go_upto_region 1 with fail
    have U1 := gr_drewN U0 1
    clear hX
    go_quiet (fail)
    rename_i nq
    have U1 := hid (gr_drewN U0 nq)
    have O1 := World.ownsRow_nil ((w.alloc (.cells #[.int .i64 x, .int .i64 0] 89)).drewN nq) w.heap.size 2 1
    clear U0 O0 hx0 hx1
    have HO1 := hid O1
    clear O1
    go_wp2
    go_loopw [7, 9, 22] (fun s7 _ s22 wr => ∃ k : Nat, k ≤ n ∧ s22 = .int .i64 ((k : Int)) ∧ wr.ownsRow w.heap.size 2 1 s7 k ((ngK L k).map (Value.int .i64)) ∧ Below w.heap.size w wr) (fun _ _ s22 _ => n - (intOf s22).toNat)
    case atStart => exact ⟨0, Nat.zero_le _, rfl, HO1.out, U1.out⟩
    case round =>
      obtain ⟨k, hk, rfl, hO, hU⟩ := hrel
      have HO := hid hO; have HU := hid hU
      have hv := hU.size
      clear hO hU
      by_cases hlt : k < n
      · have hck : wr.cell? ⟨b, 1 + k, none⟩ = some (.int .i64 (L.getD (k + 1) 0)) := (HU.out.cell (p := ⟨b, 1 + k, none⟩) hb).trans (by rw [Nat.add_comm 1 k]; exact HC.out (k + 1) (by rw [HL.out]; omega))
        have HS := hid (ngK_s HL.out hlt)
        have HN := hid (ngK_len HL.out hk)
        generalize L.getD (k + 1) 0 = q at hck HS
        clear HE HO1 U1
        go_wp2_with (at_builtin; refine wpList_append_own _ rfl _ _ 41 rfl w.heap.size 2 i0 (.int .i64 0) 1 8 Tryd.underlying41 HI.out HZ0.out HZ1.out HZ2.out rfl (by decide) _ _ _ rfl (HO.out.alloc _) ⟨wr.heap.size, 0, none⟩ 1 1 [.int .i64 (wrap64 (-q))] rfl rfl ?a1 ?b1 ?c1 ?d1 ?e1 ?_)
        case a1 =>
          intro j u hj
          match j, hj with
          | 0, hj => simp at hj; subst hj; simp [Addr.add, go_sem]
        case b1 => first | (intro u hu; simp at hu; subst hu; rfl) | rfl | simp [Value.oneCell']
        case c1 => unfold maxLen; omega
        case d1 => omega
        case e1 => first | omega | (simp; omega)
        intro y1 W1 O1 hg1 _
        have HO2 := hid (own_app HN.out HS.out O1)
        have HU1 := hid (gr_own (gr_alloc HU.out _) hg1 (fun j hj => (HO.out.lt j hj).1))
        clear O1 hg1
        go_wp2
        go_roundw
        case rel => exact ⟨k + 1, by omega, by go_num, own_len (ngK_len HL.out (by omega)) HO2.out, HU1.out⟩
        case measure => simp [intOf]; omega
      · have e : k = n := by omega
        subst e
        have HO3 := hid (HE.out ▸ HO.out)
        have HN := hid (show D.length = k by rw [← HE.out]; exact ngK_len HL.out (Nat.le_refl _))
        clear HO
        go_wp2
        go_ret
        exact ⟨_, rfl, by rw [HN.out]; exact HO3.out, HU.out⟩
  · have HY := hid hy
    have hy' : (y == 0) = false := by simpa using hy
    have HE := hid (@dsK_e x y L n HL.out hy)
    clear hy
    generalize dvd L x y = D at HE ⊢
    go_enter Tryd.func83, Tryd.ntmps83
    go_upto_region 1 with fail
    clear hX
    go_quiet (fail)
    rename_i nq
    have U1 := hid (gr_drewN U0 nq)
    have O1 := World.ownsRow_nil ((w.alloc (.cells #[.int .i64 x, .int .i64 y] 89)).drewN nq) w.heap.size 2 1
    have HO1 := hid O1
    clear U0 O0 hx0 hx1 O1
    go_wp2
    go_loopw [7, 10, 12, 39] (fun s7 s10 _ s39 wr => ∃ k : Nat, k ≤ n ∧ s39 = .int .i64 ((k : Int)) ∧ s10 = .int .i64 ((dsK x y L k).1) ∧ wr.ownsRow w.heap.size 2 1 s7 k ((dsK x y L k).2.map (Value.int .i64)) ∧ Below w.heap.size w wr) (fun _ _ _ s39 _ => n - (intOf s39).toNat)
    case atStart => exact ⟨0, Nat.zero_le _, rfl, rfl, HO1.out, U1.out⟩
    case round =>
      obtain ⟨k, hk, rfl, rfl, hO, hU⟩ := hrel
      have HO := hid hO; have HU := hid hU
      have hv := hU.size
      clear hO hU
      by_cases hlt : k < n
      · have hck : wr.cell? ⟨b, k, none⟩ = some (.int .i64 (L.getD k 0)) := (HU.out.cell (p := ⟨b, k, none⟩) hb).trans (HC.out k (by rw [HL.out]; omega))
        have HS := hid (@dsK_s x y L k (by rw [HL.out]; omega))
        have HN := hid (@dsK_len x y L k (by rw [HL.out]; omega))
        generalize L.getD k 0 = q at hck HS
        generalize (dsK x y L k).1 = s at HS ⊢
        clear HE HO1 U1
        go_wp2_with (at_builtin; refine wpList_append_own _ rfl _ _ 41 rfl w.heap.size 2 i0 (.int .i64 0) 1 8 Tryd.underlying41 HI.out HZ0.out HZ1.out HZ2.out rfl (by decide) _ _ _ rfl (HO.out.alloc _) ⟨wr.heap.size, 0, none⟩ 1 1 [.int .i64 (wrap64 ((pl q (mu x s)).tdiv y))] rfl rfl ?a2 ?b2 ?c2 ?d2 ?e2 ?_)
        case a2 =>
          intro j u hj
          match j, hj with
          | 0, hj => simp at hj; subst hj; simp [Addr.add, go_sem, pl, mu]
        case b2 => first | (intro u hu; simp at hu; subst hu; rfl) | rfl | simp [Value.oneCell']
        case c2 => unfold maxLen; omega
        case d2 => omega
        case e2 => first | omega | (simp; omega)
        intro y1 W1 O1 hg1 _
        have HO2 := hid (own_app HN.out (congrArg Prod.snd HS.out) O1)
        have HU1 := hid (gr_own (gr_alloc HU.out _) hg1 (fun j hj => (HO.out.lt j hj).1))
        clear O1 hg1
        go_wp2
        go_roundw
        case rel => exact ⟨k + 1, by omega, by go_num, by rw [HS.out]; rfl, own_len (dsK_len (by rw [HL.out]; omega)) HO2.out, HU1.out⟩
        case measure => simp [intOf]; omega
      · have e : k = n := by omega
        subst e
        have HO3 := hid (HE.out ▸ HO.out)
        have HN := hid (show D.length = k by rw [← HE.out]; exact dsK_len (by rw [HL.out]; omega))
        clear HO
        go_wp2
        go_ret
        exact ⟨_, rfl, by rw [HN.out]; exact HO3.out, HU.out⟩


end Go.Proofs.YtgdbnaabbaimjaaDoor

/- Chapter 5: what stands while FactorForm finds its factors: a box of four values, rows in the making, the rest. -/
namespace Go.Proofs.YtgdbnaabbaimjaaDoor
open Go.RowKit

theorem Bx.set {w : World} {k : Nat} {xs : Array Value} {T : TypeId} (h : Bx w k xs T) (i : Nat) (v : Value) : Bx (w.setCell ⟨k, i, none⟩ v) k (xs.setIfInBounds i v) T := by
  obtain ⟨hlt, hk⟩ := Array.getElem?_eq_some_iff.1 h
  show (w.heap.modify k _)[k]? = _
  rw [Array.getElem?_eq_getElem (by rw [Array.size_modify]; exact hlt), Array.getElem_modify_self, hk]
  simp
theorem Bx.far {w : World} {k j : Nat} {xs : Array Value} {T : TypeId} (h : Bx w k xs T) (hne : k ≠ j) (i : Nat) (v : Value) : Bx (w.setCell ⟨j, i, none⟩ v) k xs T :=
  (Below.heap_setCell _ _ _ _ hne).trans h
theorem Bx.ne {w : World} {k j : Nat} {xs ys : Array Value} {T t : TypeId} (h : Bx w k xs T) (h' : Bx w j ys t) (hT : T ≠ t) : k ≠ j := fun e => by
  subst e
  have := h.symm.trans h'
  simp at this
  exact hT this.2
theorem grown_set (w : World) (k i : Nat) (v : Value) : w.grownBy (w.setCell ⟨k, i, none⟩ v) (some k) :=
  ⟨rfl, rfl, rfl, by rw [World.size_setCell]; exact Nat.le_refl _, fun j _ hj => Below.heap_setCell _ _ _ _ (fun e => hj (by rw [e]))⟩
theorem Bx.two {w W : World} {k : Nat} {xs : Array Value} {T t : TypeId} (h : Bx w k xs T) {B s n : Nat} {v : Value} {ys : List Value} (h' : w.ownsRow B t s v n ys) (hT : T ≠ t) {o o' : Obj} (hg : ((w.alloc o).alloc o').grownBy W v.ownBlock) : Bx W k xs T :=
  ((h.alloc o).alloc o').grown hg (((h.alloc o).alloc o').own ((h'.alloc o).alloc o') hT)
/-- Block b holds a list, beside what else lies there. -/
def RB (w : World) (b : Nat) (L : List Int) : Prop := ∃ cur T, Bx w b cur T ∧ (T = 2 ∨ T = 23) ∧ ∀ i, i < L.length → cur[i]? = some (.int .i64 (L.getD i 0))
theorem RB.next {w w' : World} {b : Nat} {L : List Int} (h : RB w b L) (hb : Below w.heap.size w w') : RB w' b L := by
  obtain ⟨cur, T, h1, h2, h3⟩ := h
  exact ⟨cur, T, h1.next hb, h2, h3⟩
theorem RB.lt {w : World} {b : Nat} {L : List Int} (h : RB w b L) : b < w.heap.size := by
  obtain ⟨cur, T, h1, _⟩ := h
  exact h1.lt
theorem RB.cl {w : World} {b : Nat} {L : List Int} (h : RB w b L) : Cl w b L.length (fun i => L.getD i 0) := by
  obtain ⟨cur, T, h1, _, h3⟩ := h
  exact ⟨h1.lt, fun i hi => ⟨(h1.cell i).trans (h3 i hi), h1.frozen i⟩⟩
theorem RB.rdP {w : World} {b cap : Nat} {L : List Int} (h : RB w b L) (h1 : L.length ≤ cap) (h2 : cap ≤ maxLen) : RdP w (.slice (some ⟨b, 0, none⟩) L.length cap) L :=
  ⟨b, cap, rfl, h1, h2, h.lt, fun i hi => (h.cl.2 i hi).1⟩
theorem RB.arr {w : World} {b : Nat} {a0 a1 a2 a3 : Int} (h : Bx w b #[.int .i64 a0, .int .i64 a1, .int .i64 a2, .int .i64 a3] 23) : RB w b [a0, a1, a2, a3] := by
  refine ⟨_, _, h, .inr rfl, fun i hi => ?_⟩
  match i, hi with
  | 0, _ => rfl
  | 1, _ => rfl
  | 2, _ => rfl
  | 3, _ => rfl
theorem RB.far {w : World} {b k : Nat} {L : List Int} (h : RB w b L) {xs : Array Value} {t : TypeId} (hk : Bx w k xs t) (h1 : 2 ≠ t) (h2 : 23 ≠ t) (i : Nat) (v : Value) : RB (w.setCell ⟨k, i, none⟩ v) b L := by
  obtain ⟨cur, T, g1, g2, g3⟩ := h
  refine ⟨cur, T, g1.far (g1.ne hk ?_) i v, g2, g3⟩
  rcases g2 with rfl | rfl
  · exact h1
  · exact h2
theorem RB.own {w : World} {B : Nat} {v : Value} {L : List Int} (h : w.ownsRow B 2 1 v L.length (L.map (Value.int .i64))) (hL : L ≠ []) : ∃ b cap, v = .slice (some ⟨b, 0, none⟩) L.length cap ∧ RB w b L ∧ B ≤ b ∧ L.length ≤ cap ∧ cap ≤ maxLen := by
  obtain ⟨ha, hb⟩ := h
  rcases hb with ⟨rfl, h0⟩ | ⟨g, cap, cur, rfl, hB, hg, h1⟩
  · exact absurd (List.length_eq_zero_iff.1 h0) hL
  · refine ⟨g, cap, rfl, ⟨cur, _, hg, .inl rfl, fun i hi => ?_⟩, hB, h1.1, h1.2.1⟩
    have e := congrArg (fun M => M[i]?) h1.2.2.2
    rw [Nat.mul_one] at e
    simp only [List.getElem?_take, hi, if_true, List.getElem?_map] at e
    rw [← Array.getElem?_toList, e]
    simp [List.getD, hi]
/-- The state: the box of the factors, the rows, the rest, the roots. -/
structure Fst (B : Nat) (w : World) (k z : Nat) (n : Int) (vr : Value) (b cap : Nat) (Rs : List (List Int)) (T : List Nat) (L : List Int) (vp : Value) (RR : List (Int × Int × Int)) : Prop where
  bx : Bx w k #[.int .i64 1, .int .i64 n, vr, .slice (some ⟨b, 0, none⟩) L.length cap] 71
  rows : Rwb B w vr 2 Rs T
  rest : RB w b L
  cap1 : L.length ≤ cap
  cap2 : cap ≤ maxLen
  lo : B ≤ b
  sep : ∀ t ∈ T, t ≠ b
  res : Bx w z #[.int .i64 0, .int .i64 0, .slice none 0 0, .slice none 0 0] 71
  zk : z ≠ k
  roots : w.ownsRow B 91 3 vp RR.length (RR.flatMap tr3)
theorem Fst.next {B : Nat} {w w' : World} {k z : Nat} {n : Int} {vr : Value} {b cap : Nat} {Rs : List (List Int)} {T : List Nat} {L : List Int} {vp : Value} {RR : List (Int × Int × Int)} (h : Fst B w k z n vr b cap Rs T L vp RR) (hb : Below w.heap.size w w') : Fst B w' k z n vr b cap Rs T L vp RR :=
  ⟨h.bx.next hb, h.rows.next hb, h.rest.next hb, h.cap1, h.cap2, h.lo, h.sep, h.res.next hb, h.zk, owns_next h.roots hb⟩
theorem Rwb.far {B : Nat} {w : World} {v : Value} {s : Nat} {R : List (List Int)} {T : List Nat} (h : Rwb B w v s R T) {k : Nat} {xs : Array Value} {t : TypeId} (hk : Bx w k xs t) (h1 : 2 ≠ t) (h2 : t ≠ 41) (i : Nat) (u : Value) : Rwb B (w.setCell ⟨k, i, none⟩ u) v s R T :=
  ⟨h.own.kept (grown_set w k i u) (by
    cases hv : v.ownBlock with
    | none => exact .inl rfl
    | some g => exact .inr (fun e => hk.own h.own h2 g hv (by simpa using e))), h.len, fun j hj => (h.row j hj).far ((h.row j hj).ne hk h1) i u, fun x hx => ⟨(h.bas x hx).1, by rw [World.size_setCell]; exact (h.bas x hx).2⟩, h.srt, h.wid⟩
theorem owns_far {w : World} {B : Nat} {t' : TypeId} {s : Nat} {v : Value} {n : Nat} {ys : List Value} (h : w.ownsRow B t' s v n ys) {k : Nat} {xs : Array Value} {t : TypeId} (hk : Bx w k xs t) (h2 : t ≠ t') (i : Nat) (u : Value) : (w.setCell ⟨k, i, none⟩ u).ownsRow B t' s v n ys :=
  h.kept (grown_set w k i u) (by
    cases hv : v.ownBlock with
    | none => exact .inl rfl
    | some g => exact .inr (fun e => hk.own h h2 g hv (by simpa using e)))
theorem Fst.setRest {B : Nat} {w w' : World} {k z : Nat} {n : Int} {vr : Value} {b cap : Nat} {Rs : List (List Int)} {T : List Nat} {L : List Int} {vp : Value} {RR : List (Int × Int × Int)} (h : Fst B w k z n vr b cap Rs T L vp RR) (hB : B ≤ w.heap.size) (hb : Below w.heap.size w w') {v : Value} {L' : List Int}
    (hO : w'.ownsRow w.heap.size 2 1 v L'.length (L'.map (Value.int .i64))) (hL' : L' ≠ []) : ∃ b' cap', v = .slice (some ⟨b', 0, none⟩) L'.length cap' ∧ Fst B (w'.setCell ⟨k, 3, none⟩ v) k z n vr b' cap' Rs T L' vp RR := by
  obtain ⟨b', cap', rfl, r1, r2, r3, r4⟩ := RB.own hO hL'
  have h' := h.next hb
  have hk := h'.bx
  refine ⟨b', cap', rfl, ?_, h'.rows.far hk (by decide) (by decide) _ _, r1.far hk (by decide) (by decide) _ _, r3, r4, by omega, fun t ht => ?_, h'.res.far h.zk _ _, h.zk, owns_far h'.roots hk (by decide) _ _⟩
  · have := hk.set 3 (.slice (some ⟨b', 0, none⟩) L'.length cap')
    simpa using this
  · have := (h.rows.bas t ht).2
    omega
theorem Fst.app {B : Nat} {w W : World} {k z : Nat} {n : Int} {vr : Value} {b cap : Nat} {Rs : List (List Int)} {T : List Nat} {L : List Int} {vp : Value} {RR : List (Int × Int × Int)} (h : Fst B w k z n vr b cap Rs T L vp RR) (hB : B ≤ w.heap.size) {x y : Int} {o : Obj} {v : Value}
    (hg : ((w.alloc (.cells (cI [x, y]) 2)).alloc o).grownBy W vr.ownBlock) (hO : W.ownsRow B 41 1 v (Rs.length + 1) ((T.map fun t => Value.slice (some ⟨t, 0, none⟩) 2 2) ++ [.slice (some ⟨w.heap.size, 0, none⟩) 2 2])) :
    Bx W k #[.int .i64 1, .int .i64 n, vr, .slice (some ⟨b, 0, none⟩) L.length cap] 71 ∧ Fst B (W.setCell ⟨k, 2, none⟩ v) k z n v b cap (Rs ++ [[x, y]]) (T ++ [w.heap.size]) L vp RR := by
  have hr := h.rows.app (r := [x, y]) rfl hB hg hO
  have ho : ((w.alloc (.cells (cI [x, y]) 2)).alloc o).ownsRow B 41 1 vr Rs.length (T.map fun t => Value.slice (some ⟨t, 0, none⟩) 2 2) := (h.rows.own.alloc _).alloc _
  have hk : Bx W k #[.int .i64 1, .int .i64 n, vr, .slice (some ⟨b, 0, none⟩) L.length cap] 71 := ((h.bx.alloc _).alloc o).grown hg (((h.bx.alloc _).alloc o).own ho (by decide))
  have hrest : RB W b L := by
    obtain ⟨cur, t, g1, g2, g3⟩ := h.rest
    refine ⟨cur, t, ((g1.alloc _).alloc o).grown hg (((g1.alloc _).alloc o).own ho ?_), g2, g3⟩
    rcases g2 with rfl | rfl <;> decide
  have hro : W.ownsRow B 91 3 vp RR.length (RR.flatMap tr3) := owns_keep2 h.roots h.rows.own (by decide) hg
  have hres : Bx W z #[.int .i64 0, .int .i64 0, .slice none 0 0, .slice none 0 0] 71 := ((h.res.alloc _).alloc o).grown hg (((h.res.alloc _).alloc o).own ho (by decide))
  refine ⟨hk, ?_, hr.far hk (by decide) (by decide) _ _, hrest.far hk (by decide) (by decide) _ _, h.cap1, h.cap2, h.lo, fun t ht => ?_, hres.far h.zk _ _, h.zk, owns_far hro hk (by decide) _ _⟩
  · have := hk.set 2 v
    simpa using this
  · rcases List.mem_append.1 ht with ht | ht
    · exact h.sep t ht
    · simp at ht; subst ht
      have := h.rest.lt; omega


end Go.Proofs.YtgdbnaabbaimjaaDoor
