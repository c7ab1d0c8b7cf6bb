/- Chapter 3: ResultantOf of the program. -/
import Derived.Test.YtigbaelbeaobpaaRsl
namespace Go.Proofs.Ytigbaelbeaobpaa
open Go.RowKit

/-- The code of a resultant. -/
def rsc (a b c d e f g h : Int) : Int := if isF a b c d && isF e f g h then (if isR a b c d && isR e f g h then 0 else 2) else 1
theorem syl_bd {a b c d e f g h : Int} (h1 : isR a b c d = true) (h2 : isR e f g h = true) (i j : Nat) : -1000 ≤ sylR a b c d e f g h i j ∧ sylR a b c d e f g h i j ≤ 1000 := by
  have := isR_t h1
  have := isR_t h2
  unfold sylR
  split <;> omega

set_option maxRecDepth 100000 in
set_option maxHeartbeats 2000000 in
theorem iResultantOf_any (a b c d e f g h : Int) (w : World) :
    Calls Try.prog 19 #[.agg #[.int .i64 a, .int .i64 b, .int .i64 c, .int .i64 d], .agg #[.int .i64 e, .int .i64 f, .int .i64 g, .int .i64 h]] w fun e' w' => e' = .returned (.tuple #[.int .i64 (if0 (rsc a b c d e f g h) (wrap64 (rsl a b c d e f g h))), .int .i64 (rsc a b c d e f g h)]) ∧ Below w.heap.size w w' := by
  have hr := fun W => iRows_any a b c d e f g h W
  have hd : isR a b c d = true → isR e f g h = true → ∀ rv W, Rows6 W rv (sylR a b c d e f g h) → Calls Try.prog 57 #[rv] W fun e' w' => e' = .returned (.int .i64 (wrap64 (rsl a b c d e f g h))) ∧ Below W.heap.size W w' := fun h1 h2 rv W hR => by
    have := iDet6_any (sylR a b c d e f g h) rv W hR (fun i j => by have := syl_bd h1 h2 i j; omega)
    rw [DS_syl] at this
    exact this
  have k0 : isF a b c d = true → isF e f g h = true → isR a b c d = true → isR e f g h = true → rsc a b c d e f g h = 0 := fun h1 h2 h3 h4 => by simp [rsc, h1, h2, h3, h4]
  have k1 : isF a b c d = true → isF e f g h = true → (isR a b c d && isR e f g h) = false → rsc a b c d e f g h = 2 := fun h1 h2 h3 => by simp [rsc, h1, h2, h3]
  have k2 : (isF a b c d && isF e f g h) = false → rsc a b c d e f g h = 1 := fun h1 => by simp [rsc, h1]
  generalize rsc a b c d e f g h = k at k0 k1 k2 ⊢
  generalize wrap64 (rsl a b c d e f g h) = x at hd ⊢
  generalize sylR a b c d e f g h = M at hr hd
  have HR := hid hr; have HD := hid hd; have K0 := hid k0; have K1 := hid k1; have K2 := hid k2
  clear hr hd k0 k1 k2
  go_enter Try.func19, Try.ntmps19
  go_wp2_with fail
  refine (iIsForm_any a b c d _).mono ?_
  rintro e' w1 ⟨rfl, hb1⟩
  have A1 := ((Arr.new w a b c d 25).alloc (.cells #[.int .i64 e, .int .i64 f, .int .i64 g, .int .i64 h] 25)).next hb1
  have B1 := (Arr.new (w.alloc (.cells #[.int .i64 a, .int .i64 b, .int .i64 c, .int .i64 d] 25)) e f g h 25).next hb1
  simp only [World.size_alloc] at A1 B1
  by_cases hm : isF a b c d = true
  · obtain ⟨_, b0, b1, b2, b3, _⟩ := id B1
    go_wp2_with fail
    refine (iIsForm_any e f g h _).mono ?_
    rintro e' w2 ⟨rfl, hb2⟩
    have A2 := A1.next hb2
    have B2 := B1.next hb2
    clear b0 b1 b2 b3
    by_cases hn : isF e f g h = true
    · go_wp2_with fail
      refine (allWithin100_any _ a b c d _ A2).mono ?_
      rintro e' w3 ⟨rfl, rfl⟩
      by_cases hp : isR a b c d = true
      · go_wp2_with fail
        refine (allWithin100_any _ e f g h _ B2).mono ?_
        rintro e' w3 ⟨rfl, rfl⟩
        by_cases hq : isR e f g h = true
        · obtain ⟨_, a0, a1, a2, a3, _⟩ := id A2
          obtain ⟨_, b0, b1, b2, b3, _⟩ := id B2
          have kk := K0.out hm hn hp hq
          subst kk
          go_wp2_with fail
          refine (HR.out _).mono ?_
          rintro e' w4 ⟨rv, rfl, hrows, hb4⟩
          go_wp2_with fail
          refine (HD.out hp hq rv _ hrows).mono ?_
          rintro e' w5 ⟨rfl, hb5⟩
          go_wp2
          go_ret2
          exact ⟨ret_tup2 (by simp [if0]) rfl, by (repeat' (first | with_reducible exact Below.refl _ _ | with_reducible assumption | with_reducible refine gr_alloc ?_ _ | with_reducible refine gr_drew ?_ | with_reducible refine gr_drewN ?_ _ | with_reducible refine gr_trans ?_ (by assumption) | with_reducible refine gr_set ?_ ?_ _ | (simp; done) | omega | (simp; omega)))⟩
        · have hq' : isR e f g h = false := by simpa using hq
          clear hq
          have kk := K1.out hm hn (by simp [hq'])
          subst kk
          go_wp2
          go_ret2
          exact ⟨ret_tup2 (by simp [if0]) rfl, by (repeat' (first | with_reducible exact Below.refl _ _ | with_reducible assumption | with_reducible refine gr_alloc ?_ _ | with_reducible refine gr_drew ?_ | with_reducible refine gr_drewN ?_ _ | with_reducible refine gr_trans ?_ (by assumption) | with_reducible refine gr_set ?_ ?_ _ | (simp; done) | omega | (simp; omega)))⟩
      · have hp' : isR a b c d = false := by simpa using hp
        clear hp
        have kk := K1.out hm hn (by simp [hp'])
        subst kk
        go_wp2
        go_ret2
        exact ⟨ret_tup2 (by simp [if0]) rfl, by (repeat' (first | with_reducible exact Below.refl _ _ | with_reducible assumption | with_reducible refine gr_alloc ?_ _ | with_reducible refine gr_drew ?_ | with_reducible refine gr_drewN ?_ _ | with_reducible refine gr_trans ?_ (by assumption) | with_reducible refine gr_set ?_ ?_ _ | (simp; done) | omega | (simp; omega)))⟩
    · have hn' : isF e f g h = false := by simpa using hn
      clear hn
      have kk := K2.out (by simp [hn'])
      subst kk
      go_wp2
      go_ret2
      exact ⟨ret_tup2 (by simp [if0]) rfl, by (repeat' (first | with_reducible exact Below.refl _ _ | with_reducible assumption | with_reducible refine gr_alloc ?_ _ | with_reducible refine gr_drew ?_ | with_reducible refine gr_drewN ?_ _ | with_reducible refine gr_trans ?_ (by assumption) | with_reducible refine gr_set ?_ ?_ _ | (simp; done) | omega | (simp; omega)))⟩
  · have hm' : isF a b c d = false := by simpa using hm
    clear hm
    have kk := K2.out (by simp [hm'])
    subst kk
    go_wp2
    go_ret2
    exact ⟨ret_tup2 (by simp [if0]) rfl, by (repeat' (first | with_reducible exact Below.refl _ _ | with_reducible assumption | with_reducible refine gr_alloc ?_ _ | with_reducible refine gr_drew ?_ | with_reducible refine gr_drewN ?_ _ | with_reducible refine gr_trans ?_ (by assumption) | with_reducible refine gr_set ?_ ?_ _ | (simp; done) | omega | (simp; omega)))⟩

end Go.Proofs.Ytigbaelbeaobpaa
