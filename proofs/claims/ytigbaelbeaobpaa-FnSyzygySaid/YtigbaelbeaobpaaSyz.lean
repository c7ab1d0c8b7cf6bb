/- Chapter 3: the syzygy. -/
import Derived.Test.YtigbaelbeaobpaaCov
namespace Go.Proofs.Ytigbaelbeaobpaa
open Go.RowKit

/-- Block k of w holds six numbers. -/
structure Arr6 (w : World) (k : Nat) (a b c d x y : Int) : Prop where
  lt : k < w.heap.size
  c0 : w.cell? ⟨k, 0, none⟩ = some (.int .i64 a)
  c1 : w.cell? ⟨k, 1, none⟩ = some (.int .i64 b)
  c2 : w.cell? ⟨k, 2, none⟩ = some (.int .i64 c)
  c3 : w.cell? ⟨k, 3, none⟩ = some (.int .i64 d)
  c4 : w.cell? ⟨k, 4, none⟩ = some (.int .i64 x)
  c5 : w.cell? ⟨k, 5, none⟩ = some (.int .i64 y)
theorem Arr6.next {w w' : World} {k : Nat} {a b c d x y : Int} (h : Arr6 w k a b c d x y) (hb : Below w.heap.size w w') : Arr6 w' k a b c d x y :=
  ⟨Nat.lt_of_lt_of_le h.lt hb.size, (hb.cell (p := ⟨k, 0, none⟩) h.lt).trans h.c0, (hb.cell (p := ⟨k, 1, none⟩) h.lt).trans h.c1, (hb.cell (p := ⟨k, 2, none⟩) h.lt).trans h.c2, (hb.cell (p := ⟨k, 3, none⟩) h.lt).trans h.c3, (hb.cell (p := ⟨k, 4, none⟩) h.lt).trans h.c4, (hb.cell (p := ⟨k, 5, none⟩) h.lt).trans h.c5⟩
theorem Arr6.new (w : World) (a b c d x y : Int) (t : TypeId) : Arr6 (w.alloc (.cells #[.int .i64 a, .int .i64 b, .int .i64 c, .int .i64 d, .int .i64 x, .int .i64 y] t)) w.heap.size a b c d x y := by
  constructor <;> simp [go_sem]
theorem Arr6.alloc {w : World} {k : Nat} {a b c d x y : Int} (h : Arr6 w k a b c d x y) (o : Obj) : Arr6 (w.alloc o) k a b c d x y := h.next ((Below.refl _ w).alloc (Nat.le_refl _) o)
theorem Arr6.drew {w : World} {k : Nat} {a b c d x y : Int} (h : Arr6 w k a b c d x y) : Arr6 w.drew k a b c d x y := h.next ((Below.refl _ w).drew)
theorem Arr6.drewN {w : World} {k : Nat} {a b c d x y : Int} (h : Arr6 w k a b c d x y) (n : Nat) : Arr6 (w.drewN n) k a b c d x y := h.next (gr_drewN (Below.refl _ w) n)
theorem cells6 {W : World} {i : Nat} {a b c d x y : Int} (K : Arr6 W i a b c d x y) : W.cell? ⟨i, 0, none⟩ = some (.int .i64 a) ∧ W.cell? ⟨i, 1, none⟩ = some (.int .i64 b) ∧ W.cell? ⟨i, 2, none⟩ = some (.int .i64 c) ∧ W.cell? ⟨i, 3, none⟩ = some (.int .i64 d) ∧ W.cell? ⟨i, 4, none⟩ = some (.int .i64 x) ∧ W.cell? ⟨i, 5, none⟩ = some (.int .i64 y) := ⟨K.c0, K.c1, K.c2, K.c3, K.c4, K.c5⟩

/-- The three numbers of the syzygy, out of the values. -/
def z1 (v : Int) : Int := mu (mu (mu 4 v) v) v
def z2 (v : Int) : Int := mu v v
def z3 (D v : Int) : Int := mu (mu (mu 27 D) v) v
def hv (a b c d x y : Int) : Int := qv (h1 a b c) (h2 a b c d) (h3 b c d) x y
def cv (a b c d x y : Int) : Int := vl (cc1 a b c d) (cc2 a b c d) (cc3 a b c d) (cc4 a b c d) x y
def q3 (x y z : Int) (i : Nat) : Int := if i = 0 then x else if i = 1 then y else z
def isS (a b c d : Int) : Bool := rng (-30) 30 a && rng (-30) 30 b && rng (-30) 30 c && rng (-30) 30 d
theorem isS_t {a b c d : Int} (h : isS a b c d = true) : (-30 ≤ a ∧ a ≤ 30) ∧ (-30 ≤ b ∧ b ≤ 30) ∧ (-30 ≤ c ∧ c ≤ 30) ∧ (-30 ≤ d ∧ d ≤ 30) := by
  simp only [isS, Bool.and_eq_true] at h
  exact ⟨rng_t h.1.1.1, rng_t h.1.1.2, rng_t h.1.2, rng_t h.2⟩
theorem isS_eq {a b c d : Int} {r : Bool} (h : r = true ↔ (-30 ≤ a ∧ a ≤ 30) ∧ (-30 ≤ b ∧ b ≤ 30) ∧ (-30 ≤ c ∧ c ≤ 30) ∧ (-30 ≤ d ∧ d ≤ 30)) : r = isS a b c d := by
  rw [Bool.eq_iff_iff, h]
  exact ⟨fun ⟨p, q, r, s⟩ => by simp [isS, rng_mk p.1 p.2, rng_mk q.1 q.2, rng_mk r.1 r.2, rng_mk s.1 s.2], isS_t⟩
/-- The code of a form and a place for the syzygy. -/
def szc (a b c d x y : Int) : Int := if isF a b c d then (if rng (-3) 3 x && rng (-3) 3 y && isS a b c d then 0 else 2) else 1

set_option maxHeartbeats 400000 in
theorem allWithin30_any (k : Nat) (a b c d : Int) (w : World) (hA : Arr w k a b c d) :
    Calls Try.prog 34 #[.slice (some ⟨k, 0, none⟩) 4 4, .int .i64 30] w fun e w' => e = .returned (.bool (isS a b c d)) ∧ w = w' := by
  obtain ⟨lt, c0, c1, c2, c3, _⟩ := hA
  go_enter Try.func34, Try.ntmps34
  go_wp2
  go_rounds 5
  all_goals (go_ret; exact ⟨ret_bool (by apply isS_eq; go_light; simp at *; try omega), rfl⟩)

set_option maxRecDepth 100000 in
set_option maxHeartbeats 2000000 in
theorem iHt_any (a b c d x y : Int) (w : World) :
    Calls Try.prog 35 #[.agg #[.int .i64 a, .int .i64 b, .int .i64 c, .int .i64 d, .int .i64 x, .int .i64 y]] w fun e w' => e = .returned (.int .i64 (z1 (hv a b c d x y))) ∧ Below w.heap.size w w' := by
  have hc := fun W => iHessForm_any a b c d W
  unfold hv
  generalize h1 a b c = P at hc ⊢
  generalize h2 a b c d = Q at hc ⊢
  generalize h3 b c d = R at hc ⊢
  have hd := fun W => iQv_any P Q R x y W
  generalize qv P Q R x y = v at hd ⊢
  have HC := hid hc
  have HD := hid hd
  clear hc hd
  have A0 := Arr6.new w a b c d x y 62
  have U0 := gr_alloc (Below.refl w.heap.size w) (.cells #[.int .i64 a, .int .i64 b, .int .i64 c, .int .i64 d, .int .i64 x, .int .i64 y] 62)
  go_enter Try.func35, Try.ntmps35
  go_upto_region 1 with fail
  generalize w.alloc (.cells #[.int .i64 a, .int .i64 b, .int .i64 c, .int .i64 d, .int .i64 x, .int .i64 y] 62) = W0 at A0 U0 ⊢
  obtain ⟨_, a0, a1, a2, a3, a4, a5⟩ := id A0
  go_region_held3 (fun W => W.cell? ⟨w.heap.size, 0, none⟩ = some (.int .i64 a) ∧ W.cell? ⟨w.heap.size, 1, none⟩ = some (.int .i64 b) ∧ W.cell? ⟨w.heap.size, 2, none⟩ = some (.int .i64 c) ∧ W.cell? ⟨w.heap.size, 3, none⟩ = some (.int .i64 d) ∧ W.cell? ⟨w.heap.size, 4, none⟩ = some (.int .i64 x) ∧ W.cell? ⟨w.heap.size, 5, none⟩ = some (.int .i64 y)) (refine cells6 ?_ <;> (repeat (first | with_reducible assumption | with_reducible refine Arr6.drew ?_ | with_reducible refine Arr6.drewN ?_ _ | with_reducible refine Arr6.alloc ?_ _ | with_reducible refine Arr6.next ?_ (by assumption)))) (first | (go_at_call 53; refine (HC.out _).mono ?_; rintro e w1 ⟨rfl, hb1⟩) | (go_at_call 63; refine (HD.out _).mono ?_; rintro e w2 ⟨rfl, hb2⟩))
  all_goals go_wp2
  all_goals (go_ret; exact ⟨rfl, by (repeat' (first | with_reducible exact Below.refl _ _ | with_reducible assumption | with_reducible refine gr_alloc ?_ _ | with_reducible refine gr_drew ?_ | with_reducible refine gr_drewN ?_ _ | with_reducible refine gr_trans ?_ (by assumption) | with_reducible refine gr_set ?_ ?_ _ | (simp; done) | omega | (simp; omega)))⟩)

set_option maxRecDepth 100000 in
set_option maxHeartbeats 2000000 in
theorem iCt_any (a b c d x y : Int) (w : World) :
    Calls Try.prog 36 #[.agg #[.int .i64 a, .int .i64 b, .int .i64 c, .int .i64 d, .int .i64 x, .int .i64 y]] w fun e w' => e = .returned (.int .i64 (z2 (cv a b c d x y))) ∧ Below w.heap.size w w' := by
  have hc := fun W => iCovF_any a b c d W
  unfold cv
  generalize cc1 a b c d = P at hc ⊢
  generalize cc2 a b c d = Q at hc ⊢
  generalize cc3 a b c d = R at hc ⊢
  generalize cc4 a b c d = S at hc ⊢
  have hd := fun W => iFormValue_any P Q R S x y W
  generalize vl P Q R S x y = v at hd ⊢
  have HC := hid hc
  have HD := hid hd
  clear hc hd
  have A0 := Arr6.new w a b c d x y 62
  have U0 := gr_alloc (Below.refl w.heap.size w) (.cells #[.int .i64 a, .int .i64 b, .int .i64 c, .int .i64 d, .int .i64 x, .int .i64 y] 62)
  go_enter Try.func36, Try.ntmps36
  go_upto_region 1 with fail
  generalize w.alloc (.cells #[.int .i64 a, .int .i64 b, .int .i64 c, .int .i64 d, .int .i64 x, .int .i64 y] 62) = W0 at A0 U0 ⊢
  obtain ⟨_, a0, a1, a2, a3, a4, a5⟩ := id A0
  go_region_held3 (fun W => W.cell? ⟨w.heap.size, 0, none⟩ = some (.int .i64 a) ∧ W.cell? ⟨w.heap.size, 1, none⟩ = some (.int .i64 b) ∧ W.cell? ⟨w.heap.size, 2, none⟩ = some (.int .i64 c) ∧ W.cell? ⟨w.heap.size, 3, none⟩ = some (.int .i64 d) ∧ W.cell? ⟨w.heap.size, 4, none⟩ = some (.int .i64 x) ∧ W.cell? ⟨w.heap.size, 5, none⟩ = some (.int .i64 y)) (refine cells6 ?_ <;> (repeat (first | with_reducible assumption | with_reducible refine Arr6.drew ?_ | with_reducible refine Arr6.drewN ?_ _ | with_reducible refine Arr6.alloc ?_ _ | with_reducible refine Arr6.next ?_ (by assumption)))) (first | (go_at_call 47; refine (HC.out _).mono ?_; rintro e w1 ⟨rfl, hb1⟩) | (go_at_call 46; refine (HD.out _).mono ?_; rintro e w2 ⟨rfl, hb2⟩))
  all_goals go_wp2
  all_goals (go_ret; exact ⟨rfl, by (repeat' (first | with_reducible exact Below.refl _ _ | with_reducible assumption | with_reducible refine gr_alloc ?_ _ | with_reducible refine gr_drew ?_ | with_reducible refine gr_drewN ?_ _ | with_reducible refine gr_trans ?_ (by assumption) | with_reducible refine gr_set ?_ ?_ _ | (simp; done) | omega | (simp; omega)))⟩)

set_option maxRecDepth 100000 in
set_option maxHeartbeats 2000000 in
theorem iDt_any (a b c d x y : Int) (w : World) :
    Calls Try.prog 37 #[.agg #[.int .i64 a, .int .i64 b, .int .i64 c, .int .i64 d, .int .i64 x, .int .i64 y]] w fun e w' => e = .returned (.int .i64 (z3 (dsc0 a b c d) (vl a b c d x y))) ∧ Below w.heap.size w w' := by
  have hc := fun W => iDisc_any a b c d W
  generalize dsc0 a b c d = D at hc ⊢
  have hd := fun W => iFormValue_any a b c d x y W
  generalize vl a b c d x y = v at hd ⊢
  have HC := hid hc
  have HD := hid hd
  clear hc hd
  have A0 := Arr6.new w a b c d x y 62
  have U0 := gr_alloc (Below.refl w.heap.size w) (.cells #[.int .i64 a, .int .i64 b, .int .i64 c, .int .i64 d, .int .i64 x, .int .i64 y] 62)
  go_enter Try.func37, Try.ntmps37
  go_upto_region 1 with fail
  generalize w.alloc (.cells #[.int .i64 a, .int .i64 b, .int .i64 c, .int .i64 d, .int .i64 x, .int .i64 y] 62) = W0 at A0 U0 ⊢
  obtain ⟨_, a0, a1, a2, a3, a4, a5⟩ := id A0
  go_wp2_with fail
  refine (HC.out _).mono ?_
  rintro e w1 ⟨rfl, hb1⟩
  have A1 := A0.next hb1
  clear a0 a1 a2 a3 a4 a5
  obtain ⟨_, a0, a1, a2, a3, a4, a5⟩ := id A1
  go_wp2_with fail
  refine (HD.out _).mono ?_
  rintro e w2 ⟨rfl, hb2⟩
  go_wp2
  go_ret
  exact ⟨rfl, by (repeat' (first | with_reducible exact Below.refl _ _ | with_reducible assumption | with_reducible refine gr_alloc ?_ _ | with_reducible refine gr_drew ?_ | with_reducible refine gr_drewN ?_ _ | with_reducible refine gr_trans ?_ (by assumption) | with_reducible refine gr_set ?_ ?_ _ | (simp; done) | omega | (simp; omega)))⟩

end Go.Proofs.Ytigbaelbeaobpaa
