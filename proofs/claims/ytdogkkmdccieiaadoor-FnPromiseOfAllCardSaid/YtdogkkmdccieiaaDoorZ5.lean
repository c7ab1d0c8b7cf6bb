/- Several texts in one: XPd, XRa. -/
import Derived.Test.YtdogkkmdccieiaaDoorPc
import Derived.Test.YtdogkkmdccieiaaDoorZ4
import Derived.Test.YtdogkkmdccieiaaDoorMul
import Derived.Test.YtdogkkmdccieiaaDoorPl

/- Chapter 5: a form and a prime; multiples; ramified primes. -/
namespace Go.Proofs.YtdogkkmdccieiaaDoor
open Go.RowKit

theorem tmod_97 (n m : Int) (h1 : 1 ≤ m) (h : m ≤ 97) : -97 ≤ n.tmod m ∧ n.tmod m ≤ 97 := by
  have := Int.natAbs_tmod n m
  have hb : n.natAbs % m.natAbs < m.natAbs := Nat.mod_lt _ (by omega)
  omega

theorem tmod_499 (n m : Int) (h1 : 1 ≤ m) (h : m ≤ 499) : -499 ≤ n.tmod m ∧ n.tmod m ≤ 499 := by
  have := Int.natAbs_tmod n m
  have hb : n.natAbs % m.natAbs < m.natAbs := Nat.mod_lt _ (by omega)
  omega

set_option maxHeartbeats 400000 in
theorem iCheckFP_any (a b c d p : Int) (w : World) : Calls Tryd.prog 87 #[.agg #[.int .i64 a, .int .i64 b, .int .i64 c, .int .i64 d], .int .i64 p] w fun e w' => e = .returned (.int .i64 (fpc a b c d p)) ∧ Below w.heap.size w w' := by
  go_enter Tryd.func87, Tryd.ntmps87
  go_wp2_with fail
  refine (iIsForm_any a b c d _).mono ?_
  rintro e w1 ⟨rfl, hb1⟩
  cases hF : isF a b c d with
  | false =>
    go_wp2_with fail
    go_ret
    exact ⟨ret_int (by simp [fpc, hF]), by (repeat' (first | with_reducible exact Below.refl _ _ | with_reducible assumption | with_reducible refine gr_alloc ?_ _ | with_reducible refine gr_drew ?_ | with_reducible refine gr_drewN ?_ _ | with_reducible refine gr_trans ?_ (by assumption) | with_reducible refine gr_set ?_ ?_ _ | (simp; done) | omega | (simp; omega)))⟩
  | true =>
    cases hp : prm p with
    | false =>
      go_wp2_with (go_at_call 110; refine (isPrime_any _ _).mono ?_; rintro e w' ⟨rfl, rfl⟩)
      go_ret
      exact ⟨ret_int (by simp [fpc, hF, hp]), by (repeat' (first | with_reducible exact Below.refl _ _ | with_reducible assumption | with_reducible refine gr_alloc ?_ _ | with_reducible refine gr_drew ?_ | with_reducible refine gr_drewN ?_ _ | with_reducible refine gr_trans ?_ (by assumption) | with_reducible refine gr_set ?_ ?_ _ | (simp; done) | omega | (simp; omega)))⟩
    | true =>
      go_wp2_with (go_at_call 110; refine (isPrime_any _ _).mono ?_; rintro e w' ⟨rfl, rfl⟩)
      go_ret
      exact ⟨ret_int (by simp [fpc, hF, hp]), by (repeat' (first | with_reducible exact Below.refl _ _ | with_reducible assumption | with_reducible refine gr_alloc ?_ _ | with_reducible refine gr_drew ?_ | with_reducible refine gr_drewN ?_ _ | with_reducible refine gr_trans ?_ (by assumption) | with_reducible refine gr_set ?_ ?_ _ | (simp; done) | omega | (simp; omega)))⟩



/-- Is p ramified? -/
def rmf (a b c d p : Int) : Bool := decide (fpc a b c d p = 0) && decide ((dsc a b c d).tmod p = 0)
theorem rmf_0 {a b c d p : Int} (h : isF a b c d = true) (hp : prm p = true) : rmf a b c d p = decide ((dsc a b c d).tmod p = 0) := by simp [rmf, fpc, h, hp]
theorem rmf_n {a b c d p : Int} (h : fpc a b c d p ≠ 0) : rmf a b c d p = false := by simp [rmf, h]






end Go.Proofs.YtdogkkmdccieiaaDoor

/- Chapter 5: values and quotients of forms of any degree, the program's. -/
namespace Go.Proofs.YtdogkkmdccieiaaDoor
open Go.RowKit

/-- A slice, not nil, that reads as a list. -/
def RdP (w : World) (v : Value) (L : List Int) : Prop := ∃ b cap, v = .slice (some ⟨b, 0, none⟩) L.length cap ∧ L.length ≤ cap ∧ cap ≤ maxLen ∧ b < w.heap.size ∧ ∀ i, i < L.length → w.cell? ⟨b, i, none⟩ = some (.int .i64 (L.getD i 0))
theorem RdP.next {w w' : World} {v : Value} {L : List Int} (h : RdP w v L) (hb : Below w.heap.size w w') : RdP w' v L := by
  obtain ⟨b, cap, h1, h2, h3, h4, h5⟩ := h
  exact ⟨b, cap, h1, h2, h3, Nat.lt_of_lt_of_le h4 hb.size, fun i hi => (hb.cell (p := ⟨b, i, none⟩) h4).trans (h5 i hi)⟩
theorem OwnV.rdP {B : Nat} {w : World} {v : Value} {L : List Int} (h : OwnV B w v L.length (fun i => L.getD i 0)) (hL : L ≠ []) : RdP w v L := by
  rcases h with ⟨_, h⟩ | ⟨k, cap, h1, _, h2, h3, h4, h5⟩
  · exact absurd (List.length_eq_zero_iff.1 h) hL
  · exact ⟨k, cap, h1, h3, h4, h2, fun i hi => (h5 i hi).1⟩
theorem RdP.arr {w : World} {k : Nat} {a b c d : Int} (h : Arr w k a b c d) : RdP w (.slice (some ⟨k, 0, none⟩) 4 4) [a, b, c, d] := by
  refine ⟨k, 4, rfl, Nat.le_refl _, by decide, h.lt, fun i hi => ?_⟩
  match i, hi with
  | 0, _ => exact h.c0
  | 1, _ => exact h.c1
  | 2, _ => exact h.c2
  | 3, _ => exact h.c3

/-- One step of a value: the value so far, the power of y. -/
def nst (x y : Int) (s : Int × Int) (n : Int) : Int × Int := (pl (mu s.1 x) (mu n s.2), mu s.2 y)
def nsK (x y : Int) (L : List Int) (k : Nat) : Int × Int := (L.take k).foldl (nst x y) (0, 1)
/-- The value of a form of any degree, as int64 has it. -/
def nva (L : List Int) (x y : Int) : Int := (L.foldl (nst x y) (0, 1)).1
theorem take_succ_getD (L : List Int) (k : Nat) (h : k < L.length) : L.take (k + 1) = L.take k ++ [L.getD k 0] := by
  rw [List.take_succ_eq_append_getElem h]; simp [List.getD, h]
theorem nsK_0 (x y : Int) (L : List Int) : nsK x y L 0 = (0, 1) := rfl
theorem nsK_s {x y : Int} {L : List Int} {k : Nat} (h : k < L.length) : nsK x y L (k + 1) = (pl (mu (nsK x y L k).1 x) (mu (L.getD k 0) (nsK x y L k).2), mu (nsK x y L k).2 y) := by
  unfold nsK; rw [take_succ_getD L k h, List.foldl_append]; rfl
theorem nsK_e {x y : Int} {L : List Int} : (nsK x y L L.length).1 = nva L x y := by unfold nsK nva; rw [List.take_length]

set_option maxRecDepth 100000 in
set_option maxHeartbeats 1000000 in
theorem numbersAt_any (v : Value) (L : List Int) (x y : Int) (w : World) (h : RdP w v L) :
    Calls Tryd.prog 123 #[v, .agg #[.int .i64 x, .int .i64 y]] w fun e w' => e = .returned (.int .i64 (nva L x y)) ∧ Below w.heap.size w w' := by
  obtain ⟨b, cap, rfl, hlc, hcm, hb, hc⟩ := h
  have HC := hid hc
  have HE := hid (@nsK_e x y L)
  have HS := hid (fun k => @nsK_s x y L k)
  have HZ := hid (nsK_0 x y L)
  clear hc
  generalize hn : L.length = n at hlc HC HE HS ⊢
  clear hn
  generalize nva L x y = V at HE ⊢
  generalize nsK x y L = S at HE HS HZ
  generalize L.getD = G at HC HS
  unfold maxLen at hcm
  go_enter Tryd.func123, Tryd.ntmps123
  go_wp2
  have hX := Bx.new w #[.int .i64 x, .int .i64 y] 132
  have U0 := gr_alloc (Below.refl w.heap.size w) (.cells #[.int .i64 x, .int .i64 y] 132)
  go_loop [5, 6, 11] (fun s5 s6 s11 => ∃ k : Nat, k ≤ n ∧ s11 = .int .i64 ((k : Int)) ∧ s5 = .int .i64 ((S k).1) ∧ s6 = .int .i64 ((S k).2)) (fun _ _ s11 => n - (intOf s11).toNat)
  case atStart => exact ⟨0, Nat.zero_le _, rfl, by rw [HZ.out], by rw [HZ.out]⟩
  case round =>
    obtain ⟨k, hk, rfl, rfl, rfl⟩ := hrel
    by_cases hlt : k < n
    · have hck : (w.alloc (.cells #[.int .i64 x, .int .i64 y] 132)).cell? ⟨b, k, none⟩ = some (.int .i64 (G k 0)) := (U0.cell (p := ⟨b, k, none⟩) hb).trans (HC.out k hlt)
      have hx0 := hX.cell 0
      have hx1 := hX.cell 1
      have HSk := hid (HS.out k hlt)
      generalize G k 0 = q at hck HSk
      clear hX U0 HS HZ
      go_wp2
      go_round
      case rel => exact ⟨k + 1, by omega, by go_num, by rw [HSk.out]; rfl, by rw [HSk.out]; rfl⟩
      case measure => simp [intOf]; omega
    · have e : k = n := by omega
      subst e
      go_wp2
      go_ret
      exact ⟨ret_int HE.out, U0⟩

/-- One step of a quotient: the number before, all so far. -/
def dst (x y : Int) (s : Int × List Int) (n : Int) : Int × List Int := (wrap64 ((pl n (mu x s.1)).tdiv y), s.2 ++ [wrap64 ((pl n (mu x s.1)).tdiv y)])
def dsK (x y : Int) (L : List Int) (k : Nat) : Int × List Int := (L.take k).foldl (dst x y) (0, [])
/-- The quotient by y X - x Y. -/
def dvd (L : List Int) (x y : Int) : List Int := if y = 0 then (L.drop 1).map (fun n => wrap64 (-n)) else (L.dropLast.foldl (dst x y) (0, [])).2
theorem dsK_0 (x y : Int) (L : List Int) : dsK x y L 0 = (0, []) := rfl
theorem dsK_s {x y : Int} {L : List Int} {k : Nat} (h : k < L.length) : dsK x y L (k + 1) = (wrap64 ((pl (L.getD k 0) (mu x (dsK x y L k).1)).tdiv y), (dsK x y L k).2 ++ [wrap64 ((pl (L.getD k 0) (mu x (dsK x y L k).1)).tdiv y)]) := by
  unfold dsK; rw [take_succ_getD L k h, List.foldl_append]; rfl
theorem dsK_len {x y : Int} {L : List Int} {k : Nat} (h : k ≤ L.length) : (dsK x y L k).2.length = k := by
  induction k with
  | zero => rfl
  | succ k ih => rw [dsK_s (by omega)]; simp [ih (by omega)]
theorem dsK_e {x y : Int} {L : List Int} {n : Nat} (hL : L.length = n + 1) (hy : y ≠ 0) : (dsK x y L n).2 = dvd L x y := by
  unfold dsK dvd; rw [if_neg hy, List.dropLast_eq_take, hL]; rfl
theorem dvd_len {x y : Int} {L : List Int} {n : Nat} (hL : L.length = n + 1) : (dvd L x y).length = n := by
  by_cases hy : y = 0
  · simp [dvd, hy, hL]
  · rw [← dsK_e hL hy]; exact dsK_len (by omega)


end Go.Proofs.YtdogkkmdccieiaaDoor
