/- Several texts in one: XZe, XQlS. -/
import Derived.Test.YtehbkmohfipmgaaBtZ6
import Derived.Test.YtehbkmohfipmgaaBtZ3
import Derived.Deep.QuietTactic
import Derived.BigQuiet
import Derived.Test.YtehbkmohfipmgaaBtZ5
import Derived.Test.YtehbkmohfipmgaaBtZ4
import Derived.Deep.RegionHeld3
import Derived.Deep.DeepCutAuto

/- Chapter 10: forms told by two numbers and a discriminant; reduced forms. -/
namespace Go.Proofs.Ytehbkmohfipmgaa
open Go.RowKit

/-- The third number of p, q with the discriminant d. -/
def thd (p q d : Int) : Int := (q * q - d).tdiv (4 * p)

set_option maxHeartbeats 400000 in
theorem wdisc_any (p q d : Int) (w : World) (hp : 1 ≤ p ∧ p ≤ 1000000000000) (hq : -1000000000 ≤ q ∧ q ≤ 1000000000) (hd : -1000000000000 ≤ d ∧ d ≤ 1000000000000) :
    Calls Try.prog 50 #[.int .i64 p, .int .i64 q, .int .i64 d] w fun e w' => e = .returned (.agg #[.int .i64 p, .int .i64 q, .int .i64 (thd p q d)]) ∧ Below w.heap.size w w' := by
  have hqq := mulb (A := 1000000000) (B := 1000000000) hq hq
  have H : Hid (thd p q d = (q * q - d).tdiv (4 * p)) := hid rfl
  have R0 := Arr3.new w 0 0 0 25
  obtain ⟨_, r0, r1, r2, f0, f1, f2⟩ := id R0
  obtain ⟨q1, q2⟩ := hqq; obtain ⟨p1, p2⟩ := hp; obtain ⟨d1, d2⟩ := hd
  have q1' : -1000000000000000000 ≤ q * q := by omega
  have q2' : q * q ≤ 1000000000000000000 := by omega
  have hn : ¬ 4 * p = 0 := by omega
  have hb := Int.natAbs_tdiv_le_natAbs (q * q - d) (4 * p)
  have hb1 : -1000001000000000000 ≤ (q * q - d).tdiv (4 * p) := by omega
  have hb2 : (q * q - d).tdiv (4 * p) ≤ 1000001000000000000 := by omega
  clear hb q1 q2 hq
  go_enter Try.func50, Try.ntmps50
  go_wp2
  refine bodyPost_ret (res_A31 (e := 2) rfl Try.underlying25 (by kernel_rfl) rfl (by (repeat (first | with_reducible assumption | with_reducible exact Arr.box (by assumption) | with_reducible exact Box.new _ _ _ _ _ _ | with_reducible exact Arr.new _ _ _ _ _ _ | with_reducible refine Arr.drew ?_ | with_reducible refine Arr.drewN ?_ _ | with_reducible refine Arr.store4 ?_ | with_reducible refine Arr.alloc ?_ _ | with_reducible refine Box.drew ?_ | with_reducible refine Box.drewN ?_ _ | with_reducible refine Box.alloc ?_ _ | with_reducible refine Arr.next ?_ (by assumption) | with_reducible refine Box.next ?_ (by assumption) | refine Arr.oth ?_ (by first | (simp; done) | omega | (simp; omega)) _ | refine Box.oth ?_ (by first | (simp; done) | omega | (simp; omega)) _ | with_reducible exact Arr3.box (by assumption) | with_reducible exact Box3.new _ _ _ _ _ | with_reducible exact Arr3.new _ _ _ _ _ | with_reducible refine Arr3.drew ?_ | with_reducible refine Arr3.drewN ?_ _ | with_reducible refine Arr3.store3 ?_ | with_reducible refine Arr3.alloc ?_ _ | with_reducible refine Box3.drew ?_ | with_reducible refine Box3.drewN ?_ _ | with_reducible refine Box3.alloc ?_ _ | with_reducible refine Arr3.next ?_ (by assumption) | with_reducible refine Box3.next ?_ (by assumption) | refine Arr3.oth ?_ (by first | (simp; done) | omega | (simp; omega)) _ | refine Box3.oth ?_ (by first | (simp; done) | omega | (simp; omega)) _)))) rfl ?_
  rw [H.out]
  exact ⟨rfl, by (repeat' (first | with_reducible exact Below.refl _ _ | with_reducible assumption | with_reducible refine gr_alloc ?_ _ | with_reducible refine gr_drew ?_ | with_reducible refine gr_drewN ?_ _ | with_reducible refine gr_trans ?_ (by assumption) | with_reducible refine gr_set ?_ ?_ _ | (simp; done) | omega | (simp; omega)))⟩

/-- Reduced, of a form whose Q is in its range. -/
def rdb (a b c : Int) : Bool := decide (a < c) || (decide (a = c) && decide (0 ≤ b))
set_option maxHeartbeats 400000 in
theorem isReduced_any (a b c : Int) (w : World) : Calls Try.prog 52 #[.agg #[.int .i64 a, .int .i64 b, .int .i64 c]] w fun e w' => e = .returned (.bool (rdb a b c)) ∧ Below w.heap.size w w' := by
  have A0 := Arr3.new w a b c 25
  obtain ⟨_, c0, c1, c2, _⟩ := id A0
  by_cases h : a < c
  · have h1 : decide (a < c) = true := by simpa using h
    go_enter Try.func52, Try.ntmps52
    go_wp2
    go_ret
    exact ⟨ret_bool (by simp [rdb, h1]), by (repeat' (first | with_reducible exact Below.refl _ _ | with_reducible assumption | with_reducible refine gr_alloc ?_ _ | with_reducible refine gr_drew ?_ | with_reducible refine gr_drewN ?_ _ | with_reducible refine gr_trans ?_ (by assumption) | with_reducible refine gr_set ?_ ?_ _ | (simp; done) | omega | (simp; omega)))⟩
  · have h1 : decide (a < c) = false := by simpa using h
    clear h
    by_cases h : a = c
    · have h2 : (a == c) = true := by simpa using h
      have H := hid h
      clear h
      go_enter Try.func52, Try.ntmps52
      go_wp2
      go_ret
      exact ⟨ret_bool (by simp [rdb, H.out]), by (repeat' (first | with_reducible exact Below.refl _ _ | with_reducible assumption | with_reducible refine gr_alloc ?_ _ | with_reducible refine gr_drew ?_ | with_reducible refine gr_drewN ?_ _ | with_reducible refine gr_trans ?_ (by assumption) | with_reducible refine gr_set ?_ ?_ _ | (simp; done) | omega | (simp; omega)))⟩
    · have h2 : (a == c) = false := by simpa using h
      have H := hid h
      clear h
      go_enter Try.func52, Try.ntmps52
      go_wp2
      go_ret
      exact ⟨ret_bool (by simp [rdb, h1, H.out]), by (repeat' (first | with_reducible exact Below.refl _ _ | with_reducible assumption | with_reducible refine gr_alloc ?_ _ | with_reducible refine gr_drew ?_ | with_reducible refine gr_drewN ?_ _ | with_reducible refine gr_trans ?_ (by assumption) | with_reducible refine gr_set ?_ ?_ _ | (simp; done) | omega | (simp; omega)))⟩
theorem dq_in {a b c : Int} (h1 : -1000000000000000000 ≤ b * b ∧ b * b ≤ 1000000000000000000) (h2 : -2000000000000000000 ≤ 4 * a * c ∧ 4 * a * c ≤ 2000000000000000000) : dq a b c = b * b - 4 * a * c := by
  simp only [dq, mi, mu, wr_ml, wr_sl, wr_sr]
  exact wr_in (by omega)
theorem gcd_b {m n B : Int} (hm : -B ≤ m ∧ m ≤ B) (hn : -B ≤ n ∧ n ≤ B) : 0 ≤ (Int.gcd m n : Int) ∧ (Int.gcd m n : Int) ≤ B := by
  refine ⟨by omega, ?_⟩
  rcases Nat.eq_zero_or_pos m.natAbs with h | h
  · have : Int.gcd m n = n.natAbs := by unfold Int.gcd; rw [h, Nat.gcd_zero_left]
    omega
  · have := Nat.gcd_le_left n.natAbs h
    unfold Int.gcd; omega

end Go.Proofs.Ytehbkmohfipmgaa

/- Lists of quadratic forms: copies, comparisons, marks. -/
namespace Go.Proofs.Ytehbkmohfipmgaa
open Go.RowKit

/-- A slice of n quadratic forms, their numbers g 0, .., g (3 n - 1). -/
def RdU (w : World) (v : Value) (n : Nat) (g : Nat → Int) : Prop :=
  (v = .slice none 0 0 ∧ n = 0) ∨ ∃ b cap, v = .slice (some ⟨b, 0, none⟩) n cap ∧ n ≤ cap ∧ cap ≤ maxLen ∧ b < w.heap.size ∧ ∀ i, i < 3 * n → w.cell? ⟨b, i, none⟩ = some (.int .i64 (g i))

/-- Three numbers in block b from offset o on. -/
structure At3 (w : World) (b o : Nat) (x y z : Int) : Prop where
  lt : b < w.heap.size
  c0 : w.cell? ⟨b, o, none⟩ = some (.int .i64 x)
  c1 : w.cell? ⟨b, o + 1, none⟩ = some (.int .i64 y)
  c2 : w.cell? ⟨b, o + 2, none⟩ = some (.int .i64 z)
theorem At3.next {w w' : World} {b o : Nat} {x y z : Int} (h : At3 w b o x y z) {B : Nat} (hb : Below B w w') (hB : b < B) : At3 w' b o x y z :=
  ⟨Nat.lt_of_lt_of_le h.lt hb.size, (hb.cell (p := ⟨b, o, none⟩) hB).trans h.c0, (hb.cell (p := ⟨b, o + 1, none⟩) hB).trans h.c1, (hb.cell (p := ⟨b, o + 2, none⟩) hB).trans h.c2⟩
theorem At3.drew {w : World} {b o : Nat} {x y z : Int} (h : At3 w b o x y z) : At3 w.drew b o x y z := h.next (gr_drew (Below.refl _ w)) h.lt
theorem At3.drewN {w : World} {b o : Nat} {x y z : Int} (h : At3 w b o x y z) (n : Nat) : At3 (w.drewN n) b o x y z := h.next (gr_drewN (Below.refl _ w) n) h.lt
theorem At3.alloc {w : World} {b o : Nat} {x y z : Int} (h : At3 w b o x y z) (ob : Obj) : At3 (w.alloc ob) b o x y z := h.next (gr_alloc (Below.refl _ w) ob) h.lt
theorem RdU.at3 {w : World} {b n : Nat} {g : Nat → Int} (hb : b < w.heap.size) (h : ∀ i, i < 3 * n → w.cell? ⟨b, i, none⟩ = some (.int .i64 (g i))) {k : Nat} (hk : k < n) : At3 w b (k * 3) (g (k * 3)) (g (k * 3 + 1)) (g (k * 3 + 2)) :=
  ⟨hb, h _ (by omega), h _ (by omega), h _ (by omega)⟩
theorem cellsAt2 {W : World} {b o b' o' : Nat} {x y z x' y' z' : Int} (K : At3 W b o x y z) (L : At3 W b' o' x' y' z') :
    W.cell? ⟨b, o, none⟩ = some (.int .i64 x) ∧ W.cell? ⟨b, o + 1, none⟩ = some (.int .i64 y) ∧ W.cell? ⟨b, o + 2, none⟩ = some (.int .i64 z) ∧ W.cell? ⟨b', o', none⟩ = some (.int .i64 x') ∧ W.cell? ⟨b', o' + 1, none⟩ = some (.int .i64 y') ∧ W.cell? ⟨b', o' + 2, none⟩ = some (.int .i64 z') := ⟨K.c0, K.c1, K.c2, L.c0, L.c1, L.c2⟩



/-- A slice of n quadratic forms that lies in a block of its own, from B on; or nil. -/
def OwnU (B : Nat) (w : World) (v : Value) (n : Nat) (g : Nat → Int) : Prop :=
  (v = .slice none 0 0 ∧ n = 0) ∨ ∃ k cap, v = .slice (some ⟨k, 0, none⟩) n cap ∧ B ≤ k ∧ n ≤ cap ∧ cap ≤ maxLen ∧ Cl w k (3 * n) g
/-- A slice of n quadratic forms in a block below B; or nil. -/
def RdBU (B : Nat) (w : World) (v : Value) (n : Nat) (g : Nat → Int) : Prop :=
  (v = .slice none 0 0 ∧ n = 0) ∨ ∃ b cap, v = .slice (some ⟨b, 0, none⟩) n cap ∧ n ≤ cap ∧ cap ≤ maxLen ∧ b < B ∧ ∀ i, i < 3 * n → w.cell? ⟨b, i, none⟩ = some (.int .i64 (g i))
theorem RdBU.rd {B : Nat} {w : World} {v : Value} {n : Nat} {g : Nat → Int} (h : RdBU B w v n g) (hB : B ≤ w.heap.size) : RdU w v n g := by
  rcases h with h | ⟨b, cap, h1, h2, h3, h4, h5⟩
  · exact .inl h
  · exact .inr ⟨b, cap, h1, h2, h3, by omega, h5⟩
theorem RdBU.below {B : Nat} {w w' : World} {v : Value} {n : Nat} {g : Nat → Int} (h : RdBU B w v n g) {C : Nat} (hb : Below C w w') (hC : B ≤ C) : RdBU B w' v n g := by
  rcases h with h | ⟨b, cap, h1, h2, h3, h4, h5⟩
  · exact .inl h
  · exact .inr ⟨b, cap, h1, h2, h3, h4, fun i hi => (hb.cell (p := ⟨b, i, none⟩) (by show b < C; omega)).trans (h5 i hi)⟩
theorem OwnU.rdB {B : Nat} {w : World} {v : Value} {n : Nat} {g : Nat → Int} (h : OwnU B w v n g) : RdBU w.heap.size w v n g := by
  rcases h with h | ⟨b, cap, h1, _, h2, h3, h5⟩
  · exact .inl h
  · exact .inr ⟨b, cap, h1, h2, h3, h5.1, fun i hi => (h5.2 i hi).1⟩
theorem OwnU.rd {B : Nat} {w : World} {v : Value} {n : Nat} {g : Nat → Int} (h : OwnU B w v n g) : RdU w v n g := h.rdB.rd (Nat.le_refl _)
theorem OwnU.next {B : Nat} {w w' : World} {v : Value} {n : Nat} {g : Nat → Int} (h : OwnU B w v n g) (hb : Below w.heap.size w w') : OwnU B w' v n g := by
  rcases h with h | ⟨b, cap, h1, h6, h2, h3, h5⟩
  · exact .inl h
  · exact .inr ⟨b, cap, h1, h6, h2, h3, h5.below hb⟩
theorem OwnU.base {B B' : Nat} {w : World} {v : Value} {n : Nat} {g : Nat → Int} (h : OwnU B w v n g) (hB : B' ≤ B) : OwnU B' w v n g := by
  rcases h with h | ⟨b, cap, h1, h6, h2, h3, h5⟩
  · exact .inl h
  · exact .inr ⟨b, cap, h1, by omega, h2, h3, h5⟩
/-- A list of quadratic forms that the call laid, and a code. -/
def QlsOut (code : Int) (n : Nat) (g : Nat → Int) (w : World) (e : Ending) (w' : World) : Prop :=
  ∃ v, e = .returned (.tuple #[v, .int .i64 code]) ∧ OwnU w.heap.size w' v (if code = 0 then n else 0) g ∧ Below w.heap.size w w'





end Go.Proofs.Ytehbkmohfipmgaa
