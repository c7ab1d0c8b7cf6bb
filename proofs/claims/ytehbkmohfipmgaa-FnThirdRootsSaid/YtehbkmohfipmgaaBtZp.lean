/- Chapter 10: triple forms with a root form: the list. -/
import Derived.Test.YtehbkmohfipmgaaBtZo
import Derived.Test.YtehbkmohfipmgaaBtZm
import Derived.Test.YtehbkmohfipmgaaBtZa
import Derived.Test.YtehbkmohfipmgaaBtZn
namespace Go.Proofs.Ytehbkmohfipmgaa
open Go.RowKit

/-- Is x, y, z the root form of a, 3 e, 3 g, d? -/
def tq (x y z a e g d : Int) : Bool := qeq (rt1 a e g) (rt2 a e g d) (rt3 e g d) x y z
def t1 (x y z n a e g : Int) : Nat → List Fm
  | 0 => []
  | j + 1 => t1 x y z n a e g j ++ (if tq x y z a e g (-n + j) then [(a, 3 * e, 3 * g, -n + (j : Int))] else [])
def t2 (x y z n a e : Int) : Nat → List Fm
  | 0 => []
  | j + 1 => t2 x y z n a e j ++ t1 x y z n a e (-n + j) (2 * n + 1).toNat
def t3 (x y z n a : Int) : Nat → List Fm
  | 0 => []
  | j + 1 => t3 x y z n a j ++ t2 x y z n a (-n + j) (2 * n + 1).toNat
def t4 (x y z n : Int) : Nat → List Fm
  | 0 => []
  | j + 1 => t4 x y z n j ++ t3 x y z n (-n + j) (2 * n + 1).toNat
def tls (x y z n : Int) : List Fm := t4 x y z n (2 * n + 1).toNat
theorem t1_le (x y z n a e g : Int) (j : Nat) : (t1 x y z n a e g j).length ≤ j := by
  induction j with
  | zero => simp [t1]
  | succ j ih => simp only [t1, List.length_append]; split <;> simp <;> omega
theorem t2_le (x y z n a e : Int) (j : Nat) (h : (2 * n + 1).toNat ≤ 11) : (t2 x y z n a e j).length ≤ 11 * j := by
  induction j with
  | zero => simp [t2]
  | succ j ih => simp only [t2, List.length_append]; have := t1_le x y z n a e (-n + j) (2 * n + 1).toNat; omega
theorem t3_le (x y z n a : Int) (j : Nat) (h : (2 * n + 1).toNat ≤ 11) : (t3 x y z n a j).length ≤ 121 * j := by
  induction j with
  | zero => simp [t3]
  | succ j ih => simp only [t3, List.length_append]; have := t2_le x y z n a (-n + j) (2 * n + 1).toNat h; omega
theorem t4_le (x y z n : Int) (j : Nat) (h : (2 * n + 1).toNat ≤ 11) : (t4 x y z n j).length ≤ 1331 * j := by
  induction j with
  | zero => simp [t4]
  | succ j ih => simp only [t4, List.length_append]; have := t3_le x y z n (-n + j) (2 * n + 1).toNat h; omega
/-- The code. -/
def twc (a b c n : Int) : Int := if dc1 a b c = 0 then (if rng 1 5 n then 0 else 2) else dc1 a b c
theorem tls_le (x y z n : Int) : (if twc x y z n = 0 then (tls x y z n).length else 0) ≤ 100000 := by
  split
  · rename_i h
    have hn : rng 1 5 n = true := by
      unfold twc at h
      split at h
      · split at h
        · assumption
        · simp at h
      · exact absurd h (by assumption)
    have := rng_t hn
    have := t4_le x y z n (2 * n + 1).toNat (by omega)
    unfold tls; omega
  · omega
theorem rowF_skip {B : Nat} {W : World} {v : Value} {A C : List Fm} {x : Fm} {b : Bool} (hb : b = false) (h : RowF B W v (A ++ C)) : RowF B W v (A ++ (C ++ if b then [x] else [])) := by
  subst hb; simpa using h
theorem rowF_take {B : Nat} {W : World} {v : Value} {A C : List Fm} {x : Fm} {b : Bool} (hb : b = true) (h : RowF B W v ((A ++ C) ++ [x])) : RowF B W v (A ++ (C ++ if b then [x] else [])) := by
  subst hb; simpa using h
theorem FlsOut.of {code : Int} {L : List Fm} {w w' : World} {v : Value} (hc : code = 0) (h : RowF w.heap.size w' v L) (hb : Below w.heap.size w w') : FlsOut code L.length (fun i => (L.flatMap gi4).getD i 0) w (.returned (.tuple #[v, .int .i64 code])) w' :=
  ⟨v, rfl, by rw [if_pos hc]; exact h.out, hb⟩
theorem cells43z {W : World} {i j : Nat} {a b c d x y z : Int} (K : Arr W i a b c d) (L : Arr3 W j x y z) :
    W.cell? ⟨i, 0, none⟩ = some (.int .i64 a) ∧ W.cell? ⟨i, 1, none⟩ = some (.int .i64 b) ∧ W.cell? ⟨i, 2, none⟩ = some (.int .i64 c) ∧ W.cell? ⟨i, 3, none⟩ = some (.int .i64 d) ∧ W.cell? ⟨j, 0, none⟩ = some (.int .i64 x) ∧ W.cell? ⟨j, 1, none⟩ = some (.int .i64 y) ∧ W.cell? ⟨j, 2, none⟩ = some (.int .i64 z) := ⟨K.c0, K.c1, K.c2, K.c3, L.c0, L.c1, L.c2⟩
theorem Arr3.keptF {w w' w0 : World} {B k : Nat} {a b c : Int} {v : Value} {L : List Fm} (h : Arr3 w k a b c) (hr : RowF B w0 v L) (hg : w.grownBy w' v.ownBlock) (hk : k < B) : Arr3 w' k a b c := by
  have hb := hg.block k h.lt (fun e => by
    rcases hr.2 with ⟨rfl, _⟩ | ⟨g, cap, cur, rfl, hb, _⟩
    · simp [Value.ownBlock] at e
    · simp [Value.ownBlock] at e; omega)
  exact ⟨Nat.lt_of_lt_of_le h.lt hg.size, (World.cell?_of_block (a := ⟨k, 0, none⟩) hb).trans h.c0, (World.cell?_of_block (a := ⟨k, 1, none⟩) hb).trans h.c1, (World.cell?_of_block (a := ⟨k, 2, none⟩) hb).trans h.c2,
    (World.frozen?_of_block (a := ⟨k, 0, none⟩) hb).trans h.f0, (World.frozen?_of_block (a := ⟨k, 1, none⟩) hb).trans h.f1, (World.frozen?_of_block (a := ⟨k, 2, none⟩) hb).trans h.f2⟩

end Go.Proofs.Ytehbkmohfipmgaa
