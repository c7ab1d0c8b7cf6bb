/- Chapter 5: rational roots, the model's list. -/
import Derived.Test.YtgdbnaabbaimjaaDoorGr
import Derived.Test.YtgdbnaabbaimjaaDoorC1g
namespace Go.Proofs.YtgdbnaabbaimjaaDoor
open Go.RowKit

def fsS (F n : Int) : Int := if F = 0 then n else F
theorem fsS_0 (n : Int) : fsS 0 n = n := by simp [fsS]
theorem fsS_n {F n : Int} (h : F ≠ 0) : fsS F n = F := by simp [fsS, h]
def fsK (a b c d : Int) : Nat → Int
  | 0 => a
  | 1 => a
  | 2 => fsS a b
  | 3 => fsS (fsS a b) c
  | _ => fsS (fsS (fsS a b) c) d
theorem fsK_n {a b c d : Int} {k : Nat} (h : fsK a b c d k ≠ 0) (hk : k ≤ 4) : fsK a b c d 4 = fsK a b c d k := by
  have hk' : k = 0 ∨ k = 1 ∨ k = 2 ∨ k = 3 ∨ k = 4 := by omega
  rcases hk' with rfl | rfl | rfl | rfl | rfl <;> simp only [fsK] at h ⊢ <;> simp only [fsS_n h]
/-- Is x, y a root, z and y apart? -/
def cnd (a b c d z x y : Int) : Bool := ((Int.gcd z y : Int) == 1) && (vl a b c d x y == 0)
def mN (a b c d y : Int) (D : List Int) (k : Nat) : List (List Int) := ((D.drop k).reverse.filter fun z => cnd a b c d z (-z) y).map fun z => [-z, y]
def mP (a b c d y : Int) (D : List Int) (k : Nat) : List (List Int) := ((D.take k).filter fun z => cnd a b c d z z y).map fun z => [z, y]
def mZ (d y : Int) : List (List Int) := if (y == 1 && d == 0) = true then [[0, 1]] else []
def mY (a b c d : Int) (D : List Int) (y : Int) : List (List Int) := mN a b c d y D 0 ++ mZ d y ++ mP a b c d y D D.length
def m0r (a : Int) : List (List Int) := if (a == 0) = true then [[1, 0]] else []
def mK (a b c d : Int) (B D : List Int) (i : Nat) : List (List Int) := m0r a ++ (B.take i).flatMap (mY a b c d D)
theorem mN_s {a b c d y : Int} {D : List Int} {k : Nat} (h : k < D.length) : mN a b c d y D k = mN a b c d y D (k + 1) ++ (if cnd a b c d D[k] (-D[k]) y = true then [[-D[k], y]] else []) := by
  unfold mN
  rw [List.drop_eq_getElem_cons h, List.reverse_cons, List.filter_append, List.map_append]
  congr 1
  simp only [List.filter_cons, List.filter_nil]
  split <;> simp
theorem mP_s {a b c d y : Int} {D : List Int} {k : Nat} (h : k < D.length) : mP a b c d y D (k + 1) = mP a b c d y D k ++ (if cnd a b c d D[k] D[k] y = true then [[D[k], y]] else []) := by
  unfold mP
  rw [List.take_succ_eq_append_getElem h, List.filter_append, List.map_append]
  congr 1
  simp only [List.filter_cons, List.filter_nil]
  split <;> simp
theorem mN_e (a b c d y : Int) (D : List Int) : mN a b c d y D D.length = [] := by simp [mN]
theorem mP_0 (a b c d y : Int) (D : List Int) : mP a b c d y D 0 = [] := by simp [mP]
theorem mK_s {a b c d : Int} {B D : List Int} {i : Nat} (h : i < B.length) : mK a b c d B D (i + 1) = mK a b c d B D i ++ mY a b c d D B[i] := by
  unfold mK
  rw [List.take_succ_eq_append_getElem h, List.flatMap_append, ← List.append_assoc]
  simp
theorem mN_len (a b c d y : Int) (D : List Int) (k : Nat) : (mN a b c d y D k).length ≤ D.length := by
  unfold mN
  rw [List.length_map]
  have := List.length_filter_le (fun z => cnd a b c d z (-z) y) (D.drop k).reverse
  rw [List.length_reverse, List.length_drop] at this
  omega
theorem mP_len (a b c d y : Int) (D : List Int) (k : Nat) : (mP a b c d y D k).length ≤ D.length := by
  unfold mP
  rw [List.length_map]
  have := List.length_filter_le (fun z => cnd a b c d z z y) (D.take k)
  rw [List.length_take] at this
  omega
theorem mZ_len (d y : Int) : (mZ d y).length ≤ 1 := by unfold mZ; split <;> simp
theorem mK_len (a b c d : Int) (B D : List Int) : ∀ i, i ≤ B.length → (mK a b c d B D i).length ≤ 1 + i * (2 * D.length + 1) := by
  intro i
  induction i with
  | zero => intro _; unfold mK m0r; split <;> simp
  | succ i ih =>
    intro h
    rw [mK_s (by omega), List.length_append, Nat.succ_mul]
    have h1 := ih (by omega)
    have h2 := mN_len a b c d B[i] D 0
    have h3 := mP_len a b c d B[i] D D.length
    have h4 := mZ_len d B[i]
    unfold mY
    rw [List.length_append, List.length_append]
    omega
theorem mem_dvK {D z : Int} {k : Nat} (h : z ∈ dvK D k) : 1 ≤ z ∧ z ≤ k ∧ D % z = 0 := by
  unfold dvK at h
  obtain ⟨h1, h2⟩ := List.mem_filter.1 h
  obtain ⟨j, hj, rfl⟩ := List.mem_map.1 h1
  have := List.mem_range.1 hj
  exact ⟨by omega, by omega, by simpa using h2⟩
theorem dvK_pos {N : Nat} (h : 1 ≤ N) : 0 < (dvK N N).length := by
  refine List.length_pos_of_mem (a := 1) ?_
  unfold dvK
  refine List.mem_filter.2 ⟨List.mem_map.2 ⟨0, List.mem_range.2 (by omega), rfl⟩, by simp⟩
theorem ocell {w : World} {B g n cap : Nat} {t : TypeId} {L : List Int} (h : w.ownsRow B t 1 (.slice (some ⟨g, 0, none⟩) n cap) L.length (L.map (Value.int .i64))) (i : Nat) (hi : i < L.length) : w.cell? ⟨g, i, none⟩ = some (.int .i64 L[i]) ∧ g < w.heap.size := by
  obtain ⟨a, cap', e, _, _, hc⟩ := owns_form h
  obtain ⟨g', rfl, hg, hcell⟩ := hc (by omega)
  cases e
  exact ⟨hcell i _ (by simp [hi]), hg⟩
/-- A cell that stays. -/
def CellAt (w : World) (g k : Nat) (z : Int) : Prop := g < w.heap.size ∧ w.cell? ⟨g, k, none⟩ = some (.int .i64 z)
theorem CellAt.next {w w' : World} {g k : Nat} {z : Int} (h : CellAt w g k z) (hb : Below w.heap.size w w') : CellAt w' g k z := ⟨Nat.lt_of_lt_of_le h.1 hb.size, (hb.cell (p := ⟨g, k, none⟩) h.1).trans h.2⟩
theorem CellAt.drew {w : World} {g k : Nat} {z : Int} (h : CellAt w g k z) : CellAt w.drew g k z := h.next (Below.refl _ w).drew
theorem CellAt.alloc {w : World} {g k : Nat} {z : Int} (h : CellAt w g k z) (o : Obj) : CellAt (w.alloc o) g k z := h.next ((Below.refl _ w).alloc (Nat.le_refl _) o)
theorem cellsS {W : World} {kf g k : Nat} {a b c d z : Int} (F : Arr W kf a b c d) (C : CellAt W g k z) :
    W.cell? ⟨kf, 0, none⟩ = some (.int .i64 a) ∧ W.cell? ⟨kf, 1, none⟩ = some (.int .i64 b) ∧ W.cell? ⟨kf, 2, none⟩ = some (.int .i64 c) ∧ W.cell? ⟨kf, 3, none⟩ = some (.int .i64 d) ∧ W.cell? ⟨g, k, none⟩ = some (.int .i64 z) := ⟨F.c0, F.c1, F.c2, F.c3, C.2⟩


end Go.Proofs.YtgdbnaabbaimjaaDoor
