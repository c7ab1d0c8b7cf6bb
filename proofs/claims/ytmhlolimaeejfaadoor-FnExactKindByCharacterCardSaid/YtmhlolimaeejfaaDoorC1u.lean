/- Chapter 1: forms changed by matrices, whatever their size. -/
import Derived.Test.YtmhlolimaeejfaaDoorZ16
namespace Go.Proofs.YtmhlolimaeejfaaDoor
open Go.RowKit Go.Shelf
attribute [local go_sem] Oper.semAt_some

theorem Arr.kept {A B : World} {row : Option Nat} {k : Nat} {a b c d : Int} (h : Arr A k a b c d) (hg : A.grownBy B row) (hr : ∀ r, row = some r → ∃ o : Obj, A.heap[r]? = some o ∧ o.isCells = false) : Arr B k a b c d :=
  ⟨Nat.lt_of_lt_of_le h.lt hg.size, cell_kept h.c0 hg hr, cell_kept h.c1 hg hr, cell_kept h.c2 hg hr, cell_kept h.c3 hg hr,
    (frozen_kept h.c0 hg hr).trans h.f0, (frozen_kept h.c1 hg hr).trans h.f1, (frozen_kept h.c2 hg hr).trans h.f2, (frozen_kept h.c3 hg hr).trans h.f3⟩
/-- The value at a base place. -/
def bval (a b c d p q r s : Int) (x : Int × Int) : Int := vl a b c d (IntKind.i64.wrap (IntKind.i64.wrap (p * x.1) + IntKind.i64.wrap (q * x.2))) (IntKind.i64.wrap (IntKind.i64.wrap (r * x.1) + IntKind.i64.wrap (s * x.2)))
theorem info_i64 : (Tryd.prog.info? 2).map (fun i => (i.zero, i.size, i.bytes)) = some (some (.int .i64 0), 1, 8) := by kernel_rfl

theorem row_weak {w : World} {base base' : Nat} {e : TypeId} {size : Nat} {v : Value} {n : Nat} {xs : List Value} (h : w.ownsRow base e size v n xs) (hb : base' ≤ base) : w.ownsRow base' e size v n xs := by
  refine ⟨h.1, ?_⟩
  rcases h.2 with h | ⟨g, cap, cur, h1, h2, h3⟩
  · exact .inl h
  · exact .inr ⟨g, cap, cur, h1, Nat.le_trans hb h2, h3⟩
theorem arr_append {w w1 : World} {tmp : Obj} {base k n : Nat} {e : TypeId} {v : Value} {xs : List Value} {a b c d : Int} (hr : w.ownsRow base e 1 v n xs) (hk : k < base) (hA : Arr w k a b c d) (hg : (w.alloc tmp).grownBy w1 v.ownBlock) : Arr w1 k a b c d := by
  have h := hA.alloc tmp
  have hne : some k ≠ v.ownBlock := by
    rcases hr.2 with ⟨rfl, _⟩ | ⟨g, cap, cur, rfl, h2, _⟩
    · simp [Value.ownBlock]
    · intro e'
      have : k = g := by simpa [Value.ownBlock] using e'
      omega
  have hb := hg.block k h.lt hne
  have hf : ∀ o, w1.frozen? ⟨k, o, none⟩ = (w.alloc tmp).frozen? ⟨k, o, none⟩ := fun o => World.frozen?_of_block hb
  exact ⟨Nat.lt_of_lt_of_le h.lt hg.size, hg.cell h.c0 hne, hg.cell h.c1 hne, hg.cell h.c2 hne, hg.cell h.c3 hne, (hf 0).trans h.f0, (hf 1).trans h.f1, (hf 2).trans h.f2, (hf 3).trans h.f3⟩
theorem i64w {n : Int} (h : -1000000000000000000 ≤ n ∧ n ≤ 1000000000000000000) : IntKind.i64.wrap n = n := IntWalk.i64_in n (by omega)
theorem bval_eq {a b c d p q r s : Int} {x y z u z' u' v : Int} (e1 : p * x = z) (e2 : q * y = u) (e3 : r * x = z') (e4 : s * y = u') (h1 : -1000000000 ≤ z ∧ z ≤ 1000000000) (h2 : -1000000000 ≤ u ∧ u ≤ 1000000000) (h3 : -1000000000 ≤ z' ∧ z' ≤ 1000000000) (h4 : -1000000000 ≤ u' ∧ u' ≤ 1000000000)
    (hv : vx a b c d (z + u) (z' + u') = v) (hb : -100000000000000 ≤ v ∧ v ≤ 100000000000000) : bval a b c d p q r s (x, y) = v := by
  unfold bval
  rw [e1, e2, e3, e4, i64w (n := z) (by omega), i64w (n := u) (by omega), i64w (n := z') (by omega), i64w (n := u') (by omega), i64w (n := z + u) (by omega), i64w (n := z' + u') (by omega), vl_wr, hv]
  exact wr_in (by omega)


theorem arrayAt4 (g cap : Nat) (W : World) : (Instr.arrayAt 22 (.slice (some ⟨g, 0, none⟩) 4 cap)).run Tryd.prog W = .ok (.pointer (some ⟨g, 0, none⟩)) W := by
  unfold Instr.arrayAt
  simp only [Sem.run_bind, run_underlying Tryd.underlying22, Result.andThen_ok]
  rfl
/-- What holds between two rounds. -/
def ChI (w : World) (a b c d p q r s : Int) (pre : List (Int × Int)) (W : World) : Prop :=
  ((∃ v, Boxed W (w.heap.size + 1 + 1 + 1) 33 v ∧ W.ownsRow (w.heap.size + 1 + 1 + 1 + 1) 2 1 v pre.length (pre.map fun x => Value.int .i64 (bval a b c d p q r s x)) ∧ (v = .slice none 0 0 ↔ pre = [])) ∧
    Arr W w.heap.size a b c d ∧ Arr W (w.heap.size + 1) p q r s ∧ Arr W (w.heap.size + 1 + 1) 0 0 0 0) ∧ Below w.heap.size w W



end Go.Proofs.YtmhlolimaeejfaaDoor
