/- FnRingProducts: what is known at each cut; the code behind an 'if'. -/
import Derived.Test.YtambbhldhhlfgaaZ1
import Derived.Test.YtambbhldhhlfgaaDraw19
import Derived.Test.YtambbhldhhlfgaaE10
import Derived.Test.YtambbhldhhlfgaaE13
import Derived.Test.YtambbhldhhlfgaaE15
import Derived.Test.YtambbhldhhlfgaaRpm
import Derived.Test.YtambbhldhhlfgaaRw9
import Derived.Test.YtambbhldhhlfgaaEqE
import Derived.Deep.DeepCutAuto
namespace Go.Proofs.Ytambbhldhhlfgaa
open Go.ChangeShapes Go.WideShapes Go.ChangeAt Go.RowKit

/-- The boxes of the first three, and of their product. -/
structure RpF (w : World) (jf jx jy jp : Nat) (a b c d u v x p q r P0 P1 P2 : Int) : Prop where
  F : Arr w jf a b c d
  X : Arr3 w jx u v x
  Y : Arr3 w jy p q r
  P : Arr3 w jp P0 P1 P2
theorem RpF.next {w w' : World} {jf jx jy jp : Nat} {a b c d u v x p q r P0 P1 P2 : Int} (h : RpF w jf jx jy jp a b c d u v x p q r P0 P1 P2) (hb : Below w.heap.size w w') : RpF w' jf jx jy jp a b c d u v x p q r P0 P1 P2 := ⟨h.F.next hb, h.X.next hb, h.Y.next hb, h.P.next hb⟩
/-- The boxes of a form and an element. -/
structure RpZ (w : World) (jg jz : Nat) (a b c d u v x : Int) : Prop where
  F : Arr w jg a b c d
  Z : Arr3 w jz u v x
theorem RpZ.next {w w' : World} {jg jz : Nat} {a b c d u v x : Int} (h : RpZ w jg jz a b c d u v x) (hb : Below w.heap.size w w') : RpZ w' jg jz a b c d u v x := ⟨h.F.next hb, h.Z.next hb⟩
/-- The product, and its code. -/
def RpQ (a b c d u v x p q r K P0 P1 P2 : Int) : Prop :=
  K = mec (isF a b c d && isE u v x && isE p q r) (m0 (np a c) (np a d) (np b d) u v x p q r) (m1 b 0 d u v x p q r) (m2 (ng a) 0 (ng c) u v x p q r) ∧
  P0 = if0 K (m0 (np a c) (np a d) (np b d) u v x p q r) ∧ P1 = if0 K (m1 b 0 d u v x p q r) ∧ P2 = if0 K (m2 (ng a) 0 (ng c) u v x p q r)
theorem RpQ.mul {a b c d u v x p q r K P0 P1 P2 : Int} (h : RpQ a b c d u v x p q r K P0 P1 P2) (W : World) :
    Calls Try.prog 7 #[.agg #[.int .i64 a, .int .i64 b, .int .i64 c, .int .i64 d], .agg #[.int .i64 u, .int .i64 v, .int .i64 x], .agg #[.int .i64 p, .int .i64 q, .int .i64 r]] W fun e w' => e = .returned (.tuple #[.agg #[.int .i64 P0, .int .i64 P1, .int .i64 P2], .int .i64 K]) ∧ Below W.heap.size W w' := by
  obtain ⟨h1, h2, h3, h4⟩ := h
  have := iMulE_any a b c d u v x p q r W
  rw [← h1, ← h2, ← h3, ← h4] at this
  exact this
theorem RpQ.smul {a b c d u v x p q r K P0 P1 P2 : Int} (h : RpQ a b c d u v x p q r K P0 P1 P2) (W : World) :
    Calls Try.prog 8 #[.agg #[.int .i64 a, .int .i64 b, .int .i64 c, .int .i64 d], .agg #[.int .i64 u, .int .i64 v, .int .i64 x], .agg #[.int .i64 p, .int .i64 q, .int .i64 r]] W fun e w' => e = .returned (.tuple #[.agg #[.int .i64 P0, .int .i64 P1, .int .i64 P2], .int .i64 K]) ∧ Below W.heap.size W w' := by
  obtain ⟨h1, h2, h3, h4⟩ := h
  have := sMulE_any a b c d u v x p q r W
  rw [← h1, ← h2, ← h3, ← h4] at this
  exact this
theorem RpQ.sw {a b c d u v x p q r K P0 P1 P2 : Int} (h : RpQ a b c d u v x p q r K P0 P1 P2) : RpQ a b c d p q r u v x K P0 P1 P2 := by
  obtain ⟨h1, h2, h3, h4⟩ := h
  obtain ⟨e0, e1, e2⟩ := rp_co (np a c) (np a d) (np b d) u v x p q r
  have e1 := (rp_co b 0 d u v x p q r).2.1
  have e2 := (rp_co (ng a) 0 (ng c) u v x p q r).2.2
  have e3 : (isF a b c d && isE u v x && isE p q r) = (isF a b c d && isE p q r && isE u v x) := by cases isF a b c d <;> cases isE u v x <;> cases isE p q r <;> rfl
  rw [e0, e1, e2, e3] at h1
  rw [e0] at h2; rw [e1] at h3; rw [e2] at h4
  exact ⟨h1, h2, h3, h4⟩
theorem RpQ.bad {a b c d u v x p q r K P0 P1 P2 : Int} (h : RpQ a b c d u v x p q r K P0 P1 P2) (hk : ¬ K = 0) : P0 = 0 ∧ P1 = 0 ∧ P2 = 0 := by
  obtain ⟨_, h2, h3, h4⟩ := h
  exact ⟨by rw [h2]; simp [if0, hk], by rw [h3]; simp [if0, hk], by rw [h4]; simp [if0, hk]⟩
theorem RpQ.nrm {a b c d u v x p q r K P0 P1 P2 : Int} (h : RpQ a b c d u v x p q r K P0 P1 P2) (hk : K = 0) :
    wrap64 (de3 (mtf a b c d P0 P1 P2)) = wrap64 (wrap64 (de3 (mtf a b c d u v x)) * wrap64 (de3 (mtf a b c d p q r))) := by
  obtain ⟨_, h2, h3, h4⟩ := h
  subst hk
  simp only [if0, if_true] at h2 h3 h4
  rw [h2, h3, h4]; exact rp_norm a b c d u v x p q r
/-- Norm, polynomial, trace of one element. -/
def RpC (a b c d u v x n F G t l1 l2 l3 : Int) : Prop :=
  F = few 100 a b c d u v x ∧ G = fec a b c d u v x ∧ n = if0 F (wrap64 (de3 (mtf a b c d u v x))) ∧ t = if0 G (wrap64 (tr3 (mtf a b c d u v x))) ∧
  l1 = wrap64 (-tr3 (mtf a b c d u v x)) ∧ l2 = wrap64 (mi3 (mtf a b c d u v x)) ∧ l3 = wrap64 (-de3 (mtf a b c d u v x))
theorem wr_ng (y : Int) : wrap64 (-wrap64 y) = wrap64 (-y) := by
  have := wr_sr 0 y
  rwa [Int.zero_sub, Int.zero_sub] at this
theorem RpC.ok {a b c d u v x n F G t l1 l2 l3 : Int} (h : RpC a b c d u v x n F G t l1 l2 l3) (hF : F = 0) : wrap64 (-t) = l1 ∧ wrap64 (-n) = l3 := by
  obtain ⟨h1, h2, h3, h4, h5, h6, h7⟩ := h
  have hG : G = 0 := by
    rw [h2]
    rw [hF] at h1
    unfold few at h1; unfold fec
    split at h1
    · rename_i q; rw [if_pos q]
    · cases h1
  rw [hF] at h3; rw [hG] at h4
  simp only [if0, if_true] at h3 h4
  exact ⟨by rw [h4, wr_ng, h5], by rw [h3, wr_ng, h7]⟩
theorem RpC.sum {a b c d u v x n F G t l1 l2 l3 : Int} (h : RpC a b c d u v x n F G t l1 l2 l3) (hG : G = 0) :
    wrap64 (wrap64 (mtf a b c d u v x 0 0 + mtf a b c d u v x 1 1) + mtf a b c d u v x 2 2) = t := by
  obtain ⟨_, _, _, h4, _⟩ := h
  rw [hG] at h4
  simp only [if0, if_true] at h4
  rw [h4, wr_al]; rfl
/-- An element solves its polynomial. -/
theorem RpC.ch {a b c d u v x n F G t l1 l2 l3 s0 s1 s2 t0 t1 t2 K K' : Int} (h : RpC a b c d u v x n F G t l1 l2 l3) (q1 : RpQ a b c d u v x u v x K s0 s1 s2) (q2 : RpQ a b c d s0 s1 s2 u v x K' t0 t1 t2) (hK : K = 0) (hK' : K' = 0) :
    wrap64 (wrap64 (wrap64 (t0 + wrap64 (l1 * s0)) + wrap64 (l2 * u)) + l3) = 0 ∧ wrap64 (wrap64 (t1 + wrap64 (l1 * s1)) + wrap64 (l2 * v)) = 0 ∧ wrap64 (wrap64 (t2 + wrap64 (l1 * s2)) + wrap64 (l2 * x)) = 0 := by
  obtain ⟨_, _, _, _, h5, h6, h7⟩ := h
  obtain ⟨_, e0, e1, e2⟩ := q1
  obtain ⟨_, f0, f1, f2⟩ := q2
  subst hK; subst hK'
  simp only [if0, if_true] at e0 e1 e2 f0 f1 f2
  obtain ⟨r0, r1, r2⟩ := rp_ch h5 h6 h7 e0 e1 e2
  rw [← f0] at r0; rw [← f1] at r1; rw [← f2] at r2
  simp only [wr_al, wr_ar]
  exact ⟨r0, r1, r2⟩
theorem wr3q (x y z : Int) : wrap64 (x + y + z) = wrap64 (wrap64 (x + y) + z) := (wr_al _ _).symm
/-- The code behind the 'if' whose test lies in slot t; that 'if' itself. -/
def rhas (t : Nat) : Code → Bool
  | .cond (.tmp k) _ _ => k == t
  | .seq a b => rhas t a || rhas t b
  | .block _ c => rhas t c
  | _ => false
def rafter (t : Nat) : Code → Code
  | .seq a b => if rhas t a then b else rafter t b
  | .scope c => rafter t c
  | _ => .skip
noncomputable def rseg (t : Nat) : Code := rafter t (Try.f3.body.getD .skip)
theorem heqE : ∀ (a b c p q r : Int) (w : World), (Op.equalIn 10000 27 (.agg #[.int .i64 a, .int .i64 b, .int .i64 c]) (.agg #[.int .i64 p, .int .i64 q, .int .i64 r])).run Try.prog w = .ok (eq3 a b c p q r) w := eqElem_run
theorem eq3_rf (a b c : Int) : eq3 a b c a b c = true := by simp [eq3]

end Go.Proofs.Ytambbhldhhlfgaa
