/- FnRingTables: what is known at each cut; the code behind an 'if'. -/
import Derived.Test.YtdogkkmdccieiaaDoorZ16
import Derived.Test.YtdogkkmdccieiaaDoorStm
import Derived.Test.YtdogkkmdccieiaaDoorIx
import Derived.Test.YtdogkkmdccieiaaDoorIz
import Derived.Test.YtdogkkmdccieiaaDoorZ6
import Derived.Test.YtdogkkmdccieiaaDoorE12
import Derived.Test.YtdogkkmdccieiaaDoorZ13
import Derived.Test.YtdogkkmdccieiaaDoorZ18
import Derived.Test.YtdogkkmdccieiaaDoorZ23
import Derived.Test.YtdogkkmdccieiaaDoorZ11
import Derived.Test.YtdogkkmdccieiaaDoorZ25
import Derived.Test.YtdogkkmdccieiaaDoorDraw24
import Derived.Test.YtdogkkmdccieiaaDoorZ28
import Derived.Deep.DeepCutAuto
namespace Go.Proofs.YtdogkkmdccieiaaDoor
open Go.ChangeShapes Go.WideShapes Go.ChangeAt Go.RowKit

/-- The boxes of a form and an element. -/
structure RtZ (w : World) (jg jz : Nat) (a b c d u v x : Int) : Prop where
  F : Arr w jg a b c d
  Z : Arr3 w jz u v x
theorem RtZ.next {w w' : World} {jg jz : Nat} {a b c d u v x : Int} (h : RtZ w jg jz a b c d u v x) (hb : Below w.heap.size w w') : RtZ w' jg jz a b c d u v x := ⟨h.F.next hb, h.Z.next hb⟩
/-- The boxes of a form and two elements. -/
structure RtY (w : World) (jg jz ji : Nat) (a b c d u v x i j k : Int) : Prop where
  F : Arr w jg a b c d
  Z : Arr3 w jz u v x
  I : Arr3 w ji i j k
theorem RtY.next {w w' : World} {jg jz ji : Nat} {a b c d u v x i j k : Int} (h : RtY w jg jz ji a b c d u v x i j k) (hb : Below w.heap.size w w') : RtY w' jg jz ji a b c d u v x i j k := ⟨h.F.next hb, h.Z.next hb, h.I.next hb⟩
/-- An index is the value, or its negative. -/
def RtV (a b c d _u v x n K : Int) : Prop := (K = 0 → plc a b c d v x = 0 ∧ (va0 a b c d v x = n ∨ (¬ va0 a b c d v x = n ∧ wrap64 (-n) = va0 a b c d v x))) ∧ (¬ K = 0 → n = 0)
theorem RtV.mk' (a b c d u v x : Int) : RtV a b c d u v x (if0 (ixc (fec a b c d u v x) (vl a b c d v x)) (mx (vl a b c d v x))) (ixc (fec a b c d u v x) (vl a b c d v x)) := by
  refine ⟨fun h => ?_, fun h => by simp [if0, h]⟩
  obtain ⟨h1, h2⟩ := ix_law h
  have e1 : va0 a b c d v x = vl a b c d v x := by unfold va0; rw [if_pos h1]
  have e2 : if0 (ixc (fec a b c d u v x) (vl a b c d v x)) (mx (vl a b c d v x)) = mx (vl a b c d v x) := by rw [h]; rfl
  rw [e1, e2]
  exact ⟨h1, h2⟩
/-- A unit times its inverse. -/
def RtI (a b c d u v x n0 n1 n2 K : Int) : Prop := K = 0 → ∀ W, Calls Tryd.prog 26 #[.agg #[.int .i64 a, .int .i64 b, .int .i64 c, .int .i64 d], .agg #[.int .i64 u, .int .i64 v, .int .i64 x], .agg #[.int .i64 n0, .int .i64 n1, .int .i64 n2]] W fun e w' => e = .returned (.tuple #[.agg #[.int .i64 1, .int .i64 0, .int .i64 0], .int .i64 0]) ∧ Below W.heap.size W w'
theorem RtI.mk' (a b c d u v x : Int) : RtI a b c d u v x (if0 (ivc a b c d u v x) (iv0 a b c d u v x)) (if0 (ivc a b c d u v x) (iv1 a b c d u v x)) (if0 (ivc a b c d u v x) (iv2 a b c d u v x)) (ivc a b c d u v x) := by
  intro h W
  obtain ⟨⟨h1, h2⟩, h3, h4, h5, h6⟩ := iv_law h
  have e : ∀ y : Int, if0 (ivc a b c d u v x) y = y := fun y => by rw [h]; rfl
  rw [e, e, e]
  have hm := iMulE_any a b c d u v x (iv0 a b c d u v x) (iv1 a b c d u v x) (iv2 a b c d u v x) W
  rw [h1, h2, h3, h4, h5, h6] at hm
  exact hm
/-- The discriminant of an element is its polynomial's. -/
def RtD (a b c d u v x n K : Int) : Prop := K = 0 → ∃ l1 l2 l3 : Int, (∀ W, Calls Tryd.prog 24 #[.agg #[.int .i64 a, .int .i64 b, .int .i64 c, .int .i64 d], .agg #[.int .i64 u, .int .i64 v, .int .i64 x]] W (LstOut 0 4 (q4 1 l1 l2 l3) W)) ∧ dsc 1 l1 l2 l3 = n
theorem RtD.mk' (a b c d u v x : Int) : RtD a b c d u v x (if0 (few 10 a b c d u v x) (dve a b c d v x)) (few 10 a b c d u v x) := by
  intro h
  obtain ⟨h1, h2, h3, h4⟩ := few_t h
  refine ⟨wrap64 (-tr3 (mtf a b c d u v x)), wrap64 (mi3 (mtf a b c d u v x)), wrap64 (-de3 (mtf a b c d u v x)), fun W => ?_, ?_⟩
  rotate_left 1
  · rw [disc_prog h2 h3 h4, h]; rfl
  · have := iPolyE_any a b c d u v x W
    rw [few_100 h] at this
    exact this
/-- The form of the table of a form. -/
def RtT (a b c d K : Int) : Prop := K = 0 → ∃ p q r s K' : Int, (∀ v W, RdW W v 3 (g9 (np a c) b (ng a) (np a d) 0 0 (np b d) d (ng c)) → Calls Tryd.prog 20 #[v] W fun e w' => e = .returned (.tuple #[.agg #[.int .i64 p, .int .i64 q, .int .i64 r, .int .i64 s], .int .i64 K']) ∧ Below W.heap.size W w') ∧ (K' = 2 ∨ (K' = 0 ∧ p = a ∧ q = b ∧ r = c ∧ s = d))
theorem RtT.mk' (a b c d : Int) : RtT a b c d (toc a b c d) := by
  intro h
  refine ⟨_, _, _, _, _, fun v W hv => iFOT_any v 3 _ W hv, ?_⟩
  rcases tb_back h with e | ⟨e, e1, e2, e3⟩
  · exact .inl e
  · refine .inr ⟨e, ?_, ?_, ?_, ?_⟩
    · rw [e]; exact e1
    · rw [e]; exact e2
    · rw [e]; exact e3
    · rw [e]; rfl
theorem RdW.nextw {w w' : World} {v : Value} {n : Nat} {g : Nat → Int} (h : RdW w v n g) (hb : Below w.heap.size w w') : RdW w' v n g := by
  rcases h with h | ⟨b, cap, h1, h2, h3, h4, h5⟩
  · exact .inl h
  · exact .inr ⟨b, cap, h1, h2, h3, Nat.lt_of_lt_of_le h4 hb.size, fun i hi => (hb.cell (p := ⟨b, i, none⟩) h4).trans (h5 i hi)⟩
set_option maxRecDepth 100000 in
set_option maxHeartbeats 1000000 in
theorem drawFT_any (a : Option Addr) (len cap : Nat) (zs : List Int) (w : World) (hR : IsRow .u8 w a len cap zs) (hlen : len ≤ 9223372036854775807) :
    Calls Tryd.prog 19 #[.slice a len cap] w (ElsW w) := by
  go_enter Tryd.func19, Tryd.ntmps19
  go_wp2_with fail
  refine (drawTb_any a len cap zs w hR hlen).mono ?_
  rintro e w1 ⟨v, n, g, rfl, h4, hW, hb⟩
  go_wp2_with fail
  go_ret
  exact ⟨v, n, g, rfl, h4, hW, hb⟩
/-- The code behind the 'if' whose test lies in slot t. -/
def rhas (t : Nat) : Code → Bool
  | .cond (.tmp k) _ _ => k == t
  | .seq a b => rhas t a || rhas t b
  | .block _ c => rhas t c
  | _ => false
def rafter (t : Nat) : Code → Code
  | .seq a b => if rhas t a then b else rafter t b
  | .scope c => rafter t c
  | _ => .skip
noncomputable def tseg (t : Nat) : Code := rafter t (Tryd.f3.body.getD .skip)
theorem heqE : ∀ (a b c p q r : Int) (w : World), (Op.equalIn 10000 27 (.agg #[.int .i64 a, .int .i64 b, .int .i64 c]) (.agg #[.int .i64 p, .int .i64 q, .int .i64 r])).run Tryd.prog w = .ok (eq3 a b c p q r) w := eqElem_run
theorem heqF : ∀ (a b c d p q r s : Int) (w : World), (Op.equalIn 10000 25 (.agg #[.int .i64 a, .int .i64 b, .int .i64 c, .int .i64 d]) (.agg #[.int .i64 p, .int .i64 q, .int .i64 r, .int .i64 s])).run Tryd.prog w = .ok (a == p && b == q && c == r && d == s) w := eqForm_run

end Go.Proofs.YtdogkkmdccieiaaDoor
