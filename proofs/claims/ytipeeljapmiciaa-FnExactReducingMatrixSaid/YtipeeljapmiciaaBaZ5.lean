/- Several texts in one: XMath, XRound. -/
import Derived.Test.YtipeeljapmiciaaBaZ1
import Derived.RangeFuncNested
import Derived.RangeFuncBound
import Derived.RangeFuncCalls
import Derived.RangeFuncLeaves
import Derived.RangeFuncBox
import Derived.RangeFuncMany
import Derived.Shelf.Abstract
import Derived.Shelf.RegionOpen
import Derived.OwnWalkIn
import Derived.TacticsInMore
import Derived.LoopNIn
import Derived.LoopIn
import Derived.Maps.AppendAt
import Derived.Deep.RegionHeld3

/- Plain mathematics: int64's sums and products as whole numbers; forms changed by matrices. No Go function in sight. -/
namespace Go.Proofs.Ytipeeljapmiciaa
open Go.RowKit

theorem wr_b (x : Int) : wrap64 x = Int.bmod x 18446744073709551616 := by
  unfold wrap64 Int.bmod; dsimp only; split <;> omega
theorem wr_al (x y : Int) : wrap64 (wrap64 x + y) = wrap64 (x + y) := by simp only [wr_b, Int.bmod_add_bmod]
theorem wr_ar (x y : Int) : wrap64 (x + wrap64 y) = wrap64 (x + y) := by simp only [wr_b, Int.add_bmod_bmod]
theorem wr_sl (x y : Int) : wrap64 (wrap64 x - y) = wrap64 (x - y) := by simp only [wr_b, Int.bmod_sub_bmod]
theorem wr_sr (x y : Int) : wrap64 (x - wrap64 y) = wrap64 (x - y) := by simp only [wr_b, Int.sub_bmod_bmod]
theorem wr_ml (x y : Int) : wrap64 (wrap64 x * y) = wrap64 (x * y) := by simp only [wr_b, Int.bmod_mul_bmod]
theorem wr_mr (x y : Int) : wrap64 (x * wrap64 y) = wrap64 (x * y) := by simp only [wr_b, Int.mul_bmod_bmod]
theorem wr_n (x : Int) : wrap64 (-wrap64 x) = wrap64 (-x) := by have := wr_sr 0 x; simpa using this
theorem wr_in {x : Int} (h : -9000000000000000000 ≤ x ∧ x ≤ 9000000000000000000) : wrap64 x = x := IntWalk.wrap64_in x (by omega)

theorem mulb {x y A B : Int} (hx : -A ≤ x ∧ x ≤ A) (hy : -B ≤ y ∧ y ≤ B) : -(A * B) ≤ x * y ∧ x * y ≤ A * B := by
  have hA : 0 ≤ A := by omega
  have h : (x * y).natAbs ≤ A.natAbs * B.natAbs := by
    rw [Int.natAbs_mul]; exact Nat.mul_le_mul (by omega) (by omega)
  have e : ((A.natAbs * B.natAbs : Nat) : Int) = A * B := by
    rw [Int.natCast_mul, Int.natAbs_of_nonneg hA, Int.natAbs_of_nonneg (by omega)]
  omega
theorem mulb4 {x y z u A B C D : Int} (hx : -A ≤ x ∧ x ≤ A) (hy : -B ≤ y ∧ y ≤ B) (hz : -C ≤ z ∧ z ≤ C) (hu : -D ≤ u ∧ u ≤ D) : -(A * B * C * D) ≤ x * y * z * u ∧ x * y * z * u ≤ A * B * C * D := mulb (mulb (mulb hx hy) hz) hu

/-- a x^3 + b x^2 y + c x y^2 + d y^3. -/
def vx (a b c d x y : Int) : Int := a * x * x * x + b * x * x * y + c * x * y * y + d * y * y * y
theorem vl_wr (a b c d x y : Int) : vl a b c d x y = wrap64 (vx a b c d x y) := by
  simp only [vl, pl, mu, wr_al, wr_ar, wr_ml, vx]
theorem vx_bd {a b c d x y A B : Int} (ha : -A ≤ a ∧ a ≤ A) (hb : -A ≤ b ∧ b ≤ A) (hc : -A ≤ c ∧ c ≤ A) (hd : -A ≤ d ∧ d ≤ A) (hx : -B ≤ x ∧ x ≤ B) (hy : -B ≤ y ∧ y ≤ B) :
    -(4 * (A * B * B * B)) ≤ vx a b c d x y ∧ vx a b c d x y ≤ 4 * (A * B * B * B) := by
  have e1 := mulb4 ha hx hx hx
  have e2 := mulb4 hb hx hx hy
  have e3 := mulb4 hc hx hy hy
  have e4 := mulb4 hd hy hy hy
  unfold vx; omega
theorem vl_eq {a b c d x y : Int} (ha : -1000 ≤ a ∧ a ≤ 1000) (hb : -1000 ≤ b ∧ b ≤ 1000) (hc : -1000 ≤ c ∧ c ≤ 1000) (hd : -1000 ≤ d ∧ d ≤ 1000) (hx : -10000 ≤ x ∧ x ≤ 10000) (hy : -10000 ≤ y ∧ y ≤ 10000) : vl a b c d x y = vx a b c d x y := by
  rw [vl_wr]; have := vx_bd ha hb hc hd hx hy; exact wr_in (by omega)

/-- The four numbers of a form changed by a matrix. -/
def cA (a b c d p r : Int) : Int := vx a b c d p r
def cB (a b c d p q r s : Int) : Int := 3 * a * p * p * q + b * (2 * p * q * r + p * p * s) + c * (q * r * r + 2 * p * r * s) + 3 * d * r * r * s
def cC (a b c d p q r s : Int) : Int := 3 * a * p * q * q + b * (2 * p * q * s + q * q * r) + c * (p * s * s + 2 * q * r * s) + 3 * d * r * s * s
theorem ch_sum (a b c d p q r s : Int) : vx a b c d (p + q) (r + s) = cA a b c d p r + cB a b c d p q r s + cC a b c d p q r s + cA a b c d q s := by
  unfold vx cA cB cC vx; grind
theorem ch_dif (a b c d p q r s : Int) : vx a b c d (p - q) (r - s) = cA a b c d p r - cB a b c d p q r s + cC a b c d p q r s - cA a b c d q s := by
  unfold vx cA cB cC vx; grind
/-- The numbers of a changed form follow from its values at the base places. -/
theorem ch_b (a b c d p q r s : Int) : vx a b c d (p + q) (r + s) - vx a b c d (p - q) (r - s) - 2 * vx a b c d q s = 2 * cB a b c d p q r s := by
  rw [ch_sum, ch_dif]; unfold cA; omega
theorem ch_c (a b c d p q r s : Int) : vx a b c d (p + q) (r + s) + vx a b c d (p - q) (r - s) - 2 * vx a b c d p r = 2 * cC a b c d p q r s := by
  rw [ch_sum, ch_dif]; unfold cA; omega
theorem cB_bd {a b c d p q r s : Int} (ha : -1000 ≤ a ∧ a ≤ 1000) (hb : -1000 ≤ b ∧ b ≤ 1000) (hc : -1000 ≤ c ∧ c ≤ 1000) (hd : -1000 ≤ d ∧ d ≤ 1000) (hp : -1000 ≤ p ∧ p ≤ 1000) (hq : -1000 ≤ q ∧ q ≤ 1000) (hr : -1000 ≤ r ∧ r ≤ 1000) (hs : -1000 ≤ s ∧ s ≤ 1000) :
    (-36000000000000 ≤ cB a b c d p q r s ∧ cB a b c d p q r s ≤ 36000000000000) ∧ (-36000000000000 ≤ cC a b c d p q r s ∧ cC a b c d p q r s ≤ 36000000000000) := by
  have h1 := ch_b a b c d p q r s
  have h2 := ch_c a b c d p q r s
  have v1 := vx_bd ha hb hc hd (x := p + q) (y := r + s) (B := 2000) (by omega) (by omega)
  have v2 := vx_bd ha hb hc hd (x := p - q) (y := r - s) (B := 2000) (by omega) (by omega)
  have v3 := vx_bd ha hb hc hd hq hs
  have v4 := vx_bd ha hb hc hd hp hr
  simp only [Int.reduceMul] at v1 v2 v3 v4
  omega
theorem vx_bd2 {a b c d x y A B : Int} (ha : -A ≤ a ∧ a ≤ A) (hb : -A ≤ b ∧ b ≤ A) (hc : -A ≤ c ∧ c ≤ A) (hd : -A ≤ d ∧ d ≤ A) (hx : -(2 * B) ≤ x ∧ x ≤ 2 * B) (hy : -(2 * B) ≤ y ∧ y ≤ 2 * B) (hAB : 32 * (A * B * B * B) ≤ 100000000000000) :
    -100000000000000 ≤ vx a b c d x y ∧ vx a b c d x y ≤ 100000000000000 := by
  have h := vx_bd ha hb hc hd hx hy
  have e : 4 * (A * (2 * B) * (2 * B) * (2 * B)) = 32 * (A * B * B * B) := by grind
  omega
/-- The discriminant, as a whole number. -/
def dx (a b c d : Int) : Int := b * b * c * c - 4 * a * c * c * c - 4 * b * b * b * d - 27 * a * a * d * d + 18 * a * b * c * d
theorem dsc_wr (a b c d : Int) : dsc a b c d = wrap64 (dx a b c d) := by
  simp only [dsc, pl, mi, mu, wr_al, wr_ar, wr_sl, wr_sr, wr_ml, dx]

end Go.Proofs.Ytipeeljapmiciaa

/- A region that draws its order, in the body of a loop over an iterator: by the plain theory of regions with held facts. No Go function in sight. -/
namespace Go.Proofs.Ytipeeljapmiciaa
open Go.RowKit Go.Shelf

theorem rows_in {l n : Nat} {P : Program} {row : String} {args : Array Value} {w : World} {R : Value → World → Prop} (h : Rows P row args w R) : RowsIn (Fence.wide.inRound l) n P row args w R :=
  fun c cs _ => let ⟨v, w', r, s⟩ := h c cs; ⟨v, w', r, stepsIn_wide.2 s⟩
theorem upon_in {l n : Nat} {P : Program} {o : Oper} {a : Act} {next : Act → World → Prop} {Q : Exit → Act → World → Prop} {r : Result Next} (h : o.upon P a next Q r) : o.uponIn (Fence.wide.inRound l) n P a next Q r := by
  cases r with
  | ok x w =>
    cases x <;> simp only [Oper.upon, Oper.uponIn] at h ⊢
    all_goals first
      | exact h
      | exact ⟨fun h => by simp [Fence.wide] at h, CallsIn.inRound l (callsIn_wide.2 h)⟩
      | exact ⟨fun h => by simp [Fence.wide] at h, rows_in h⟩
      | exact h.elim
  | halt x w =>
    cases x <;> simp only [Oper.upon, Oper.uponIn] at h ⊢ <;> exact h
theorem wp_in {l n : Nat} {P : Program} {o : Oper} {a : Act} {w : World} {next : Act → World → Prop} {Q : Exit → Act → World → Prop} (hd : ∀ c, o.op ≠ .defer c) (h : o.wp P a w next Q) : o.wpIn (Fence.wide.inRound l) n P a w next Q :=
  ⟨fun _ _ => trivial, by rw [Fence.inRound_round, Oper.semAt_some l _ _ hd]; exact upon_in h⟩
theorem wpAny_in {l n : Nat} {P : Program} {md : Region.Mode} {ops : Array Oper} {Q : Exit → Act → World → Prop} (hd : ∀ (i : Nat) (o : Oper), ops[i]? = some o → ∀ c, o.op ≠ .defer c) (hL : ¬ LetsOut Q) :
    ∀ (fuel : Nat) (listed : Array Bool) (a : Act) (w : World), wpAny P md ops Q fuel listed a w → wpAnyIn (Fence.wide.inRound l) n P md ops Q fuel listed a w
  | 0, _, _, _, h => h
  | fuel + 1, listed, a, w, h => by
    refine ⟨h.1, fun i hi => ?_⟩
    have h1 := h.2 i hi
    unfold wpOpIn
    unfold wpOp at h1
    cases ho : ops[i]? with
    | none => simp only [ho] at h1 ⊢; exact wpAny_in hd hL fuel _ _ _ h1
    | some o =>
      simp only [ho] at h1 ⊢
      split
      · rename_i hw
        simp only [hw, if_true] at h1
        rcases h1 with h1 | h1
        · exact Oper.wpIn_mono (fun a w h => wpAny_in hd hL fuel _ _ _ h) (wp_in (hd i o ho) h1)
        · exact absurd h1.2 hL
      · rename_i hw
        simp only [hw] at h1
        exact ⟨fun _ _ => trivial, wpAny_in hd hL fuel _ _ _ h1⟩
/-- A region without a 'defer' in a round: by the plain theory. -/
theorem wpIn_region_held {l n id : Nat} {P : Program} {ops : Array Oper} {Q : Exit → Act → World → Prop} {a : Act} {w : World} (S : World → Prop) (hm : P.follows .mixedOrders = true)
    (hd : ∀ (i : Nat) (o : Oper), ops[i]? = some o → ∀ c, o.op ≠ .defer c) (hL : ¬ LetsOut Q) (hS : S w.drew)
    (h : S w.drew → wpAnyH P .any ops Q S ops.size (Array.replicate ops.size false) a w.drew) : (Code.region id ops true).wpIn (Fence.wide.inRound l) n P Q a w :=
  wpIn_region_any hm (wpAny_in hd hL _ _ _ _ (wpAny_of_held _ _ _ _ (h hS)))
theorem ownPostG_in {α : Type} {B : Nat} {Kp : World → World → Prop} {I : List α → World → Prop} {Ix : Code → List α → World → Prop} {xs : List α} {W : World} : ¬ LetsOut (ownPostG B Kp I Ix xs W) := fun ⟨_, _, h⟩ => h
def noDefer (o : Oper) : Bool := match o.op with | .defer _ => false | _ => true
theorem noDefer_all {ops : Array Oper} (h : ops.toList.all noDefer = true) : ∀ (i : Nat) (o : Oper), ops[i]? = some o → ∀ c, o.op ≠ .defer c := fun i o ho c e => by
  have hm : o ∈ ops.toList := by simpa using Array.mem_of_getElem? ho
  have := List.all_eq_true.1 h o hm
  simp [noDefer, e] at this

theorem row_next {w w' : World} {base : Nat} {e : TypeId} {size : Nat} {v : Value} {n : Nat} {xs : List Value} (h : w.ownsRow base e size v n xs) (hb : Below w.heap.size w w') : w'.ownsRow base e size v n xs := by
  refine ⟨h.1, ?_⟩
  rcases h.2 with h | ⟨g, cap, cur, h1, h2, h3, h4⟩
  · exact .inl h
  · exact .inr ⟨g, cap, cur, h1, h2, (hb.block g (Array.getElem?_eq_some_iff.1 h3).1).trans h3, h4⟩
theorem box_next {w w' : World} {B : Nat} {t : TypeId} {v : Value} (h : Boxed w B t v) (hb : Below w.heap.size w w') : Boxed w' B t v := (hb.block B h.lt).trans h
theorem keeps_next {w w' : World} (hb : Below w.heap.size w w') : KeepsOthers w w' := ⟨hb.size, fun k _ hk _ => (hb.block k (Array.getElem?_eq_some_iff.1 hk).1).trans hk⟩

end Go.Proofs.Ytipeeljapmiciaa
