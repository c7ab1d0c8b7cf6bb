/- Several texts in one: XC1k, XMath, XList, XList2, XArr3. -/
import Derived.Test.YtehbkmohfipmgaaBtZ2
import Derived.Test.YtehbkmohfipmgaaBtZ1
import Derived.Deep.OwnRows

/- What the laws themselves call: copies, comparisons. -/
namespace Go.Proofs.Ytehbkmohfipmgaa
open Go.RowKit







end Go.Proofs.Ytehbkmohfipmgaa

/- Plain mathematics: int64's sums and products as whole numbers; forms changed by matrices. No Go function in sight. -/
namespace Go.Proofs.Ytehbkmohfipmgaa
open Go.RowKit

theorem wr_b (x : Int) : wrap64 x = Int.bmod x 18446744073709551616 := by
  unfold wrap64 Int.bmod; dsimp only; split <;> omega
theorem wr_al (x y : Int) : wrap64 (wrap64 x + y) = wrap64 (x + y) := by simp only [wr_b, Int.bmod_add_bmod]
theorem wr_ar (x y : Int) : wrap64 (x + wrap64 y) = wrap64 (x + y) := by simp only [wr_b, Int.add_bmod_bmod]
theorem wr_sl (x y : Int) : wrap64 (wrap64 x - y) = wrap64 (x - y) := by simp only [wr_b, Int.bmod_sub_bmod]
theorem wr_sr (x y : Int) : wrap64 (x - wrap64 y) = wrap64 (x - y) := by simp only [wr_b, Int.sub_bmod_bmod]
theorem wr_ml (x y : Int) : wrap64 (wrap64 x * y) = wrap64 (x * y) := by simp only [wr_b, Int.bmod_mul_bmod]
theorem wr_mr (x y : Int) : wrap64 (x * wrap64 y) = wrap64 (x * y) := by simp only [wr_b, Int.mul_bmod_bmod]
theorem wr_n (x : Int) : wrap64 (-wrap64 x) = wrap64 (-x) := by have := wr_sr 0 x; simpa using this
theorem wr_in {x : Int} (h : -9000000000000000000 ≤ x ∧ x ≤ 9000000000000000000) : wrap64 x = x := IntWalk.wrap64_in x (by omega)

theorem mulb {x y A B : Int} (hx : -A ≤ x ∧ x ≤ A) (hy : -B ≤ y ∧ y ≤ B) : -(A * B) ≤ x * y ∧ x * y ≤ A * B := by
  have hA : 0 ≤ A := by omega
  have h : (x * y).natAbs ≤ A.natAbs * B.natAbs := by
    rw [Int.natAbs_mul]; exact Nat.mul_le_mul (by omega) (by omega)
  have e : ((A.natAbs * B.natAbs : Nat) : Int) = A * B := by
    rw [Int.natCast_mul, Int.natAbs_of_nonneg hA, Int.natAbs_of_nonneg (by omega)]
  omega
theorem mulb4 {x y z u A B C D : Int} (hx : -A ≤ x ∧ x ≤ A) (hy : -B ≤ y ∧ y ≤ B) (hz : -C ≤ z ∧ z ≤ C) (hu : -D ≤ u ∧ u ≤ D) : -(A * B * C * D) ≤ x * y * z * u ∧ x * y * z * u ≤ A * B * C * D := mulb (mulb (mulb hx hy) hz) hu

/-- a x^3 + b x^2 y + c x y^2 + d y^3. -/
def vx (a b c d x y : Int) : Int := a * x * x * x + b * x * x * y + c * x * y * y + d * y * y * y
theorem vl_wr (a b c d x y : Int) : vl a b c d x y = wrap64 (vx a b c d x y) := by
  simp only [vl, pl, mu, wr_al, wr_ar, wr_ml, vx]
theorem vx_bd {a b c d x y A B : Int} (ha : -A ≤ a ∧ a ≤ A) (hb : -A ≤ b ∧ b ≤ A) (hc : -A ≤ c ∧ c ≤ A) (hd : -A ≤ d ∧ d ≤ A) (hx : -B ≤ x ∧ x ≤ B) (hy : -B ≤ y ∧ y ≤ B) :
    -(4 * (A * B * B * B)) ≤ vx a b c d x y ∧ vx a b c d x y ≤ 4 * (A * B * B * B) := by
  have e1 := mulb4 ha hx hx hx
  have e2 := mulb4 hb hx hx hy
  have e3 := mulb4 hc hx hy hy
  have e4 := mulb4 hd hy hy hy
  unfold vx; omega
theorem vl_eq {a b c d x y : Int} (ha : -1000 ≤ a ∧ a ≤ 1000) (hb : -1000 ≤ b ∧ b ≤ 1000) (hc : -1000 ≤ c ∧ c ≤ 1000) (hd : -1000 ≤ d ∧ d ≤ 1000) (hx : -10000 ≤ x ∧ x ≤ 10000) (hy : -10000 ≤ y ∧ y ≤ 10000) : vl a b c d x y = vx a b c d x y := by
  rw [vl_wr]; have := vx_bd ha hb hc hd hx hy; exact wr_in (by omega)

/-- The four numbers of a form changed by a matrix. -/
def cA (a b c d p r : Int) : Int := vx a b c d p r
def cB (a b c d p q r s : Int) : Int := 3 * a * p * p * q + b * (2 * p * q * r + p * p * s) + c * (q * r * r + 2 * p * r * s) + 3 * d * r * r * s
def cC (a b c d p q r s : Int) : Int := 3 * a * p * q * q + b * (2 * p * q * s + q * q * r) + c * (p * s * s + 2 * q * r * s) + 3 * d * r * s * s
theorem ch_sum (a b c d p q r s : Int) : vx a b c d (p + q) (r + s) = cA a b c d p r + cB a b c d p q r s + cC a b c d p q r s + cA a b c d q s := by
  unfold vx cA cB cC vx; grind
theorem ch_dif (a b c d p q r s : Int) : vx a b c d (p - q) (r - s) = cA a b c d p r - cB a b c d p q r s + cC a b c d p q r s - cA a b c d q s := by
  unfold vx cA cB cC vx; grind
/-- The numbers of a changed form follow from its values at the base places. -/
theorem ch_b (a b c d p q r s : Int) : vx a b c d (p + q) (r + s) - vx a b c d (p - q) (r - s) - 2 * vx a b c d q s = 2 * cB a b c d p q r s := by
  rw [ch_sum, ch_dif]; unfold cA; omega
theorem ch_c (a b c d p q r s : Int) : vx a b c d (p + q) (r + s) + vx a b c d (p - q) (r - s) - 2 * vx a b c d p r = 2 * cC a b c d p q r s := by
  rw [ch_sum, ch_dif]; unfold cA; omega
theorem cB_bd {a b c d p q r s : Int} (ha : -1000 ≤ a ∧ a ≤ 1000) (hb : -1000 ≤ b ∧ b ≤ 1000) (hc : -1000 ≤ c ∧ c ≤ 1000) (hd : -1000 ≤ d ∧ d ≤ 1000) (hp : -1000 ≤ p ∧ p ≤ 1000) (hq : -1000 ≤ q ∧ q ≤ 1000) (hr : -1000 ≤ r ∧ r ≤ 1000) (hs : -1000 ≤ s ∧ s ≤ 1000) :
    (-36000000000000 ≤ cB a b c d p q r s ∧ cB a b c d p q r s ≤ 36000000000000) ∧ (-36000000000000 ≤ cC a b c d p q r s ∧ cC a b c d p q r s ≤ 36000000000000) := by
  have h1 := ch_b a b c d p q r s
  have h2 := ch_c a b c d p q r s
  have v1 := vx_bd ha hb hc hd (x := p + q) (y := r + s) (B := 2000) (by omega) (by omega)
  have v2 := vx_bd ha hb hc hd (x := p - q) (y := r - s) (B := 2000) (by omega) (by omega)
  have v3 := vx_bd ha hb hc hd hq hs
  have v4 := vx_bd ha hb hc hd hp hr
  simp only [Int.reduceMul] at v1 v2 v3 v4
  omega
theorem vx_bd2 {a b c d x y A B : Int} (ha : -A ≤ a ∧ a ≤ A) (hb : -A ≤ b ∧ b ≤ A) (hc : -A ≤ c ∧ c ≤ A) (hd : -A ≤ d ∧ d ≤ A) (hx : -(2 * B) ≤ x ∧ x ≤ 2 * B) (hy : -(2 * B) ≤ y ∧ y ≤ 2 * B) (hAB : 32 * (A * B * B * B) ≤ 100000000000000) :
    -100000000000000 ≤ vx a b c d x y ∧ vx a b c d x y ≤ 100000000000000 := by
  have h := vx_bd ha hb hc hd hx hy
  have e : 4 * (A * (2 * B) * (2 * B) * (2 * B)) = 32 * (A * B * B * B) := by grind
  omega
/-- The discriminant, as a whole number. -/
def dx (a b c d : Int) : Int := b * b * c * c - 4 * a * c * c * c - 4 * b * b * b * d - 27 * a * a * d * d + 18 * a * b * c * d
theorem dsc_wr (a b c d : Int) : dsc a b c d = wrap64 (dx a b c d) := by
  simp only [dsc, pl, mi, mu, wr_al, wr_ar, wr_sl, wr_sr, wr_ml, dx]

end Go.Proofs.Ytehbkmohfipmgaa

/- Lists of integers: copies, comparisons. -/
namespace Go.Proofs.Ytehbkmohfipmgaa
open Go.ChangeShapes Go.WideShapes Go.ChangeAt Go.RowKit

theorem info_l64 : (Try.prog.info? 2).map (fun i => (i.zero, i.size, i.bytes)) = some (some (.int .i64 0), 1, 8) := by kernel_rfl

theorem add_block (x : Addr) (k : Nat) : (x.add k).block = x.block := by unfold Addr.add; split <;> rfl
/-- A slice of n integers, g 0, .., g (n - 1). -/
def Rd (w : World) (v : Value) (n : Nat) (g : Nat → Int) : Prop :=
  (v = .slice none 0 0 ∧ n = 0) ∨ ∃ b cap, v = .slice (some ⟨b, 0, none⟩) n cap ∧ n ≤ cap ∧ cap ≤ maxLen ∧ b < w.heap.size ∧ ∀ i, i < n → w.cell? ⟨b, i, none⟩ = some (.int .i64 (g i))
theorem Rd.next {w w' : World} {v : Value} {n : Nat} {g : Nat → Int} (h : Rd w v n g) (hb : Below w.heap.size w w') : Rd w' v n g := by
  rcases h with h | ⟨b, cap, h1, h2, h3, h4, h5⟩
  · exact .inl h
  · exact .inr ⟨b, cap, h1, h2, h3, Nat.lt_of_lt_of_le h4 hb.size, fun i hi => (hb.cell (p := ⟨b, i, none⟩) h4).trans (h5 i hi)⟩
theorem Rd.of_row {w : World} {k n : Nat} {g : Nat → Int} (h : w.rowIs k 2 n (fun i => .int .i64 (g i))) (hn : n ≤ maxLen) : Rd w (.slice (some ⟨k, 0, none⟩) n n) n g :=
  .inr ⟨k, n, rfl, Nat.le_refl _, hn, h.lt, fun _ hi => h.cell hi⟩





end Go.Proofs.Ytehbkmohfipmgaa

/- Lists of integers that a call laid: marks, and what they hold. -/
namespace Go.Proofs.Ytehbkmohfipmgaa
open Go.ChangeShapes Go.WideShapes Go.ChangeAt Go.RowKit

/-- A slice of len integers that lies in a block of its own, from B on; or nil. -/
def OwnV (B : Nat) (w : World) (v : Value) (len : Nat) (g : Nat → Int) : Prop :=
  (v = .slice none 0 0 ∧ len = 0) ∨ ∃ k cap, v = .slice (some ⟨k, 0, none⟩) len cap ∧ B ≤ k ∧ k < w.heap.size ∧ len ≤ cap ∧ cap ≤ maxLen ∧ ∀ i, i < len → w.cell? ⟨k, i, none⟩ = some (.int .i64 (g i)) ∧ w.frozen? ⟨k, i, none⟩ = false
/-- A slice of n integers in a block below B; or nil. -/
def RdB (B : Nat) (w : World) (v : Value) (n : Nat) (g : Nat → Int) : Prop :=
  (v = .slice none 0 0 ∧ n = 0) ∨ ∃ b cap, v = .slice (some ⟨b, 0, none⟩) n cap ∧ n ≤ cap ∧ cap ≤ maxLen ∧ b < B ∧ ∀ i, i < n → w.cell? ⟨b, i, none⟩ = some (.int .i64 (g i))
theorem RdB.rd {B : Nat} {w : World} {v : Value} {n : Nat} {g : Nat → Int} (h : RdB B w v n g) (hB : B ≤ w.heap.size) : Rd w v n g := by
  rcases h with h | ⟨b, cap, h1, h2, h3, h4, h5⟩
  · exact .inl h
  · exact .inr ⟨b, cap, h1, h2, h3, by omega, h5⟩
theorem RdB.below {B : Nat} {w w' : World} {v : Value} {n : Nat} {g : Nat → Int} (h : RdB B w v n g) {C : Nat} (hb : Below C w w') (hC : B ≤ C) : RdB B w' v n g := by
  rcases h with h | ⟨b, cap, h1, h2, h3, h4, h5⟩
  · exact .inl h
  · exact .inr ⟨b, cap, h1, h2, h3, h4, fun i hi => (hb.cell (p := ⟨b, i, none⟩) (by show b < C; omega)).trans (h5 i hi)⟩
theorem OwnV.rdB {B : Nat} {w : World} {v : Value} {n : Nat} {g : Nat → Int} (h : OwnV B w v n g) : RdB w.heap.size w v n g := by
  rcases h with h | ⟨b, cap, h1, _, h4, h2, h3, h5⟩
  · exact .inl h
  · exact .inr ⟨b, cap, h1, h2, h3, h4, fun i hi => (h5 i hi).1⟩
theorem OwnV.rd {B : Nat} {w : World} {v : Value} {n : Nat} {g : Nat → Int} (h : OwnV B w v n g) : Rd w v n g := h.rdB.rd (Nat.le_refl _)
theorem OwnV.next {B : Nat} {w w' : World} {v : Value} {n : Nat} {g : Nat → Int} (h : OwnV B w v n g) (hb : Below w.heap.size w w') : OwnV B w' v n g := by
  rcases h with h | ⟨b, cap, h1, h6, h4, h2, h3, h5⟩
  · exact .inl h
  · exact .inr ⟨b, cap, h1, h6, Nat.lt_of_lt_of_le h4 hb.size, h2, h3, fun i hi => ⟨(hb.cell (p := ⟨b, i, none⟩) h4).trans (h5 i hi).1, (hb.frozen (p := ⟨b, i, none⟩) h4).trans (h5 i hi).2⟩⟩
theorem OwnV.congr {B : Nat} {w : World} {v : Value} {n : Nat} {g g' : Nat → Int} (h : OwnV B w v n g) (e : ∀ i, i < n → g i = g' i) : OwnV B w v n g' := by
  rcases h with h | ⟨b, cap, h1, h6, h4, h2, h3, h5⟩
  · exact .inl h
  · exact .inr ⟨b, cap, h1, h6, h4, h2, h3, fun i hi => by rw [← e i hi]; exact h5 i hi⟩
theorem OwnV.base {B B' : Nat} {w : World} {v : Value} {n : Nat} {g : Nat → Int} (h : OwnV B w v n g) (hB : B' ≤ B) : OwnV B' w v n g := by
  rcases h with h | ⟨b, cap, h1, h6, h4, h2, h3, h5⟩
  · exact .inl h
  · exact .inr ⟨b, cap, h1, by omega, h4, h2, h3, h5⟩
theorem OwnV.arr {B : Nat} {w : World} {k : Nat} {a b c d : Int} (h : Arr w k a b c d) (hB : B ≤ k) : OwnV B w (.slice (some ⟨k, 0, none⟩) 4 4) 4 (fun i => if i = 0 then a else if i = 1 then b else if i = 2 then c else d) := by
  refine .inr ⟨k, 4, rfl, hB, h.lt, Nat.le_refl _, by decide, fun i hi => ?_⟩
  match i, hi with
  | 0, _ => exact ⟨h.c0, h.f0⟩
  | 1, _ => exact ⟨h.c1, h.f1⟩
  | 2, _ => exact ⟨h.c2, h.f2⟩
  | 3, _ => exact ⟨h.c3, h.f3⟩
/-- The cells of one own row, and a store into it. -/
def Cl (w : World) (k len : Nat) (g : Nat → Int) : Prop := k < w.heap.size ∧ ∀ i, i < len → w.cell? ⟨k, i, none⟩ = some (.int .i64 (g i)) ∧ w.frozen? ⟨k, i, none⟩ = false
theorem Cl.set {w : World} {k len : Nat} {g : Nat → Int} (h : Cl w k len g) {i : Nat} (hi : i < len) (x : Int) : Cl (w.setCell ⟨k, i, none⟩ (.int .i64 x)) k len (fun j => if j = i then x else g j) := by
  refine ⟨by rw [World.size_setCell]; exact h.1, fun j hj => ⟨?_, (World.frozen?_setCell _ _ _ _).trans (h.2 j hj).2⟩⟩
  by_cases e : j = i
  · subst e
    simp only [if_true]
    exact World.cell?_setCell_same' _ _ _ (by rw [(h.2 j hj).1]; rfl)
  · simp only [e, if_false]
    exact (World.cell?_setCell_other _ _ _ _ (ne_off (fun h => e h.symm))).trans (h.2 j hj).1
theorem Cl.congr {w : World} {k len : Nat} {g g' : Nat → Int} (h : Cl w k len g) (e : ∀ i, i < len → g i = g' i) : Cl w k len g' := ⟨h.1, fun i hi => by rw [← e i hi]; exact h.2 i hi⟩
theorem Cl.below {w w' : World} {k len : Nat} {g : Nat → Int} (h : Cl w k len g) (hb : Below w.heap.size w w') : Cl w' k len g :=
  ⟨Nat.lt_of_lt_of_le h.1 hb.size, fun i hi => ⟨(hb.cell (p := ⟨k, i, none⟩) h.1).trans (h.2 i hi).1, (hb.frozen (p := ⟨k, i, none⟩) h.1).trans (h.2 i hi).2⟩⟩
theorem below_set {B : Nat} {w w' : World} (h : Below B w w') {p : Addr} (hp : B ≤ p.block) (u : Value) : Below B w (w'.setCell p u) := h.setCell hp u



def q4 (x y z u : Int) (i : Nat) : Int := if i = 0 then x else if i = 1 then y else if i = 2 then z else u
/-- A list that the call laid, and a code. -/
def LstOut (code : Int) (len : Nat) (g : Nat → Int) (w : World) (e : Ending) (w' : World) : Prop :=
  ∃ v, e = .returned (.tuple #[v, .int .i64 code]) ∧ OwnV w.heap.size w' v (if code = 0 then len else 0) g ∧ Below w.heap.size w w'

end Go.Proofs.Ytehbkmohfipmgaa

/- Boxes of three numbers. No Go function in sight. -/
namespace Go.Proofs.Ytehbkmohfipmgaa
open Go.RowKit

section
variable {P : Program}
theorem loadVar3 (w : World) (b : Nat) (ty e : TypeId) (x0 x1 x2 : Value) (hu : P.underlying ty = some (.array 3 e)) (hi : (P.info? ty).map (·.size) = some 3)
    (c0 : w.cell? ⟨b, 0, none⟩ = some x0) (c1 : w.cell? ⟨b, 1, none⟩ = some x1) (c2 : w.cell? ⟨b, 2, none⟩ = some x2) :
    (loadVar ty ⟨b, 0, none⟩).run P w = .ok (.agg #[x0, x1, x2]) w := by
  have hl : (loadCells ⟨b, 0, none⟩ [x0, x1, x2].length).run P w = .ok [x0, x1, x2].toArray w :=
    run_loadCells_list (P := P) w ⟨b, 0, none⟩ [x0, x1, x2] (fun j v hv => by
      have hadd : (⟨b, 0, none⟩ : Addr).add j = ⟨b, j, none⟩ := by unfold Addr.add; split <;> simp_all
      rw [hadd]
      match j, hv with
      | 0, hv => cases hv; exact c0
      | 1, hv => cases hv; exact c1
      | 2, hv => cases hv; exact c2)
  cases hq : P.info? ty with
  | none => simp [hq] at hi
  | some i =>
    have hs : i.size = 3 := by simpa [hq] using hi
    have hagg : (isAgg ty).run P w = .ok true w := by
      unfold isAgg
      rw [Sem.run_bind, run_underlying hu w]
      simp
    simp only [List.length_cons, List.length_nil, Nat.reduceAdd] at hl
    simp [loadVar, Sem.run_bind, hagg, sizeOf, typeInfo, hq, hs, hl]
end

/-- Block k of w holds the three numbers. -/
structure Arr3 (w : World) (k : Nat) (a b c : Int) : Prop where
  lt : k < w.heap.size
  c0 : w.cell? ⟨k, 0, none⟩ = some (.int .i64 a)
  c1 : w.cell? ⟨k, 1, none⟩ = some (.int .i64 b)
  c2 : w.cell? ⟨k, 2, none⟩ = some (.int .i64 c)
  f0 : w.frozen? ⟨k, 0, none⟩ = false
  f1 : w.frozen? ⟨k, 1, none⟩ = false
  f2 : w.frozen? ⟨k, 2, none⟩ = false
theorem Arr3.below {w w' : World} {k : Nat} {a b c : Int} (h : Arr3 w k a b c) {B : Nat} (hb : Below B w w') (hB : k < B) : Arr3 w' k a b c :=
  ⟨Nat.lt_of_lt_of_le h.lt hb.size, (hb.cell (p := ⟨k, 0, none⟩) hB).trans h.c0, (hb.cell (p := ⟨k, 1, none⟩) hB).trans h.c1, (hb.cell (p := ⟨k, 2, none⟩) hB).trans h.c2,
    (hb.frozen (p := ⟨k, 0, none⟩) hB).trans h.f0, (hb.frozen (p := ⟨k, 1, none⟩) hB).trans h.f1, (hb.frozen (p := ⟨k, 2, none⟩) hB).trans h.f2⟩
theorem Arr3.next {w w' : World} {k : Nat} {a b c : Int} (h : Arr3 w k a b c) (hb : Below w.heap.size w w') : Arr3 w' k a b c := h.below hb h.lt
theorem Arr3.new (w : World) (a b c : Int) (t : TypeId) : Arr3 (w.alloc (.cells #[.int .i64 a, .int .i64 b, .int .i64 c] t)) w.heap.size a b c := by
  constructor <;> simp [go_sem]
theorem Arr3.alloc {w : World} {k : Nat} {a b c : Int} (h : Arr3 w k a b c) (o : Obj) : Arr3 (w.alloc o) k a b c := h.next ((Below.refl _ w).alloc (Nat.le_refl _) o)
theorem Arr3.drew {w : World} {k : Nat} {a b c : Int} (h : Arr3 w k a b c) : Arr3 w.drew k a b c := h.next ((Below.refl _ w).drew)
theorem Arr3.drewN {w : World} {k : Nat} {a b c : Int} (h : Arr3 w k a b c) (n : Nat) : Arr3 (w.drewN n) k a b c := h.next (gr_drewN (Below.refl _ w) n)
theorem Arr3.oth {w : World} {k : Nat} {a b c : Int} (h : Arr3 w k a b c) {p : Addr} (hp : k ≠ p.block) (v : Value) : Arr3 (w.setCell p v) k a b c := by
  have ne : ∀ o, p ≠ (⟨k, o, none⟩ : Addr) := fun o e => hp (by rw [e])
  exact ⟨by rw [World.size_setCell]; exact h.lt, (World.cell?_setCell_other _ _ _ _ (ne 0)).trans h.c0, (World.cell?_setCell_other _ _ _ _ (ne 1)).trans h.c1, (World.cell?_setCell_other _ _ _ _ (ne 2)).trans h.c2,
    (World.frozen?_setCell _ _ _ _).trans h.f0, (World.frozen?_setCell _ _ _ _).trans h.f1, (World.frozen?_setCell _ _ _ _).trans h.f2⟩
theorem Arr3.set0 {w : World} {k : Nat} {a b c : Int} (h : Arr3 w k a b c) (x : Int) : Arr3 (w.setCell ⟨k, 0, none⟩ (.int .i64 x)) k x b c :=
  ⟨by rw [World.size_setCell]; exact h.lt, World.cell?_setCell_same' _ _ _ (by rw [h.c0]; rfl), (World.cell?_setCell_other _ _ _ _ (ne_off (by decide))).trans h.c1, (World.cell?_setCell_other _ _ _ _ (ne_off (by decide))).trans h.c2, (World.frozen?_setCell _ _ _ _).trans h.f0, (World.frozen?_setCell _ _ _ _).trans h.f1, (World.frozen?_setCell _ _ _ _).trans h.f2⟩
theorem Arr3.set1 {w : World} {k : Nat} {a b c : Int} (h : Arr3 w k a b c) (x : Int) : Arr3 (w.setCell ⟨k, 1, none⟩ (.int .i64 x)) k a x c :=
  ⟨by rw [World.size_setCell]; exact h.lt, (World.cell?_setCell_other _ _ _ _ (ne_off (by decide))).trans h.c0, World.cell?_setCell_same' _ _ _ (by rw [h.c1]; rfl), (World.cell?_setCell_other _ _ _ _ (ne_off (by decide))).trans h.c2, (World.frozen?_setCell _ _ _ _).trans h.f0, (World.frozen?_setCell _ _ _ _).trans h.f1, (World.frozen?_setCell _ _ _ _).trans h.f2⟩
theorem Arr3.set2 {w : World} {k : Nat} {a b c : Int} (h : Arr3 w k a b c) (x : Int) : Arr3 (w.setCell ⟨k, 2, none⟩ (.int .i64 x)) k a b x :=
  ⟨by rw [World.size_setCell]; exact h.lt, (World.cell?_setCell_other _ _ _ _ (ne_off (by decide))).trans h.c0, (World.cell?_setCell_other _ _ _ _ (ne_off (by decide))).trans h.c1, World.cell?_setCell_same' _ _ _ (by rw [h.c2]; rfl), (World.frozen?_setCell _ _ _ _).trans h.f0, (World.frozen?_setCell _ _ _ _).trans h.f1, (World.frozen?_setCell _ _ _ _).trans h.f2⟩
/-- Block k of w holds three numbers, whatever they are. -/
def Box3 (w : World) (k : Nat) : Prop := ∃ a b c, Arr3 w k a b c
theorem Arr3.box {w : World} {k : Nat} {a b c : Int} (h : Arr3 w k a b c) : Box3 w k := ⟨a, b, c, h⟩
theorem Box3.oth {w : World} {k : Nat} (h : Box3 w k) {p : Addr} (hp : k ≠ p.block) (v : Value) : Box3 (w.setCell p v) k := by
  obtain ⟨a, b, c, h⟩ := h
  exact (h.oth hp v).box
theorem Box3.drew {w : World} {k : Nat} (h : Box3 w k) : Box3 w.drew k := by
  obtain ⟨a, b, c, h⟩ := h
  exact h.drew.box
theorem Box3.drewN {w : World} {k : Nat} (h : Box3 w k) (n : Nat) : Box3 (w.drewN n) k := by
  obtain ⟨a, b, c, h⟩ := h
  exact (h.drewN n).box
theorem Box3.alloc {w : World} {k : Nat} (h : Box3 w k) (o : Obj) : Box3 (w.alloc o) k := by
  obtain ⟨a, b, c, h⟩ := h
  exact (h.alloc o).box
theorem Box3.next {w w' : World} {k : Nat} (h : Box3 w k) (hb : Below w.heap.size w w') : Box3 w' k := by
  obtain ⟨a, b, c, h⟩ := h
  exact (h.next hb).box
theorem Box3.new (w : World) (a b c : Int) (t : TypeId) : Box3 (w.alloc (.cells #[.int .i64 a, .int .i64 b, .int .i64 c] t)) w.heap.size := (Arr3.new w a b c t).box
theorem Box3.elim {G : Prop} {w : World} {k : Nat} (h : Box3 w k) (K : ∀ a b c, Arr3 w k a b c → G) : G := by
  obtain ⟨a, b, c, h⟩ := h
  exact K a b c h
theorem cells43 {W : World} {i j : Nat} {a b c d p q r : Int} (L : Arr3 W j p q r) (K : Arr W i a b c d) :
    W.cell? ⟨j, 0, none⟩ = some (.int .i64 p) ∧ W.cell? ⟨j, 1, none⟩ = some (.int .i64 q) ∧ W.cell? ⟨j, 2, none⟩ = some (.int .i64 r) ∧ W.cell? ⟨i, 0, none⟩ = some (.int .i64 a) ∧ W.cell? ⟨i, 1, none⟩ = some (.int .i64 b) ∧ W.cell? ⟨i, 2, none⟩ = some (.int .i64 c) ∧ W.cell? ⟨i, 3, none⟩ = some (.int .i64 d) :=
  ⟨L.c0, L.c1, L.c2, K.c0, K.c1, K.c2, K.c3⟩
theorem Arr3.store3 {w : World} {k : Nat} (h : Box3 w k) {x y z : Int} : Arr3 (((w.setCell ⟨k, 0, none⟩ (.int .i64 x)).setCell ⟨k, 1, none⟩ (.int .i64 y)).setCell ⟨k, 2, none⟩ (.int .i64 z)) k x y z := by
  obtain ⟨a, b, c, h⟩ := h
  exact ((h.set0 x).set1 y).set2 z
theorem Arr3.oth4 {w : World} {j i : Nat} {a b c : Int} (h : Arr3 w j a b c) (hne : j ≠ i) {x y z u : Value} : Arr3 ((((w.setCell ⟨i, 0, none⟩ x).setCell ⟨i, 1, none⟩ y).setCell ⟨i, 2, none⟩ z).setCell ⟨i, 3, none⟩ u) j a b c :=
  (((h.oth (p := ⟨i, 0, none⟩) hne _).oth (p := ⟨i, 1, none⟩) hne _).oth (p := ⟨i, 2, none⟩) hne _).oth (p := ⟨i, 3, none⟩) hne _
theorem Arr3.oth3 {w : World} {j i : Nat} {a b c : Int} (h : Arr3 w j a b c) (hne : j ≠ i) {x y z : Value} : Arr3 (((w.setCell ⟨i, 0, none⟩ x).setCell ⟨i, 1, none⟩ y).setCell ⟨i, 2, none⟩ z) j a b c :=
  ((h.oth (p := ⟨i, 0, none⟩) hne _).oth (p := ⟨i, 1, none⟩) hne _).oth (p := ⟨i, 2, none⟩) hne _
theorem Arr.oth3 {w : World} {j i : Nat} {a b c d : Int} (h : Arr w j a b c d) (hne : j ≠ i) {x y z : Value} : Arr (((w.setCell ⟨i, 0, none⟩ x).setCell ⟨i, 1, none⟩ y).setCell ⟨i, 2, none⟩ z) j a b c d :=
  ((h.oth (p := ⟨i, 0, none⟩) hne _).oth (p := ⟨i, 1, none⟩) hne _).oth (p := ⟨i, 2, none⟩) hne _
/-- The answer that lies in block b, and a code. -/
theorem res_A3 {P : Program} {fn : Func} {p u : Tmp} {ty e : TypeId} {tmps : Array Value} {w : World} {b : Nat} {x0 x1 x2 : Int} (h : fn.results = #[.cell p ty, .tmp u]) (hu : P.underlying ty = some (.array 3 e)) (hi : (P.info? ty).map (·.size) = some 3)
    (hp : tmps.getD p undef = .pointer (some ⟨b, 0, none⟩)) (hA : Arr3 w b x0 x1 x2) :
    (results fn tmps).run P w = .ok (.tuple #[.agg #[.int .i64 x0, .int .i64 x1, .int .i64 x2], tmps.getD u undef]) w := by
  rw [results_cell_tmp h, hp]
  simp [asAddr, loadVar3 w b ty e _ _ _ hu hi hA.c0 hA.c1 hA.c2]
theorem res_A31 {P : Program} {fn : Func} {p : Tmp} {ty e : TypeId} {tmps : Array Value} {w : World} {b : Nat} {x0 x1 x2 : Int} (h : fn.results = #[.cell p ty]) (hu : P.underlying ty = some (.array 3 e)) (hi : (P.info? ty).map (·.size) = some 3)
    (hp : tmps.getD p undef = .pointer (some ⟨b, 0, none⟩)) (hA : Arr3 w b x0 x1 x2) :
    (results fn tmps).run P w = .ok (.agg #[.int .i64 x0, .int .i64 x1, .int .i64 x2]) w := by
  have hp' : tmps[p]?.getD undef = .pointer (some ⟨b, 0, none⟩) := by simpa using hp
  simp [results, h, hp', asAddr, loadVar3 w b ty e _ _ _ hu hi hA.c0 hA.c1 hA.c2]
theorem cells3 {W : World} {i : Nat} {a b c : Int} (K : Arr3 W i a b c) : W.cell? ⟨i, 0, none⟩ = some (.int .i64 a) ∧ W.cell? ⟨i, 1, none⟩ = some (.int .i64 b) ∧ W.cell? ⟨i, 2, none⟩ = some (.int .i64 c) := ⟨K.c0, K.c1, K.c2⟩
theorem ret_q {a b c k a' b' c' k' : Int} (h0 : a = a') (h1 : b = b') (h2 : c = c') (h4 : k = k') : Ending.returned (.tuple #[.agg #[.int .i64 a, .int .i64 b, .int .i64 c], .int .i64 k]) = .returned (.tuple #[.agg #[.int .i64 a', .int .i64 b', .int .i64 c'], .int .i64 k']) := by rw [h0, h1, h2, h4]
theorem ret_F3 {a b c a' b' c' : Int} (h0 : a = a') (h1 : b = b') (h2 : c = c') : Ending.returned (.agg #[.int .i64 a, .int .i64 b, .int .i64 c]) = .returned (.agg #[.int .i64 a', .int .i64 b', .int .i64 c']) := by rw [h0, h1, h2]

end Go.Proofs.Ytehbkmohfipmgaa
