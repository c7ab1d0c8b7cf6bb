/- Several texts in one: XAw0, XJmp. -/
import Derived.Test.YtikmjefbjejbkaaBbC1r
import Derived.Test.YtikmjefbjejbkaaRows
import Derived.ScopeJumps
import Derived.WalkMore

/- Chapter 2: inverses of unit matrices of whatever size. -/
namespace Go.Proofs.Ytikmjefbjejbkaa
open Go.RowKit

set_option maxHeartbeats 4000000 in
theorem iInvG_any (a b c d nb nc g : Int) (w : World) (hg : g = 1 ∨ g = -1) (hnb : IntKind.i64.wrap (-b) = nb) (hnc : IntKind.i64.wrap (-c) = nc)
    (ha1 : -9223372036854775808 ≤ a) (ha2 : a ≤ 9223372036854775807) (hd1 : -9223372036854775808 ≤ d) (hd2 : d ≤ 9223372036854775807)
    (hb1' : -9223372036854775808 ≤ nb) (hb2' : nb ≤ 9223372036854775807) (hc1 : -9223372036854775808 ≤ nc) (hc2 : nc ≤ 9223372036854775807)
    (P0 : mp a d b nc = g ∧ mp a nb b a = 0 ∧ mp c d d nc = 0 ∧ mp c nb d a = g) :
    Calls Try.prog 54 #[.agg #[.int .i64 a, .int .i64 b, .int .i64 c, .int .i64 d]] w fun e w' => e = .returned (.tuple #[.agg #[.int .i64 (wrap64 (d * g)), .int .i64 (wrap64 (nb * g)), .int .i64 (wrap64 (nc * g)), .int .i64 (wrap64 (a * g))], .bool true]) ∧ Below w.heap.size w w' := by
  have A1 := (Arr.new w a b c d 44).alloc (.cells #[.int .i64 0, .int .i64 0, .int .i64 0, .int .i64 0] 44)
  have R1 := Arr.new (w.alloc (.cells #[.int .i64 a, .int .i64 b, .int .i64 c, .int .i64 d] 44)) 0 0 0 0 44
  have UU := gr_alloc (gr_alloc (Below.refl w.heap.size w) (.cells #[.int .i64 a, .int .i64 b, .int .i64 c, .int .i64 d] 44)) (.cells #[.int .i64 0, .int .i64 0, .int .i64 0, .int .i64 0] 44)
  simp only [World.size_alloc] at R1
  obtain ⟨_, a0, a1, a2, a3, _⟩ := id A1
  go_enter Try.func54, Try.ntmps54
  go_wp2_with fail
  generalize hw1 : (w.alloc (.cells #[.int .i64 a, .int .i64 b, .int .i64 c, .int .i64 d] 44)).alloc (.cells #[.int .i64 0, .int .i64 0, .int .i64 0, .int .i64 0] 44) = w1 at A1 R1 UU a0 a1 a2 a3 ⊢
  have hz1 : w1.heap.size = w.heap.size + 1 + 1 := by rw [← hw1]; simp
  have HZ1 := hid hz1
  clear hw1 hz1
  have hl := R1.lt
  have hl' := A1.lt
  have X0 := Arr.new w1 d nb nc a 44
  rw [HZ1.out] at X0
  have A0 := A1.alloc (.cells #[.int .i64 d, .int .i64 nb, .int .i64 nc, .int .i64 a] 44)
  have R0 := R1.alloc (.cells #[.int .i64 d, .int .i64 nb, .int .i64 nc, .int .i64 a] 44)
  have U0 : Below w.heap.size w (w1.alloc (.cells #[.int .i64 d, .int .i64 nb, .int .i64 nc, .int .i64 a] 44)) := by (repeat' (first | with_reducible exact Below.refl _ _ | with_reducible assumption | with_reducible refine gr_alloc ?_ _ | with_reducible refine gr_drew ?_ | with_reducible refine gr_drewN ?_ _ | with_reducible refine gr_trans ?_ (by assumption) | with_reducible refine gr_set ?_ ?_ _ | (simp; done) | omega | (simp; omega)))
  clear a0 a1 a2 a3 A1 R1 UU
  generalize w1.alloc (.cells #[.int .i64 d, .int .i64 nb, .int .i64 nc, .int .i64 a] 44) = W0 at X0 A0 R0 U0 ⊢
  have l1 := lay1 W0
  have l2 := lay2 W0
  have l12 := lay12 W0
  have l21 := lay21 W0
  have hmm := @run_makeMap Try.prog
  have HP := hid P0
  clear P0
  go_region
  · have S1 : Signs (W0.alloc (.map es12 2)).drew W0.heap.size := .inl (new_mapR W0 _ _)
    have A1 := (A0.alloc (.map es12 2)).drew
    have R1 := (R0.alloc (.map es12 2)).drew
    have X1 := (X0.alloc (.map es12 2)).drew
    have U1 := gr_drew (gr_alloc U0 (.map es12 2))
    have hk : W0.heap.size < (W0.alloc (.map es12 2)).drew.heap.size := by simp
    clear l1 l2 l12 l21 A0 R0 X0 U0
    generalize (W0.alloc (.map es12 2)).drew = W1 at S1 A1 R1 X1 U1 hk ⊢
    obtain ⟨_, a0, a1, a2, a3, _⟩ := id A1
    obtain ⟨_, x0, x1, x2, x3, _⟩ := id X1
    have hc := iMp_any a b c d d nb nc a W1
    rw [HP.out.1, HP.out.2.1, HP.out.2.2.1, HP.out.2.2.2] at hc
    have HC := hid hc
    clear hc
    go_wp2_with fail
    refine HC.out.mono ?_
    rintro e w2 ⟨rfl, hb2⟩
    have hlk := (S1.next hk hb2).look g
    have R2 := R1.next hb2
    have X2 := X1.next hb2
    have hUz := U1.size
    have hz2 := hb2.size
    clear a0 a1 a2 a3 x0 x1 x2 x3
    obtain ⟨_, r0, r1, r2, r3, f0, f1, f2, f3⟩ := id R2
    obtain ⟨_, x0, x1, x2, x3, g0, g1, g2, g3⟩ := id X2
    rcases hg with hg | hg
    · have hs : sign? g = .tuple #[.int .i64 1, .bool true] := by simp [sign?, hg]
      rw [hs] at hlk
      clear hs
      subst hg
      go_wp2
      go_rounds 5
      refine bodyPost_ret (res_A (e := 2) rfl Try.underlying44 (by kernel_rfl) rfl (by (repeat (first | with_reducible assumption | with_reducible exact Arr.box (by assumption) | with_reducible apply Arr.drew | with_reducible apply Arr.drewN | with_reducible refine Arr.store4 ?_ | with_reducible apply Arr.alloc | with_reducible refine Box.drew ?_ | with_reducible refine Box.drewN ?_ _ | with_reducible refine Box.alloc ?_ _ | refine Arr.oth ?_ (by first | (simp; done) | omega | (simp; omega)) _ | refine Box.oth ?_ (by first | (simp; done) | omega | (simp; omega)) _)))) rfl ?_
      exact ⟨ret_fb (by simp [IntWalk.wrap64_in, *]) (by simp [IntWalk.wrap64_in, *]) (by simp [IntWalk.wrap64_in, *]) (by simp [IntWalk.wrap64_in, *]) rfl, by (repeat' (first | with_reducible exact Below.refl _ _ | with_reducible assumption | with_reducible refine gr_alloc ?_ _ | with_reducible refine gr_drew ?_ | with_reducible refine gr_drewN ?_ _ | with_reducible refine gr_trans ?_ (by assumption) | with_reducible refine gr_set ?_ ?_ _ | (simp; done) | omega | (simp; omega)))⟩
    · have hs : sign? g = .tuple #[.int .i64 (-1), .bool true] := by simp [sign?, hg]
      rw [hs] at hlk
      clear hs
      subst hg
      go_wp2
      go_rounds 5
      refine bodyPost_ret (res_A (e := 2) rfl Try.underlying44 (by kernel_rfl) rfl (by (repeat (first | with_reducible assumption | with_reducible exact Arr.box (by assumption) | with_reducible apply Arr.drew | with_reducible apply Arr.drewN | with_reducible refine Arr.store4 ?_ | with_reducible apply Arr.alloc | with_reducible refine Box.drew ?_ | with_reducible refine Box.drewN ?_ _ | with_reducible refine Box.alloc ?_ _ | refine Arr.oth ?_ (by first | (simp; done) | omega | (simp; omega)) _ | refine Box.oth ?_ (by first | (simp; done) | omega | (simp; omega)) _)))) rfl ?_
      exact ⟨ret_fb (by simp) (by simp) (by simp) (by simp) rfl, by (repeat' (first | with_reducible exact Below.refl _ _ | with_reducible assumption | with_reducible refine gr_alloc ?_ _ | with_reducible refine gr_drew ?_ | with_reducible refine gr_drewN ?_ _ | with_reducible refine gr_trans ?_ (by assumption) | with_reducible refine gr_set ?_ ?_ _ | (simp; done) | omega | (simp; omega)))⟩
  · have S1 : Signs (W0.alloc (.map es21 2)).drew W0.heap.size := .inr (new_mapR W0 _ _)
    have A1 := (A0.alloc (.map es21 2)).drew
    have R1 := (R0.alloc (.map es21 2)).drew
    have X1 := (X0.alloc (.map es21 2)).drew
    have U1 := gr_drew (gr_alloc U0 (.map es21 2))
    have hk : W0.heap.size < (W0.alloc (.map es21 2)).drew.heap.size := by simp
    clear l1 l2 l12 l21 A0 R0 X0 U0
    generalize (W0.alloc (.map es21 2)).drew = W1 at S1 A1 R1 X1 U1 hk ⊢
    obtain ⟨_, a0, a1, a2, a3, _⟩ := id A1
    obtain ⟨_, x0, x1, x2, x3, _⟩ := id X1
    have hc := iMp_any a b c d d nb nc a W1
    rw [HP.out.1, HP.out.2.1, HP.out.2.2.1, HP.out.2.2.2] at hc
    have HC := hid hc
    clear hc
    go_wp2_with fail
    refine HC.out.mono ?_
    rintro e w2 ⟨rfl, hb2⟩
    have hlk := (S1.next hk hb2).look g
    have R2 := R1.next hb2
    have X2 := X1.next hb2
    have hUz := U1.size
    have hz2 := hb2.size
    clear a0 a1 a2 a3 x0 x1 x2 x3
    obtain ⟨_, r0, r1, r2, r3, f0, f1, f2, f3⟩ := id R2
    obtain ⟨_, x0, x1, x2, x3, g0, g1, g2, g3⟩ := id X2
    rcases hg with hg | hg
    · have hs : sign? g = .tuple #[.int .i64 1, .bool true] := by simp [sign?, hg]
      rw [hs] at hlk
      clear hs
      subst hg
      go_wp2
      go_rounds 5
      refine bodyPost_ret (res_A (e := 2) rfl Try.underlying44 (by kernel_rfl) rfl (by (repeat (first | with_reducible assumption | with_reducible exact Arr.box (by assumption) | with_reducible apply Arr.drew | with_reducible apply Arr.drewN | with_reducible refine Arr.store4 ?_ | with_reducible apply Arr.alloc | with_reducible refine Box.drew ?_ | with_reducible refine Box.drewN ?_ _ | with_reducible refine Box.alloc ?_ _ | refine Arr.oth ?_ (by first | (simp; done) | omega | (simp; omega)) _ | refine Box.oth ?_ (by first | (simp; done) | omega | (simp; omega)) _)))) rfl ?_
      exact ⟨ret_fb (by simp [IntWalk.wrap64_in, *]) (by simp [IntWalk.wrap64_in, *]) (by simp [IntWalk.wrap64_in, *]) (by simp [IntWalk.wrap64_in, *]) rfl, by (repeat' (first | with_reducible exact Below.refl _ _ | with_reducible assumption | with_reducible refine gr_alloc ?_ _ | with_reducible refine gr_drew ?_ | with_reducible refine gr_drewN ?_ _ | with_reducible refine gr_trans ?_ (by assumption) | with_reducible refine gr_set ?_ ?_ _ | (simp; done) | omega | (simp; omega)))⟩
    · have hs : sign? g = .tuple #[.int .i64 (-1), .bool true] := by simp [sign?, hg]
      rw [hs] at hlk
      clear hs
      subst hg
      go_wp2
      go_rounds 5
      refine bodyPost_ret (res_A (e := 2) rfl Try.underlying44 (by kernel_rfl) rfl (by (repeat (first | with_reducible assumption | with_reducible exact Arr.box (by assumption) | with_reducible apply Arr.drew | with_reducible apply Arr.drewN | with_reducible refine Arr.store4 ?_ | with_reducible apply Arr.alloc | with_reducible refine Box.drew ?_ | with_reducible refine Box.drewN ?_ _ | with_reducible refine Box.alloc ?_ _ | refine Arr.oth ?_ (by first | (simp; done) | omega | (simp; omega)) _ | refine Box.oth ?_ (by first | (simp; done) | omega | (simp; omega)) _)))) rfl ?_
      exact ⟨ret_fb (by simp) (by simp) (by simp) (by simp) rfl, by (repeat' (first | with_reducible exact Below.refl _ _ | with_reducible assumption | with_reducible refine gr_alloc ?_ _ | with_reducible refine gr_drew ?_ | with_reducible refine gr_drewN ?_ _ | with_reducible refine gr_trans ?_ (by assumption) | with_reducible refine gr_set ?_ ?_ _ | (simp; done) | omega | (simp; omega)))⟩

end Go.Proofs.Ytikmjefbjejbkaa

/- A scope with several labels: what holds at every jump, by label, and a measure that falls. -/
namespace Go.Proofs.Ytikmjefbjejbkaa
open Go
def jmps (J : Nat → Act → World → Prop) (Q : Exit → Act → World → Prop) : Exit → Act → World → Prop
  | .goto l, a, w => J l a w
  | e, a, w => Q e a w
theorem scope_jumps {P : Program} {a : Act} {w : World} {Q : Exit → Act → World → Prop} {c : Code} (J : Nat → Nat → Act → World → Prop)
    (first : c.wp P (jmps (fun l a' w' => ∃ n, J n l a' w') Q) a w)
    (pass : ∀ n l a w, J n l a w → ∃ rest, findLabel c l = some rest ∧ rest.wp P (jmps (fun l' a' w' => ∃ m, m < n ∧ J m l' a' w') Q) a w) : (Code.scope c).wp P Q a w := by
  intro b k cs
  have key : ∀ n l a w, J n l a w → ∃ rest, findLabel c l = some rest ∧ ∃ e a' w', Q e a' w' ∧ Arrives P (lone (b.at a (.code rest :: .inScope c :: k)) cs w) b k cs e a' w' := by
    intro n
    induction n using Nat.strongRecOn with
    | _ n ih =>
      intro l a w hJ
      obtain ⟨rest, hf, hw⟩ := pass n l a w hJ
      refine ⟨rest, hf, ?_⟩
      obtain ⟨e, a₁, w₁, hq, harr⟩ := hw b (.inScope c :: k) cs
      cases e with
      | normal => exact ⟨.normal, a₁, w₁, hq, Steps.trans harr (.one step_inScope)⟩
      | exit id => exact ⟨.exit id, a₁, w₁, hq, fun k' hk => harr k' (by simp [exitTo, hk])⟩
      | goto l' =>
        obtain ⟨m, hm, hJ'⟩ := hq
        obtain ⟨rest', hf', e₂, a₂, w₂, hq₂, harr₂⟩ := ih m hm l' a₁ w₁ hJ'
        have hg : gotoIn l' (.inScope c :: k) = some (.code rest' :: .inScope c :: k) := by simp [gotoIn, hf']
        exact ⟨e₂, a₂, w₂, hq₂, .of_steps (harr _ hg) harr₂⟩
      | ret => exact ⟨_, a₁, w₁, hq, harr⟩
      | panic ch => exact ⟨_, a₁, w₁, hq, harr⟩
      | outgrown => exact ⟨_, a₁, w₁, hq, harr⟩
  obtain ⟨e, a₁, w₁, hq, harr⟩ := first b (.inScope c :: k) cs
  cases e with
  | normal => exact ⟨.normal, a₁, w₁, hq, .head step_scope (Steps.trans harr (.one step_inScope))⟩
  | exit id => exact ⟨.exit id, a₁, w₁, hq, fun k' hk => .head step_scope (harr k' (by simp [exitTo, hk]))⟩
  | goto l' =>
    obtain ⟨n, hJ'⟩ := hq
    obtain ⟨rest', hf', e₂, a₂, w₂, hq₂, harr₂⟩ := key n l' a₁ w₁ hJ'
    have hg : gotoIn l' (.inScope c :: k) = some (.code rest' :: .inScope c :: k) := by simp [gotoIn, hf']
    exact ⟨e₂, a₂, w₂, hq₂, .of_steps (.head step_scope (harr _ hg)) harr₂⟩
  | ret => exact ⟨_, a₁, w₁, hq, .of_steps (.one step_scope) harr⟩
  | panic ch => exact ⟨_, a₁, w₁, hq, .of_steps (.one step_scope) harr⟩
  | outgrown => exact ⟨_, a₁, w₁, hq, .of_steps (.one step_scope) harr⟩

end Go.Proofs.Ytikmjefbjejbkaa
