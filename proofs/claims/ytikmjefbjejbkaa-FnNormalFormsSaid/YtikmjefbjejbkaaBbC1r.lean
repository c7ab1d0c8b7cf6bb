/- Chapter 1: inverse matrices of the program. -/
import Derived.Test.YtikmjefbjejbkaaBbZ6
import Derived.RegionTactic
import Derived.ChangeAlike
namespace Go.Proofs.Ytikmjefbjejbkaa
open Go.RowKit

theorem new_mapR (W : World) (es : Array MapEntry) (c : Nat) : (W.alloc (.map es c)).drew.heap[W.heap.size]? = some (.map es c) := heap_alloc_new W _
theorem lay {es : Array MapEntry} {c : Nat} {a p q r v : Int} (W : World) (hf : (Instr.findKey 44 (.agg #[.int .i64 a, .int .i64 p, .int .i64 q, .int .i64 r]) es.toList).run Try.prog (W.alloc (.map es c)).drew = .ok none (W.alloc (.map es c)).drew) :
    (Instr.mapUpdate 105 (.map (some W.heap.size)) (.agg #[.int .i64 a, .int .i64 p, .int .i64 q, .int .i64 r]) (.int .i64 v)).run Try.prog (W.alloc (.map es c)).drew = .ok () (W.alloc (.map (es.push (ent a p q r v c)) (c + 1))).drew := by
  rw [put_run (new_mapR W _ _) hf]
  exact congrArg (fun x => Result.ok () (World.drew x)) (set_alloc W _ _)
def es0 : Array MapEntry := #[]
def es1 : Array MapEntry := #[ent 1 0 0 1 1 0]
def es2 : Array MapEntry := #[ent (-1) 0 0 (-1) (-1) 0]
def es12 : Array MapEntry := #[ent 1 0 0 1 1 0, ent (-1) 0 0 (-1) (-1) 1]
def es21 : Array MapEntry := #[ent (-1) 0 0 (-1) (-1) 0, ent 1 0 0 1 1 1]
theorem lay1 (W : World) : (Instr.mapUpdate 105 (.map (some W.heap.size)) (.agg #[.int .i64 1, .int .i64 0, .int .i64 0, .int .i64 1]) (.int .i64 1)).run Try.prog (W.alloc (.map #[] 0)).drew = .ok () (W.alloc (.map es1 1)).drew := lay W (find0 _ _)
theorem lay2 (W : World) : (Instr.mapUpdate 105 (.map (some W.heap.size)) (.agg #[.int .i64 (-1), .int .i64 0, .int .i64 0, .int .i64 (-1)]) (.int .i64 (-1))).run Try.prog (W.alloc (.map #[] 0)).drew = .ok () (W.alloc (.map es2 1)).drew := lay W (find0 _ _)
theorem lay12 (W : World) : (Instr.mapUpdate 105 (.map (some W.heap.size)) (.agg #[.int .i64 (-1), .int .i64 0, .int .i64 0, .int .i64 (-1)]) (.int .i64 (-1))).run Try.prog (W.alloc (.map es1 1)).drew = .ok () (W.alloc (.map es12 2)).drew := lay W (by show (Instr.findKey _ _ [ent 1 0 0 1 1 0]).run _ _ = _; rw [find1]; rfl)
theorem lay21 (W : World) : (Instr.mapUpdate 105 (.map (some W.heap.size)) (.agg #[.int .i64 1, .int .i64 0, .int .i64 0, .int .i64 1]) (.int .i64 1)).run Try.prog (W.alloc (.map es2 1)).drew = .ok () (W.alloc (.map es21 2)).drew := lay W (by show (Instr.findKey _ _ [ent (-1) 0 0 (-1) (-1) 0]).run _ _ = _; rw [find1]; rfl)

/-- The map of the two signs, in whichever order it was laid. -/
def Signs (w : World) (b : Nat) : Prop := w.heap[b]? = some (.map es12 2) ∨ w.heap[b]? = some (.map es21 2)
def sign? (D : Int) : Value := if D = 1 then .tuple #[.int .i64 1, .bool true] else if D = -1 then .tuple #[.int .i64 (-1), .bool true] else .tuple #[.int .i64 0, .bool false]
theorem Signs.look {w : World} {b : Nat} (h : Signs w b) (D : Int) : (Instr.lookup 105 (.map (some b)) (.agg #[.int .i64 D, .int .i64 0, .int .i64 0, .int .i64 D]) true).run Try.prog w = .ok (sign? D) w := by
  rcases h with h | h
  · rw [look_run h (show (Instr.findKey _ _ [ent 1 0 0 1 1 0, ent (-1) 0 0 (-1) (-1) 1]).run _ _ = _ from find2 ..)]
    by_cases h1 : D = 1
    · subst h1; rfl
    · by_cases h2 : D = -1
      · subst h2; rfl
      · simp [sign?, h1, h2, lookRes]
  · rw [look_run h (show (Instr.findKey _ _ [ent (-1) 0 0 (-1) (-1) 0, ent 1 0 0 1 1 1]).run _ _ = _ from find2 ..)]
    by_cases h1 : D = 1
    · subst h1; rfl
    · by_cases h2 : D = -1
      · subst h2; rfl
      · simp [sign?, h1, h2, lookRes]
theorem Signs.next {w w' : World} {b : Nat} (h : Signs w b) (hl : b < w.heap.size) (hb : Below w.heap.size w w') : Signs w' b := by
  unfold Signs; rw [hb.block b hl]; exact h

theorem prod_det {a b c d : Int} (ha : -1000 ≤ a ∧ a ≤ 1000) (hb : -1000 ≤ b ∧ b ≤ 1000) (hc : -1000 ≤ c ∧ c ≤ 1000) (hd : -1000 ≤ d ∧ d ≤ 1000) :
    mp a d b (-c) = det a b c d ∧ mp a (-b) b a = 0 ∧ mp c d d (-c) = 0 ∧ mp c (-b) d a = det a b c d := by
  have e1 := mul_bd ha hd
  have e2 := mul_bd hb hc
  have e3 := mul_bd ha hb
  have e4 := mul_bd hc hd
  have n1 : b * -c = -(b * c) := by rw [Int.mul_neg]
  have n2 : a * -b = -(a * b) := by rw [Int.mul_neg]
  have n3 : b * a = a * b := Int.mul_comm _ _
  have n4 : d * -c = -(c * d) := by rw [Int.mul_neg, Int.mul_comm]
  have n5 : c * -b = -(b * c) := by rw [Int.mul_neg, Int.mul_comm]
  have n6 : d * a = a * d := Int.mul_comm _ _
  have n7 : c * b = b * c := Int.mul_comm _ _
  simp only [mp, det, pl, mi, mu, n1, n2, n3, n4, n5, n6]
  generalize a * d = x at *
  generalize b * c = y at *
  generalize a * b = z at *
  generalize c * d = u at *
  refine ⟨?_, ?_, ?_, ?_⟩ <;> (unfold wrap64; omega)

set_option maxHeartbeats 2000000 in
theorem iInvU_any (a b c d : Int) (w : World) (ha : -1000 ≤ a ∧ a ≤ 1000) (hb : -1000 ≤ b ∧ b ≤ 1000) (hc : -1000 ≤ c ∧ c ≤ 1000) (hd : -1000 ≤ d ∧ d ≤ 1000) :
    Calls Try.prog 54 #[.agg #[.int .i64 a, .int .i64 b, .int .i64 c, .int .i64 d]] w fun e w' => e = .returned (.tuple #[.agg #[.int .i64 (ifB (isUnit a b c d) (det a b c d * d)), .int .i64 (ifB (isUnit a b c d) (-(det a b c d * b))), .int .i64 (ifB (isUnit a b c d) (-(det a b c d * c))), .int .i64 (ifB (isUnit a b c d) (det a b c d * a))], .bool (isUnit a b c d)]) ∧ Below w.heap.size w w' := by
  obtain ⟨ha1, ha2⟩ := ha
  obtain ⟨hb1', hb2'⟩ := hb
  obtain ⟨hc1, hc2⟩ := hc
  obtain ⟨hd1, hd2⟩ := hd
  have A1 := (Arr.new w a b c d 44).alloc (.cells #[.int .i64 0, .int .i64 0, .int .i64 0, .int .i64 0] 44)
  have R1 := Arr.new (w.alloc (.cells #[.int .i64 a, .int .i64 b, .int .i64 c, .int .i64 d] 44)) 0 0 0 0 44
  have UU := gr_alloc (gr_alloc (Below.refl w.heap.size w) (.cells #[.int .i64 a, .int .i64 b, .int .i64 c, .int .i64 d] 44)) (.cells #[.int .i64 0, .int .i64 0, .int .i64 0, .int .i64 0] 44)
  simp only [World.size_alloc] at R1
  obtain ⟨_, a0, a1, a2, a3, _⟩ := id A1
  go_enter Try.func54, Try.ntmps54
  go_wp2_with fail
  generalize hw1 : (w.alloc (.cells #[.int .i64 a, .int .i64 b, .int .i64 c, .int .i64 d] 44)).alloc (.cells #[.int .i64 0, .int .i64 0, .int .i64 0, .int .i64 0] 44) = w1 at A1 R1 UU a0 a1 a2 a3 ⊢
  have hz1 : w1.heap.size = w.heap.size + 1 + 1 := by rw [← hw1]; simp
  have HZ1 := hid hz1
  clear hw1 hz1
  have hl := R1.lt
  have hl' := A1.lt
  have X0 := Arr.new w1 d (-b) (-c) a 44
  rw [HZ1.out] at X0
  have A0 := A1.alloc (.cells #[.int .i64 d, .int .i64 (-b), .int .i64 (-c), .int .i64 a] 44)
  have R0 := R1.alloc (.cells #[.int .i64 d, .int .i64 (-b), .int .i64 (-c), .int .i64 a] 44)
  have U0 : Below w.heap.size w (w1.alloc (.cells #[.int .i64 d, .int .i64 (-b), .int .i64 (-c), .int .i64 a] 44)) := by (repeat' (first | with_reducible exact Below.refl _ _ | with_reducible assumption | with_reducible refine gr_alloc ?_ _ | with_reducible refine gr_drew ?_ | with_reducible refine gr_drewN ?_ _ | with_reducible refine gr_trans ?_ (by assumption) | with_reducible refine gr_set ?_ ?_ _ | (simp; done) | omega | (simp; omega)))
  clear a0 a1 a2 a3 A1 R1 UU
  generalize w1.alloc (.cells #[.int .i64 d, .int .i64 (-b), .int .i64 (-c), .int .i64 a] 44) = W0 at X0 A0 R0 U0 ⊢
  have l1 := lay1 W0
  have l2 := lay2 W0
  have l12 := lay12 W0
  have l21 := lay21 W0
  have hmm := @run_makeMap Try.prog
  have P0 := prod_det ⟨ha1, ha2⟩ ⟨hb1', hb2'⟩ ⟨hc1, hc2⟩ ⟨hd1, hd2⟩
  have HP := hid P0
  clear P0
  go_region
  · have S1 : Signs (W0.alloc (.map es12 2)).drew W0.heap.size := .inl (new_mapR W0 _ _)
    have A1 := (A0.alloc (.map es12 2)).drew
    have R1 := (R0.alloc (.map es12 2)).drew
    have X1 := (X0.alloc (.map es12 2)).drew
    have U1 := gr_drew (gr_alloc U0 (.map es12 2))
    have hk : W0.heap.size < (W0.alloc (.map es12 2)).drew.heap.size := by simp
    clear l1 l2 l12 l21 A0 R0 X0 U0
    generalize (W0.alloc (.map es12 2)).drew = W1 at S1 A1 R1 X1 U1 hk ⊢
    obtain ⟨_, a0, a1, a2, a3, _⟩ := id A1
    obtain ⟨_, x0, x1, x2, x3, _⟩ := id X1
    have hc := iMp_any a b c d d (-b) (-c) a W1
    rw [HP.out.1, HP.out.2.1, HP.out.2.2.1, HP.out.2.2.2] at hc
    have HC := hid hc
    clear hc
    go_wp2_with fail
    refine HC.out.mono ?_
    rintro e w2 ⟨rfl, hb2⟩
    have hlk := (S1.next hk hb2).look (det a b c d)
    have R2 := R1.next hb2
    have X2 := X1.next hb2
    have hUz := U1.size
    have hz2 := hb2.size
    clear a0 a1 a2 a3 x0 x1 x2 x3
    obtain ⟨_, r0, r1, r2, r3, f0, f1, f2, f3⟩ := id R2
    obtain ⟨_, x0, x1, x2, x3, g0, g1, g2, g3⟩ := id X2
    by_cases u1 : det a b c d = 1
    · have hs : sign? (det a b c d) = .tuple #[.int .i64 1, .bool true] := by simp [sign?, u1]
      rw [hs] at hlk
      clear hs
      have H1 := hid u1
      clear u1
      go_wp2
      go_rounds 5
      refine bodyPost_ret (res_A (e := 2) rfl Try.underlying44 (by kernel_rfl) rfl (by (repeat (first | with_reducible assumption | with_reducible exact Arr.box (by assumption) | with_reducible apply Arr.drew | with_reducible apply Arr.drewN | with_reducible refine Arr.store4 ?_ | with_reducible apply Arr.alloc | with_reducible refine Box.drew ?_ | with_reducible refine Box.drewN ?_ _ | with_reducible refine Box.alloc ?_ _ | refine Arr.oth ?_ (by first | (simp; done) | omega | (simp; omega)) _ | refine Box.oth ?_ (by first | (simp; done) | omega | (simp; omega)) _)))) rfl ?_
      have k0 : isUnit a b c d = true := by simp [isUnit, H1.out]
      exact ⟨ret_fb (by simp [ifB, k0, H1.out]) (by simp [ifB, k0, H1.out]) (by simp [ifB, k0, H1.out]) (by simp [ifB, k0, H1.out]) (by simp [k0]), by (repeat' (first | with_reducible exact Below.refl _ _ | with_reducible assumption | with_reducible refine gr_alloc ?_ _ | with_reducible refine gr_drew ?_ | with_reducible refine gr_drewN ?_ _ | with_reducible refine gr_trans ?_ (by assumption) | with_reducible refine gr_set ?_ ?_ _ | (simp; done) | omega | (simp; omega)))⟩
    · by_cases u2 : det a b c d = -1
      · have hs : sign? (det a b c d) = .tuple #[.int .i64 (-1), .bool true] := by simp [sign?, u2]
        rw [hs] at hlk
        clear hs u1
        have H1 := hid u2
        clear u2
        go_wp2
        go_rounds 5
        refine bodyPost_ret (res_A (e := 2) rfl Try.underlying44 (by kernel_rfl) rfl (by (repeat (first | with_reducible assumption | with_reducible exact Arr.box (by assumption) | with_reducible apply Arr.drew | with_reducible apply Arr.drewN | with_reducible refine Arr.store4 ?_ | with_reducible apply Arr.alloc | with_reducible refine Box.drew ?_ | with_reducible refine Box.drewN ?_ _ | with_reducible refine Box.alloc ?_ _ | refine Arr.oth ?_ (by first | (simp; done) | omega | (simp; omega)) _ | refine Box.oth ?_ (by first | (simp; done) | omega | (simp; omega)) _)))) rfl ?_
        have k0 : isUnit a b c d = true := by simp [isUnit, H1.out]
        exact ⟨ret_fb (by simp [ifB, k0, H1.out]) (by simp [ifB, k0, H1.out]) (by simp [ifB, k0, H1.out]) (by simp [ifB, k0, H1.out]) (by simp [k0]), by (repeat' (first | with_reducible exact Below.refl _ _ | with_reducible assumption | with_reducible refine gr_alloc ?_ _ | with_reducible refine gr_drew ?_ | with_reducible refine gr_drewN ?_ _ | with_reducible refine gr_trans ?_ (by assumption) | with_reducible refine gr_set ?_ ?_ _ | (simp; done) | omega | (simp; omega)))⟩
      · have hs : sign? (det a b c d) = .tuple #[.int .i64 0, .bool false] := by simp [sign?, u1, u2]
        rw [hs] at hlk
        clear hs
        have k0 : isUnit a b c d = false := by simp [isUnit, u1, u2]
        have K0 := hid k0
        clear k0 u1 u2
        go_wp2
        refine bodyPost_ret (res_A (e := 2) rfl Try.underlying44 (by kernel_rfl) rfl (by (repeat (first | with_reducible assumption | with_reducible exact Arr.box (by assumption) | with_reducible apply Arr.drew | with_reducible apply Arr.drewN | with_reducible refine Arr.store4 ?_ | with_reducible apply Arr.alloc | with_reducible refine Box.drew ?_ | with_reducible refine Box.drewN ?_ _ | with_reducible refine Box.alloc ?_ _ | refine Arr.oth ?_ (by first | (simp; done) | omega | (simp; omega)) _ | refine Box.oth ?_ (by first | (simp; done) | omega | (simp; omega)) _)))) rfl ?_
        have k0 := K0.out
        exact ⟨ret_fb (by simp [ifB, k0]) (by simp [ifB, k0]) (by simp [ifB, k0]) (by simp [ifB, k0]) (by simp [k0]), by (repeat' (first | with_reducible exact Below.refl _ _ | with_reducible assumption | with_reducible refine gr_alloc ?_ _ | with_reducible refine gr_drew ?_ | with_reducible refine gr_drewN ?_ _ | with_reducible refine gr_trans ?_ (by assumption) | with_reducible refine gr_set ?_ ?_ _ | (simp; done) | omega | (simp; omega)))⟩
  · have S1 : Signs (W0.alloc (.map es21 2)).drew W0.heap.size := .inr (new_mapR W0 _ _)
    have A1 := (A0.alloc (.map es21 2)).drew
    have R1 := (R0.alloc (.map es21 2)).drew
    have X1 := (X0.alloc (.map es21 2)).drew
    have U1 := gr_drew (gr_alloc U0 (.map es21 2))
    have hk : W0.heap.size < (W0.alloc (.map es21 2)).drew.heap.size := by simp
    clear l1 l2 l12 l21 A0 R0 X0 U0
    generalize (W0.alloc (.map es21 2)).drew = W1 at S1 A1 R1 X1 U1 hk ⊢
    obtain ⟨_, a0, a1, a2, a3, _⟩ := id A1
    obtain ⟨_, x0, x1, x2, x3, _⟩ := id X1
    have hc := iMp_any a b c d d (-b) (-c) a W1
    rw [HP.out.1, HP.out.2.1, HP.out.2.2.1, HP.out.2.2.2] at hc
    have HC := hid hc
    clear hc
    go_wp2_with fail
    refine HC.out.mono ?_
    rintro e w2 ⟨rfl, hb2⟩
    have hlk := (S1.next hk hb2).look (det a b c d)
    have R2 := R1.next hb2
    have X2 := X1.next hb2
    have hUz := U1.size
    have hz2 := hb2.size
    clear a0 a1 a2 a3 x0 x1 x2 x3
    obtain ⟨_, r0, r1, r2, r3, f0, f1, f2, f3⟩ := id R2
    obtain ⟨_, x0, x1, x2, x3, g0, g1, g2, g3⟩ := id X2
    by_cases u1 : det a b c d = 1
    · have hs : sign? (det a b c d) = .tuple #[.int .i64 1, .bool true] := by simp [sign?, u1]
      rw [hs] at hlk
      clear hs
      have H1 := hid u1
      clear u1
      go_wp2
      go_rounds 5
      refine bodyPost_ret (res_A (e := 2) rfl Try.underlying44 (by kernel_rfl) rfl (by (repeat (first | with_reducible assumption | with_reducible exact Arr.box (by assumption) | with_reducible apply Arr.drew | with_reducible apply Arr.drewN | with_reducible refine Arr.store4 ?_ | with_reducible apply Arr.alloc | with_reducible refine Box.drew ?_ | with_reducible refine Box.drewN ?_ _ | with_reducible refine Box.alloc ?_ _ | refine Arr.oth ?_ (by first | (simp; done) | omega | (simp; omega)) _ | refine Box.oth ?_ (by first | (simp; done) | omega | (simp; omega)) _)))) rfl ?_
      have k0 : isUnit a b c d = true := by simp [isUnit, H1.out]
      exact ⟨ret_fb (by simp [ifB, k0, H1.out]) (by simp [ifB, k0, H1.out]) (by simp [ifB, k0, H1.out]) (by simp [ifB, k0, H1.out]) (by simp [k0]), by (repeat' (first | with_reducible exact Below.refl _ _ | with_reducible assumption | with_reducible refine gr_alloc ?_ _ | with_reducible refine gr_drew ?_ | with_reducible refine gr_drewN ?_ _ | with_reducible refine gr_trans ?_ (by assumption) | with_reducible refine gr_set ?_ ?_ _ | (simp; done) | omega | (simp; omega)))⟩
    · by_cases u2 : det a b c d = -1
      · have hs : sign? (det a b c d) = .tuple #[.int .i64 (-1), .bool true] := by simp [sign?, u2]
        rw [hs] at hlk
        clear hs u1
        have H1 := hid u2
        clear u2
        go_wp2
        go_rounds 5
        refine bodyPost_ret (res_A (e := 2) rfl Try.underlying44 (by kernel_rfl) rfl (by (repeat (first | with_reducible assumption | with_reducible exact Arr.box (by assumption) | with_reducible apply Arr.drew | with_reducible apply Arr.drewN | with_reducible refine Arr.store4 ?_ | with_reducible apply Arr.alloc | with_reducible refine Box.drew ?_ | with_reducible refine Box.drewN ?_ _ | with_reducible refine Box.alloc ?_ _ | refine Arr.oth ?_ (by first | (simp; done) | omega | (simp; omega)) _ | refine Box.oth ?_ (by first | (simp; done) | omega | (simp; omega)) _)))) rfl ?_
        have k0 : isUnit a b c d = true := by simp [isUnit, H1.out]
        exact ⟨ret_fb (by simp [ifB, k0, H1.out]) (by simp [ifB, k0, H1.out]) (by simp [ifB, k0, H1.out]) (by simp [ifB, k0, H1.out]) (by simp [k0]), by (repeat' (first | with_reducible exact Below.refl _ _ | with_reducible assumption | with_reducible refine gr_alloc ?_ _ | with_reducible refine gr_drew ?_ | with_reducible refine gr_drewN ?_ _ | with_reducible refine gr_trans ?_ (by assumption) | with_reducible refine gr_set ?_ ?_ _ | (simp; done) | omega | (simp; omega)))⟩
      · have hs : sign? (det a b c d) = .tuple #[.int .i64 0, .bool false] := by simp [sign?, u1, u2]
        rw [hs] at hlk
        clear hs
        have k0 : isUnit a b c d = false := by simp [isUnit, u1, u2]
        have K0 := hid k0
        clear k0 u1 u2
        go_wp2
        refine bodyPost_ret (res_A (e := 2) rfl Try.underlying44 (by kernel_rfl) rfl (by (repeat (first | with_reducible assumption | with_reducible exact Arr.box (by assumption) | with_reducible apply Arr.drew | with_reducible apply Arr.drewN | with_reducible refine Arr.store4 ?_ | with_reducible apply Arr.alloc | with_reducible refine Box.drew ?_ | with_reducible refine Box.drewN ?_ _ | with_reducible refine Box.alloc ?_ _ | refine Arr.oth ?_ (by first | (simp; done) | omega | (simp; omega)) _ | refine Box.oth ?_ (by first | (simp; done) | omega | (simp; omega)) _)))) rfl ?_
        have k0 := K0.out
        exact ⟨ret_fb (by simp [ifB, k0]) (by simp [ifB, k0]) (by simp [ifB, k0]) (by simp [ifB, k0]) (by simp [k0]), by (repeat' (first | with_reducible exact Below.refl _ _ | with_reducible assumption | with_reducible refine gr_alloc ?_ _ | with_reducible refine gr_drew ?_ | with_reducible refine gr_drewN ?_ _ | with_reducible refine gr_trans ?_ (by assumption) | with_reducible refine gr_set ?_ ?_ _ | (simp; done) | omega | (simp; omega)))⟩



end Go.Proofs.Ytikmjefbjejbkaa
