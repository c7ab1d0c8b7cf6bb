/- Chapter 10: ReduceQuadratic. -/
import Derived.Test.YtehbkmohfipmgaaBtZl
namespace Go.Proofs.Ytehbkmohfipmgaa
open Go.RowKit

theorem df_pos {a b c : Int} (h : df10 a b c = true) : Pos (dsq (a, b, c)) (a, b, c) ∧ -2000 ≤ dsq (a, b, c) ∧ Sm (a, b, c) ∧ dq a b c = dsq (a, b, c) ∧ Int.gcd (Int.gcd a b) c = 1 := by
  simp only [df10, Bool.and_eq_true, decide_eq_true_eq, beq_iff_eq] at h
  obtain ⟨h1, h2, h3, h4⟩ := h
  obtain ⟨ha, hb, hc⟩ := isM_t h1
  obtain ⟨⟨d1, d2⟩, _⟩ := dcl_t h2
  have hbb := mulb (A := 1000000) (B := 1000000) hb hb
  have hac := mulb (A := 1000000) (B := 1000000) ha hc
  have e4 : 4 * a * c = 4 * (a * c) := Int.mul_assoc _ _ _
  have e : dq a b c = dsq (a, b, c) := dq_in (by omega) (by omega)
  rw [e] at d1 d2
  refine ⟨⟨h3, rfl, by omega⟩, d1, ⟨?_, ?_, ?_⟩, e, ?_⟩
  · show a ≤ 1000000000; omega
  · show -1000000000 ≤ b; omega
  · show b ≤ 1000000000; omega
  · have := h4
    unfold cnt3 at this
    omega
theorem dc1_0 {a b c : Int} : dc1 a b c = 0 ↔ isQ a b c = true ∧ df10 a b c = true := by
  unfold dc1
  cases isQ a b c <;> cases df10 a b c <;> simp
def rqv (a b c x : Int) : Int := if dc1 a b c = 0 then x else 0

set_option maxRecDepth 100000 in
set_option maxHeartbeats 1000000 in
theorem iReduceQ_any (a b c : Int) (w : World) : Calls Try.prog 10 #[.agg #[.int .i64 a, .int .i64 b, .int .i64 c]] w fun e w' => e = .returned (.tuple #[.agg #[.int .i64 (rqv a b c (red (a, b, c)).1), .int .i64 (rqv a b c (red (a, b, c)).2.1), .int .i64 (rqv a b c (red (a, b, c)).2.2)], .int .i64 (dc1 a b c)]) ∧ Below w.heap.size w w' := by
  have A0 := (Arr3.new w a b c 25).alloc (.cells #[.int .i64 0, .int .i64 0, .int .i64 0] 25)
  have B0 := Arr3.new (w.alloc (.cells #[.int .i64 a, .int .i64 b, .int .i64 c] 25)) 0 0 0 25
  have U0 := gr_alloc (gr_alloc (Below.refl w.heap.size w) (.cells #[.int .i64 a, .int .i64 b, .int .i64 c] 25)) (.cells #[.int .i64 0, .int .i64 0, .int .i64 0] 25)
  simp only [World.size_alloc] at B0
  have hc := fun k W h => iCode1_any k a b c W h
  have hr : dc1 a b c = 0 → ∀ W, Calls Try.prog 41 #[.agg #[.int .i64 a, .int .i64 b, .int .i64 c]] W fun e w' => e = .returned (.agg #[.int .i64 ((red (a, b, c)).1), .int .i64 ((red (a, b, c)).2.1), .int .i64 ((red (a, b, c)).2.2)]) ∧ Below W.heap.size W w' := fun h W => by
    obtain ⟨h1, h2, h3, _⟩ := df_pos (dc1_0.1 h).2
    exact reduced_any a b c _ W h1 h2 h3
  have hv : ∀ x, rqv a b c x = if dc1 a b c = 0 then x else 0 := fun _ => rfl
  generalize (red (a, b, c)).1 = r0 at hr ⊢
  generalize (red (a, b, c)).2.1 = r1 at hr ⊢
  generalize (red (a, b, c)).2.2 = r2 at hr ⊢
  simp only [hv]
  generalize dc1 a b c = k at hc hr ⊢
  have HC := hid hc; have HR := hid hr
  clear hc hr hv
  go_enter Try.func10, Try.ntmps10
  go_upto_region 1 with fail
  generalize hW : (w.alloc (.cells #[.int .i64 a, .int .i64 b, .int .i64 c] 25)).alloc (.cells #[.int .i64 0, .int .i64 0, .int .i64 0] 25) = W0 at A0 B0 U0 ⊢
  clear hW
  obtain ⟨_, a0, a1, a2, _⟩ := id A0
  have K := Arr3.new W0 a b c 25
  have A1 := A0.alloc (.cells #[.int .i64 a, .int .i64 b, .int .i64 c] 25)
  have B1 := B0.alloc (.cells #[.int .i64 a, .int .i64 b, .int .i64 c] 25)
  have U1 := gr_alloc U0 (.cells #[.int .i64 a, .int .i64 b, .int .i64 c] 25)
  go_wp2_with fail
  refine (HC.out _ _ K.at).mono ?_
  rintro e w1 ⟨rfl, hb1⟩
  have A2 := A1.next hb1
  have B2 := B1.next hb1
  have U2 := gr_trans U1 hb1
  clear a0 a1 a2 A0 B0 U0 A1 B1 U1 K
  by_cases hk : k = 0
  · subst hk
    obtain ⟨_, a0, a1, a2, _⟩ := id A2
    go_wp2_with fail
    refine (HR.out (by simp) _).mono ?_
    rintro e w2 ⟨rfl, hb2⟩
    have B3 := B2.next hb2
    obtain ⟨_, x0, x1, x2, f0, f1, f2⟩ := id B3
    go_wp2
    refine bodyPost_ret (res_A3 (e := 2) rfl Try.underlying25 (by kernel_rfl) rfl (by (repeat (first | with_reducible assumption | with_reducible exact Arr3.box (by assumption) | with_reducible exact Arr3.new _ _ _ _ _ | with_reducible refine Arr3.drew ?_ | with_reducible refine Arr3.drewN ?_ _ | with_reducible refine Arr3.store3 ?_ | with_reducible refine Arr3.alloc ?_ _ | with_reducible refine Arr3.next ?_ (by assumption) | refine Arr3.oth ?_ (by first | (simp; done) | omega | (simp; omega)) _ )))) rfl ?_
    exact ⟨by simp, by (repeat' (first | with_reducible exact Below.refl _ _ | with_reducible assumption | with_reducible refine gr_alloc ?_ _ | with_reducible refine gr_drew ?_ | with_reducible refine gr_drewN ?_ _ | with_reducible refine gr_trans ?_ (by assumption) | with_reducible refine gr_set ?_ ?_ _ | (simp; done) | omega | (simp; omega)))⟩
  · have hk' : (k == 0) = false := by simpa using hk
    have HK := hid hk
    clear hk
    obtain ⟨_, x0, x1, x2, f0, f1, f2⟩ := id B2
    go_wp2
    refine bodyPost_ret (res_A3 (e := 2) rfl Try.underlying25 (by kernel_rfl) rfl (by (repeat (first | with_reducible assumption | with_reducible exact Arr3.box (by assumption) | with_reducible exact Arr3.new _ _ _ _ _ | with_reducible refine Arr3.drew ?_ | with_reducible refine Arr3.drewN ?_ _ | with_reducible refine Arr3.store3 ?_ | with_reducible refine Arr3.alloc ?_ _ | with_reducible refine Arr3.next ?_ (by assumption) | refine Arr3.oth ?_ (by first | (simp; done) | omega | (simp; omega)) _ )))) rfl ?_
    exact ⟨by simp, by (repeat' (first | with_reducible exact Below.refl _ _ | with_reducible assumption | with_reducible refine gr_alloc ?_ _ | with_reducible refine gr_drew ?_ | with_reducible refine gr_drewN ?_ _ | with_reducible refine gr_trans ?_ (by assumption) | with_reducible refine gr_set ?_ ?_ _ | (simp; done) | omega | (simp; omega)))⟩

set_option maxRecDepth 100000 in
set_option maxHeartbeats 1000000 in
theorem sReduceQ_any (a b c : Int) (w : World) : Calls Try.prog 11 #[.agg #[.int .i64 a, .int .i64 b, .int .i64 c]] w fun e w' => e = .returned (.tuple #[.agg #[.int .i64 (rqv a b c (red (a, b, c)).1), .int .i64 (rqv a b c (red (a, b, c)).2.1), .int .i64 (rqv a b c (red (a, b, c)).2.2)], .int .i64 (dc1 a b c)]) ∧ Below w.heap.size w w' := by
  have A0 := (Arr3.new w a b c 25).alloc (.cells #[.int .i64 0, .int .i64 0, .int .i64 0] 25)
  have B0 := Arr3.new (w.alloc (.cells #[.int .i64 a, .int .i64 b, .int .i64 c] 25)) 0 0 0 25
  have U0 := gr_alloc (gr_alloc (Below.refl w.heap.size w) (.cells #[.int .i64 a, .int .i64 b, .int .i64 c] 25)) (.cells #[.int .i64 0, .int .i64 0, .int .i64 0] 25)
  simp only [World.size_alloc] at B0
  have hc := fun k W h => sCode1_any k a b c W h
  have hr : dc1 a b c = 0 → ∀ W, Calls Try.prog 44 #[.agg #[.int .i64 a, .int .i64 b, .int .i64 c]] W fun e w' => e = .returned (.agg #[.int .i64 ((red (a, b, c)).1), .int .i64 ((red (a, b, c)).2.1), .int .i64 ((red (a, b, c)).2.2)]) ∧ Below W.heap.size W w' := fun h W => by
    obtain ⟨h1, h2, h3, _⟩ := df_pos (dc1_0.1 h).2
    exact l10Reduce_any a b c _ W h1 h2 h3
  have hv : ∀ x, rqv a b c x = if dc1 a b c = 0 then x else 0 := fun _ => rfl
  generalize (red (a, b, c)).1 = r0 at hr ⊢
  generalize (red (a, b, c)).2.1 = r1 at hr ⊢
  generalize (red (a, b, c)).2.2 = r2 at hr ⊢
  simp only [hv]
  generalize dc1 a b c = k at hc hr ⊢
  have HC := hid hc; have HR := hid hr
  clear hc hr hv
  go_enter Try.func11, Try.ntmps11
  go_upto_region 1 with fail
  generalize hW : (w.alloc (.cells #[.int .i64 a, .int .i64 b, .int .i64 c] 25)).alloc (.cells #[.int .i64 0, .int .i64 0, .int .i64 0] 25) = W0 at A0 B0 U0 ⊢
  clear hW
  obtain ⟨_, a0, a1, a2, _⟩ := id A0
  have K := Arr3.new W0 a b c 25
  have A1 := A0.alloc (.cells #[.int .i64 a, .int .i64 b, .int .i64 c] 25)
  have B1 := B0.alloc (.cells #[.int .i64 a, .int .i64 b, .int .i64 c] 25)
  have U1 := gr_alloc U0 (.cells #[.int .i64 a, .int .i64 b, .int .i64 c] 25)
  go_wp2_with fail
  refine (HC.out _ _ K.at).mono ?_
  rintro e w1 ⟨rfl, hb1⟩
  have A2 := A1.next hb1
  have B2 := B1.next hb1
  have U2 := gr_trans U1 hb1
  clear a0 a1 a2 A0 B0 U0 A1 B1 U1 K
  by_cases hk : k = 0
  · subst hk
    obtain ⟨_, a0, a1, a2, _⟩ := id A2
    go_wp2_with fail
    refine (HR.out (by simp) _).mono ?_
    rintro e w2 ⟨rfl, hb2⟩
    have B3 := B2.next hb2
    obtain ⟨_, x0, x1, x2, f0, f1, f2⟩ := id B3
    go_wp2
    refine bodyPost_ret (res_A3 (e := 2) rfl Try.underlying25 (by kernel_rfl) rfl (by (repeat (first | with_reducible assumption | with_reducible exact Arr3.box (by assumption) | with_reducible exact Arr3.new _ _ _ _ _ | with_reducible refine Arr3.drew ?_ | with_reducible refine Arr3.drewN ?_ _ | with_reducible refine Arr3.store3 ?_ | with_reducible refine Arr3.alloc ?_ _ | with_reducible refine Arr3.next ?_ (by assumption) | refine Arr3.oth ?_ (by first | (simp; done) | omega | (simp; omega)) _ )))) rfl ?_
    exact ⟨by simp, by (repeat' (first | with_reducible exact Below.refl _ _ | with_reducible assumption | with_reducible refine gr_alloc ?_ _ | with_reducible refine gr_drew ?_ | with_reducible refine gr_drewN ?_ _ | with_reducible refine gr_trans ?_ (by assumption) | with_reducible refine gr_set ?_ ?_ _ | (simp; done) | omega | (simp; omega)))⟩
  · have hk' : (k == 0) = false := by simpa using hk
    have HK := hid hk
    clear hk
    obtain ⟨_, x0, x1, x2, f0, f1, f2⟩ := id B2
    go_wp2
    refine bodyPost_ret (res_A3 (e := 2) rfl Try.underlying25 (by kernel_rfl) rfl (by (repeat (first | with_reducible assumption | with_reducible exact Arr3.box (by assumption) | with_reducible exact Arr3.new _ _ _ _ _ | with_reducible refine Arr3.drew ?_ | with_reducible refine Arr3.drewN ?_ _ | with_reducible refine Arr3.store3 ?_ | with_reducible refine Arr3.alloc ?_ _ | with_reducible refine Arr3.next ?_ (by assumption) | refine Arr3.oth ?_ (by first | (simp; done) | omega | (simp; omega)) _ )))) rfl ?_
    exact ⟨by simp, by (repeat' (first | with_reducible exact Below.refl _ _ | with_reducible assumption | with_reducible refine gr_alloc ?_ _ | with_reducible refine gr_drew ?_ | with_reducible refine gr_drewN ?_ _ | with_reducible refine gr_trans ?_ (by assumption) | with_reducible refine gr_set ?_ ?_ _ | (simp; done) | omega | (simp; omega)))⟩


end Go.Proofs.Ytehbkmohfipmgaa
