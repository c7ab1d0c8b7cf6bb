/- Chapter 10: the program's tests of definite forms. -/
import Derived.Test.YtmhlolimaeejfaaZb
namespace Go.Proofs.Ytmhlolimaeejfaa
open Go.RowKit

set_option maxRecDepth 100000 in
set_option maxHeartbeats 1000000 in
theorem isDef0_any (a b c : Int) (w : World) : Calls Try.prog 69 #[.agg #[.int .i64 a, .int .i64 b, .int .i64 c]] w fun e w' => e = .returned (.bool (df10 a b c)) ∧ Below w.heap.size w w' := by
  have A0 := (Arr3.new w a b c 26).alloc (.cells #[Value.func (Fn.func 109) #[] #[], Value.func (Fn.func 110) #[] #[], Value.func (Fn.func 111) #[] #[], Value.func (Fn.func 112) #[] #[]] 106)
  have ix0 : ∀ w : World, (Instr.index 106 (.agg #[Value.func (Fn.func 109) #[] #[], Value.func (Fn.func 110) #[] #[], Value.func (Fn.func 111) #[] #[], Value.func (Fn.func 112) #[] #[]]) (.int .i64 0)).run Try.prog w = .ok (Value.func (Fn.func 109) #[] #[]) w := fun _ => by kernel_rfl
  have ix1 : ∀ w : World, (Instr.index 106 (.agg #[Value.func (Fn.func 109) #[] #[], Value.func (Fn.func 110) #[] #[], Value.func (Fn.func 111) #[] #[], Value.func (Fn.func 112) #[] #[]]) (.int .i64 1)).run Try.prog w = .ok (Value.func (Fn.func 110) #[] #[]) w := fun _ => by kernel_rfl
  have ix2 : ∀ w : World, (Instr.index 106 (.agg #[Value.func (Fn.func 109) #[] #[], Value.func (Fn.func 110) #[] #[], Value.func (Fn.func 111) #[] #[], Value.func (Fn.func 112) #[] #[]]) (.int .i64 2)).run Try.prog w = .ok (Value.func (Fn.func 111) #[] #[]) w := fun _ => by kernel_rfl
  have ix3 : ∀ w : World, (Instr.index 106 (.agg #[Value.func (Fn.func 109) #[] #[], Value.func (Fn.func 110) #[] #[], Value.func (Fn.func 111) #[] #[], Value.func (Fn.func 112) #[] #[]]) (.int .i64 3)).run Try.prog w = .ok (Value.func (Fn.func 112) #[] #[]) w := fun _ => by kernel_rfl
  have hr : ∀ r : Bool, r = df10 a b c → Hid (df10 a b c = r) := fun r h => hid h.symm
  cases h1 : isM a b c with
  | false =>
    have H1 := fun W => isSmall_any a b c W
    rw [h1] at H1
    have HR := hr false (by simp [df10, h1])
    have HH := hid H1
    clear H1 h1 hr
    go_enter Try.func69, Try.ntmps69
    go_wp2_with fail
    refine wp_loop_rounds 5 ?_
    obtain ⟨_, c0, c1, c2, _⟩ := id A0
    rw [rounds_succ]; go_wp2_with fail
    refine (HH.out _).mono ?_
    rintro e x1 ⟨rfl, hx1⟩
    go_wp2
    go_ret
    exact ⟨ret_bool HR.out.symm, by (repeat' (first | with_reducible exact Below.refl _ _ | with_reducible assumption | with_reducible refine gr_alloc ?_ _ | with_reducible refine gr_drew ?_ | with_reducible refine gr_drewN ?_ _ | with_reducible refine gr_trans ?_ (by assumption) | with_reducible refine gr_set ?_ ?_ _ | (simp; done) | omega | (simp; omega)))⟩
  | true =>
    obtain ⟨ha, hb, hc⟩ := isM_t h1
    have H1 := fun W => isSmall_any a b c W
    have H2 := fun W => isClassed_any a b c W
    have H3 := fun W => startsPositive_any a b c W
    have H4 := fun W => isPrimitive_any a b c W (by omega) (by omega) (by omega)
    have HE : Hid (df10 a b c = (dcl (dq a b c) && (decide (0 < a) && (cnt3 a b c == 1)))) := hid (by simp [df10, h1])
    rw [h1] at H1
    clear ha hb hc h1 hr
    generalize dcl (dq a b c) = x1 at H2 HE
    generalize decide (0 < a) = x2 at H3 HE
    generalize (cnt3 a b c == 1) = x3 at H4 HE
    generalize df10 a b c = x at HE ⊢
    have K1 := hid H1; have K2 := hid H2; have K3 := hid H3; have K4 := hid H4
    clear H1 H2 H3 H4
    go_enter Try.func69, Try.ntmps69
    go_wp2_with fail
    refine wp_loop_rounds 5 ?_
    obtain ⟨_, c0, c1, c2, _⟩ := id A0
    rw [rounds_succ]; go_wp2_with fail
    refine (K1.out _).mono ?_
    rintro e y1 ⟨rfl, hy1⟩
    have A1 := A0.next hy1
    clear c0 c1 c2
    obtain ⟨_, c0, c1, c2, _⟩ := id A1
    go_wp2_with fail
    rw [rounds_succ]; go_wp2_with fail
    refine (K2.out _).mono ?_
    rintro e y2 ⟨rfl, hy2⟩
    have A2 := A1.next hy2
    clear c0 c1 c2
    obtain ⟨_, c0, c1, c2, _⟩ := id A2
    cases x1 with
    | false =>
      go_wp2
      go_ret
      exact ⟨ret_bool (by simp [HE.out]), by (repeat' (first | with_reducible exact Below.refl _ _ | with_reducible assumption | with_reducible refine gr_alloc ?_ _ | with_reducible refine gr_drew ?_ | with_reducible refine gr_drewN ?_ _ | with_reducible refine gr_trans ?_ (by assumption) | with_reducible refine gr_set ?_ ?_ _ | (simp; done) | omega | (simp; omega)))⟩
    | true =>
      go_wp2_with fail
      rw [rounds_succ]; go_wp2_with fail
      refine (K3.out _).mono ?_
      rintro e y3 ⟨rfl, hy3⟩
      have A3 := A2.next hy3
      clear c0 c1 c2
      obtain ⟨_, c0, c1, c2, _⟩ := id A3
      cases x2 with
      | false =>
        go_wp2
        go_ret
        exact ⟨ret_bool (by simp [HE.out]), by (repeat' (first | with_reducible exact Below.refl _ _ | with_reducible assumption | with_reducible refine gr_alloc ?_ _ | with_reducible refine gr_drew ?_ | with_reducible refine gr_drewN ?_ _ | with_reducible refine gr_trans ?_ (by assumption) | with_reducible refine gr_set ?_ ?_ _ | (simp; done) | omega | (simp; omega)))⟩
      | true =>
        go_wp2_with fail
        rw [rounds_succ]; go_wp2_with fail
        refine (K4.out _).mono ?_
        rintro e y4 ⟨rfl, hy4⟩
        cases x3 with
        | false =>
          go_wp2
          go_ret
          exact ⟨ret_bool (by simp [HE.out]), by (repeat' (first | with_reducible exact Below.refl _ _ | with_reducible assumption | with_reducible refine gr_alloc ?_ _ | with_reducible refine gr_drew ?_ | with_reducible refine gr_drewN ?_ _ | with_reducible refine gr_trans ?_ (by assumption) | with_reducible refine gr_set ?_ ?_ _ | (simp; done) | omega | (simp; omega)))⟩
        | true =>
          go_wp2_with fail
          rw [rounds_succ]; go_wp2_with fail
          go_ret
          exact ⟨ret_bool (by simp [HE.out]), by (repeat' (first | with_reducible exact Below.refl _ _ | with_reducible assumption | with_reducible refine gr_alloc ?_ _ | with_reducible refine gr_drew ?_ | with_reducible refine gr_drewN ?_ _ | with_reducible refine gr_trans ?_ (by assumption) | with_reducible refine gr_set ?_ ?_ _ | (simp; done) | omega | (simp; omega)))⟩

end Go.Proofs.Ytmhlolimaeejfaa
