/- Chapter 2: ReducingMatrix: the model walked. -/
import Derived.Test.YtipeeljapmiciaaQd
namespace Go.Proofs.Ytipeeljapmiciaa
open Go.RowKit

theorem first_atM {w : World} {B g n cap : Nat} {xs : List Red.F4} {x y z u : Int} (h : RowM B w (.slice (some ⟨g, 0, none⟩) n cap) xs) (hx : xs[0]? = some (x, y, z, u)) : First w g x y z u ∧ (0 : Int) < (n : Int) ∧ (0 : Int) ≤ (n : Int) ∧ 0 < n ∧ n ≤ cap ∧ cap ≤ 2 ^ 63 - 1 := by
  have hat := h.rda.1.at4 0 _ hx
  simp only [Nat.zero_mul] at hat
  obtain ⟨h0, h1, h2, h3, h4⟩ := hat
  simp only [Nat.zero_add] at h2 h3 h4
  have h5 := (List.getElem?_eq_some_iff.1 hx).1
  have h6 := h.rda.2
  have h7 := h.rda.1.le
  have h8 := h.rda.1.mx
  unfold maxLen at h8
  exact ⟨⟨h0, h1, h2, h3, h4⟩, by omega, by omega, by omega, by omega, by omega⟩
set_option maxRecDepth 100000 in
set_option maxHeartbeats 2000000 in
theorem sReducingMatrix_any (a b c d : Int) (w : World) : Calls Try.prog 21 #[.agg #[.int .i64 a, .int .i64 b, .int .i64 c, .int .i64 d]] w (RmOut a b c d w) := by
  have A0 := ((Arr.new w a b c d 23).alloc (.cells #[.int .i64 0, .int .i64 0, .int .i64 0, .int .i64 0] 34)).alloc (.cells #[.int .i64 a, .int .i64 b, .int .i64 c, .int .i64 d] 23)
  have R0 := (Arr.new (w.alloc (.cells #[.int .i64 a, .int .i64 b, .int .i64 c, .int .i64 d] 23)) 0 0 0 0 34).alloc (.cells #[.int .i64 a, .int .i64 b, .int .i64 c, .int .i64 d] 23)
  have B0 := Arr.new ((w.alloc (.cells #[.int .i64 a, .int .i64 b, .int .i64 c, .int .i64 d] 23)).alloc (.cells #[.int .i64 0, .int .i64 0, .int .i64 0, .int .i64 0] 34)) a b c d 23
  have U0 := gr_alloc (gr_alloc (gr_alloc (Below.refl w.heap.size w) (.cells #[.int .i64 a, .int .i64 b, .int .i64 c, .int .i64 d] 23)) (.cells #[.int .i64 0, .int .i64 0, .int .i64 0, .int .i64 0] 34)) (.cells #[.int .i64 a, .int .i64 b, .int .i64 c, .int .i64 d] 23)
  simp only [World.size_alloc] at B0 R0
  go_enter Try.func21, Try.ntmps21
  go_wp2_with fail
  refine (sCode1_any _ a b c d _ B0).mono ?_
  rintro e w1 ⟨rfl, hb1⟩
  have A1 := A0.next hb1; have R1 := R0.next hb1; have U1 := gr_trans U0 hb1
  clear A0 R0 B0 U0 hb1
  unfold RmOut
  by_cases hk : rcd a b c d = 0
  · have HW := hid (fun W => sWy_any a b c d hk W)
    have HC : Hid (rmc a b c d = if isF (rdm a b c d).1 (rdm a b c d).2.1 (rdm a b c d).2.2.1 (rdm a b c d).2.2.2 then 0 else 3) := hid (by unfold rmc; rw [if_pos hk])
    have HV : Hid (∀ f, rmv a b c d f = if rmc a b c d = 0 then f (rdm a b c d) else 0) := hid (fun f => rfl)
    have HHD : Hid (∀ xs, Rd.Asc xs → xs.Perm (nwy a b c d) → xs[0]? = some (rdm a b c d)) := hid (fun xs h1 h2 => asc_head (nwy_ne hk) h1 h2)
    rw [hk]
    clear hk
    generalize nwy a b c d = ways at HW HHD
    obtain ⟨_, a0, a1, a2, a3, _⟩ := id A1
    go_wp2_with fail
    refine (HW.out _).mono ?_
    rintro e w4 ⟨g, n, cap, xs, rfl, hasc, hperm, hrow, hb4⟩
    have hx := HHD.out xs hasc hperm
    have R3 := R1; have U3 := U1
    generalize rdm a b c d = D at HC HV hx
    obtain ⟨x0, x1, x2, x3⟩ := D
    dsimp only at HC HV
    obtain ⟨F, hn1, hn2, hn3, hn4, hn5⟩ := first_atM hrow hx
    obtain ⟨_, c0, c1, c2, c3⟩ := id F
    clear a0 a1 a2 a3 A1 R1 U1 hrow hx hasc hperm HW HHD
    have R4 := (R3.next hb4).alloc (.cells #[.int .i64 x0, .int .i64 x1, .int .i64 x2, .int .i64 x3] 34); have U4 := gr_alloc (gr_trans U3 hb4) (.cells #[.int .i64 x0, .int .i64 x1, .int .i64 x2, .int .i64 x3] 34)
    have X4 := Arr.new w4 x0 x1 x2 x3 34
    clear R3 U3 hb4
    obtain ⟨_, d0, d1, d2, d3, _⟩ := id X4
    go_wp2_with fail
    refine (sIsMatrix_any x0 x1 x2 x3 _).mono ?_
    rintro e w5 ⟨rfl, hb5⟩
    have R5 := R4.next hb5; have U5 := gr_trans U4 hb5; have X5 := X4.next hb5
    clear R4 U4 X4 hb5 d0 d1 d2 d3
    obtain ⟨_, r0, r1, r2, r3, f0, f1, f2, f3⟩ := id R5
    obtain ⟨_, d0, d1, d2, d3, _⟩ := id X5
    cases hf : isF x0 x1 x2 x3
    all_goals
      go_wp2_with fail
      refine bodyPost_ret (res_A (e := 2) rfl Try.underlying34 (by kernel_rfl) rfl (Arr.store4 R5.box)) rfl ?_
      refine ⟨?_, by (repeat' (first | with_reducible exact Below.refl _ _ | with_reducible assumption | with_reducible refine gr_alloc ?_ _ | with_reducible refine gr_drew ?_ | with_reducible refine gr_drewN ?_ _ | with_reducible refine gr_trans ?_ (by assumption) | with_reducible refine gr_set ?_ ?_ _ | (simp; done) | omega | (simp; omega)))⟩
      rw [HV.out, HV.out, HV.out, HV.out, HC.out]
      simp_all
  · have HK := hid hk
    have hk' : (rcd a b c d == 0) = false := by simpa using hk
    have HC : Hid (rmc a b c d = rcd a b c d) := hid (by unfold rmc; rw [if_neg hk])
    have HV : Hid (∀ f, rmv a b c d f = 0) := hid (fun f => by unfold rmv; rw [HC.out, if_neg hk])
    clear hk
    obtain ⟨_, r0, r1, r2, r3, f0, f1, f2, f3⟩ := id R1
    go_wp2_with fail
    refine bodyPost_ret (res_A (e := 2) rfl Try.underlying34 (by kernel_rfl) rfl (Arr.store4 R1.box)) rfl ?_
    refine ⟨?_, by (repeat' (first | with_reducible exact Below.refl _ _ | with_reducible assumption | with_reducible refine gr_alloc ?_ _ | with_reducible refine gr_drew ?_ | with_reducible refine gr_drewN ?_ _ | with_reducible refine gr_trans ?_ (by assumption) | with_reducible refine gr_set ?_ ?_ _ | (simp; done) | omega | (simp; omega)))⟩
    rw [HV.out, HV.out, HV.out, HV.out, HC.out]
    rfl

end Go.Proofs.Ytipeeljapmiciaa
