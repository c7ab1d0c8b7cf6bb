/- Chapter 2: the model's l02Normal, l02To. -/
import Derived.Test.YtikmjefbjejbkaaBbZ24
namespace Go.Proofs.Ytikmjefbjejbkaa
open Go.RowKit

set_option maxRecDepth 100000 in
set_option maxHeartbeats 4000000 in
theorem sNormal_any (a b c d : Int) (s : Bool) (T M N : Red.F4) (hU : Red.UB T) (hs : ∀ u, Rd.Sm u → Rd.dt u * Rd.dt u = 1 → decide (0 < dsc (Rd.ch T u).1 (Rd.ch T u).2.1 (Rd.ch T u).2.2.1 (Rd.ch T u).2.2.2) = s)
    (hN : ∀ xs, Rd.Got s T (Rd.uni 81) xs → xs[0]? = some N)
    (hR : ∀ w, Calls Try.prog 70 #[.agg #[.int .i64 a, .int .i64 b, .int .i64 c, .int .i64 d]] w fun e w' => e = .returned (.tuple #[vF T, vF M]) ∧ Below w.heap.size w w') (w : World) :
    Calls Try.prog 63 #[.agg #[.int .i64 a, .int .i64 b, .int .i64 c, .int .i64 d]] w fun e w' => e = .returned (vF N) ∧ Below w.heap.size w w' := by
  have HF := hid (fun W => sForms_any s T hU hs W)
  have HR := hid hR; have HN := hid hN
  clear hU hs hR hN
  obtain ⟨ta, tb, tc, td⟩ := T
  obtain ⟨ma, mb, mc, md⟩ := M
  obtain ⟨n0, n1, n2, n3⟩ := N
  unfold vF at HR HF ⊢
  dsimp only at HR HF ⊢
  have A0 := (Arr.new w a b c d 26).alloc (.cells #[.int .i64 0, .int .i64 0, .int .i64 0, .int .i64 0] 26)
  have B0 := Arr.new (w.alloc (.cells #[.int .i64 a, .int .i64 b, .int .i64 c, .int .i64 d] 26)) 0 0 0 0 26
  have U0 := gr_alloc (gr_alloc (Below.refl w.heap.size w) (.cells #[.int .i64 a, .int .i64 b, .int .i64 c, .int .i64 d] 26)) (.cells #[.int .i64 0, .int .i64 0, .int .i64 0, .int .i64 0] 26)
  simp only [World.size_alloc] at B0
  go_enter Try.func63, Try.ntmps63
  obtain ⟨_, a0, a1, a2, a3, _⟩ := id A0
  go_wp2_with fail
  generalize (w.alloc (.cells #[.int .i64 a, .int .i64 b, .int .i64 c, .int .i64 d] 26)).alloc (.cells #[.int .i64 0, .int .i64 0, .int .i64 0, .int .i64 0] 26) = W0 at A0 B0 U0 ⊢
  refine (HR.out _).mono ?_
  rintro e w1 ⟨rfl, hb1⟩
  have B1 := B0.next hb1; have U1 := gr_trans U0 hb1
  clear a0 a1 a2 a3 A0 B0 U0 hb1
  have T2 := (Arr.new w1 ta tb tc td 26).alloc (.cells #[.int .i64 ma, .int .i64 mb, .int .i64 mc, .int .i64 md] 44)
  have B2 := (B1.alloc (.cells #[.int .i64 ta, .int .i64 tb, .int .i64 tc, .int .i64 td] 26)).alloc (.cells #[.int .i64 ma, .int .i64 mb, .int .i64 mc, .int .i64 md] 44)
  have U2 := gr_alloc (gr_alloc U1 (.cells #[.int .i64 ta, .int .i64 tb, .int .i64 tc, .int .i64 td] 26)) (.cells #[.int .i64 ma, .int .i64 mb, .int .i64 mc, .int .i64 md] 44)
  go_upto_region 2 with fail
  generalize hj : w1.heap.size = j at *
  generalize (w1.alloc (.cells #[.int .i64 ta, .int .i64 tb, .int .i64 tc, .int .i64 td] 26)).alloc (.cells #[.int .i64 ma, .int .i64 mb, .int .i64 mc, .int .i64 md] 44) = W2 at T2 B2 U2 ⊢
  clear hj B1 U1
  obtain ⟨_, c0, c1, c2, c3, _⟩ := id T2
  go_wp2_with fail
  refine (HF.out _).mono ?_
  rintro e w3 ⟨g, n, cap, xs, rfl, hgot, hlen, hrow, hb3⟩
  have hx := HN.out xs hgot
  have hrd := hrow.rda
  have hat := hrd.1.at4 0 _ hx
  have hnl : 0 < n := by rw [hrd.2]; exact (List.getElem?_eq_some_iff.1 hx).1
  have hle := hrd.1.le
  have hmx := hrd.1.mx
  unfold maxLen at hmx
  rw [← hrd.2] at hle
  have B3 := B2.next hb3; have U3 := gr_trans U2 hb3
  clear c0 c1 c2 c3 T2 B2 U2 hb3 hgot hlen hrow hx hrd
  simp only [Nat.zero_mul] at hat
  obtain ⟨_, c0, c1, c2, c3⟩ := id hat
  simp only [Nat.zero_add] at c1 c2 c3
  obtain ⟨_, d0, d1, d2, d3, f0, f1, f2, f3⟩ := id B3
  have hn0 : (0 : Int) < (n : Int) := by omega
  go_wp2_with fail
  refine bodyPost_ret (res_A1 (e := 2) rfl Try.underlying26 (by kernel_rfl) rfl (Arr.store4 B3.box)) rfl ?_
  exact ⟨rfl, by (repeat' (first | with_reducible exact Below.refl _ _ | with_reducible assumption | with_reducible refine gr_alloc ?_ _ | with_reducible refine gr_drew ?_ | with_reducible refine gr_drewN ?_ _ | with_reducible refine gr_trans ?_ (by assumption) | with_reducible refine gr_set ?_ ?_ _ | (simp; done) | omega | (simp; omega)))⟩

end Go.Proofs.Ytikmjefbjejbkaa
