/- Chapter 6: the program's steps: raised and lowered forms at a point. -/
import Derived.Test.YtmhlolimaeejfaaOa
import Derived.Test.YtmhlolimaeejfaaC1v
import Derived.StillTailTactics
namespace Go.Proofs.Ytmhlolimaeejfaa
open Go.RowKit

/-- What a step answers. -/
def StP (ok : Bool) (x y z u : Int) (w : World) (e : Ending) (w' : World) : Prop := e = .returned (.tuple #[.agg #[.int .i64 (ifB ok x), .int .i64 (ifB ok y), .int .i64 (ifB ok z), .int .i64 (ifB ok u)], .bool ok]) ∧ Below w.heap.size w w'

set_option maxRecDepth 100000 in
set_option maxHeartbeats 4000000 in
theorem raisedAt_any (a b c d p r : Int) (w : World) (ha : -1000 ≤ a ∧ a ≤ 1000) (hb : -1000 ≤ b ∧ b ≤ 1000) (hc : -1000 ≤ c ∧ c ≤ 1000) (hd : -1000 ≤ d ∧ d ≤ 1000) (h2 : 2 ≤ p) (h97 : p ≤ 97) (h0 : 0 ≤ r) (hr : r ≤ p) :
    Calls Try.prog 88 #[.agg #[.int .i64 a, .int .i64 b, .int .i64 c, .int .i64 d], .int .i64 p, .int .i64 r] w (StP (rOk a b c d p r) (raA a b c d p r) (raB a b c d p r) (raC a b c d p r) (raD a b c d p r) w) := by
  obtain ⟨bA, bB, bC, bD⟩ := tu_bd (p := p) ha hb hc hd h0 (by omega)
  have k1 : r = p → tuA a b c d p r = a ∧ tuB a b c d p r = b ∧ tuC a b c d p r = c ∧ tuD a b c d p r = d := fun h => by simp [tuA, tuB, tuC, tuD, h]
  have k2 : r ≠ p → ∀ W, Calls Try.prog 116 #[.agg #[.int .i64 a, .int .i64 b, .int .i64 c, .int .i64 d], .agg #[.int .i64 r, .int .i64 (-1), .int .i64 1, .int .i64 0]] W fun e w' => e = .returned (.agg #[.int .i64 (tuA a b c d p r), .int .i64 (tuB a b c d p r), .int .i64 (tuC a b c d p r), .int .i64 (tuD a b c d p r)]) ∧ Below W.heap.size W w' := fun h W => by
    have hs := iChange_any a b c d r (-1) 1 0 1000 97 W ha hb hc hd (by omega) (by omega) (by omega) (by omega) (by omega) (by omega)
    rwa [show cA a b c d r 1 = tuA a b c d p r by simp [tuA, h], show cB a b c d r (-1) 1 0 = tuB a b c d p r by simp [tuB, h], show cC a b c d r (-1) 1 0 = tuC a b c d p r by simp [tuC, h], show cA a b c d (-1) 0 = tuD a b c d p r by simp [tuD, h]] at hs
  have hOk : rOk a b c d p r = (mul0 (tuA a b c d p r) (p * p) && mul0 (tuB a b c d p r) p) := rfl
  unfold raA raB raC raD
  generalize rOk a b c d p r = ok at hOk ⊢
  generalize tuA a b c d p r = x at *
  generalize tuB a b c d p r = y at *
  generalize tuC a b c d p r = z at *
  generalize tuD a b c d p r = u at *
  have K1 := hid k1; have K2 := hid k2
  clear k1 k2 ha hb hc hd
  obtain ⟨dx1, dx2⟩ := td_bd (m := p * p) bA
  obtain ⟨dy1, dy2⟩ := td_bd (m := p) bB
  obtain ⟨pu1, pu2⟩ := px_bd h2 h97 bD
  obtain ⟨pp1, pp2⟩ := pp_bd h2 h97
  have hz1 : (p * p == 0) = false := by simp; omega
  have hz3 : ¬ p * p = 0 := by omega
  have hz4 : ¬ p = 0 := by omega
  have hz2 : (p == 0) = false := by simp; omega
  have A0 := (Arr.new w a b c d 23).alloc (.cells #[.int .i64 0, .int .i64 0, .int .i64 0, .int .i64 0] 23)
  have R0 := Arr.new (w.alloc (.cells #[.int .i64 a, .int .i64 b, .int .i64 c, .int .i64 d] 23)) 0 0 0 0 23
  have U0 := gr_alloc (gr_alloc (Below.refl w.heap.size w) (.cells #[.int .i64 a, .int .i64 b, .int .i64 c, .int .i64 d] 23)) (.cells #[.int .i64 0, .int .i64 0, .int .i64 0, .int .i64 0] 23)
  simp only [World.size_alloc] at R0
  have HO := hid hOk
  clear hOk
  go_enter Try.func88, Try.ntmps88
  go_upto_if 16 with (fail)
  go_cut [8] (fun s8 wx => ∃ k : Nat, s8 = .pointer (some ⟨k, 0, none⟩) ∧ w.heap.size + 1 < k ∧ Arr wx k x y z u ∧ Arr wx (w.heap.size + 1) 0 0 0 0 ∧ Below w.heap.size w wx)
  case first =>
    by_cases h : r < p
    · have HC := hid (K2.out (by omega))
      go_wp2_with fail
      refine (HC.out _).mono ?_
      rintro e w1 ⟨rfl, hb1⟩
      have T1 := (Arr.new ((w.alloc (.cells #[.int .i64 a, .int .i64 b, .int .i64 c, .int .i64 d] 23)).alloc (.cells #[.int .i64 0, .int .i64 0, .int .i64 0, .int .i64 0] 23)) a b c d 23).next hb1
      have R1 := (R0.alloc (.cells #[.int .i64 a, .int .i64 b, .int .i64 c, .int .i64 d] 23)).next hb1
      have U1 := gr_trans (gr_alloc U0 (.cells #[.int .i64 a, .int .i64 b, .int .i64 c, .int .i64 d] 23)) hb1
      simp only [World.size_alloc] at T1
      obtain ⟨_, t0, t1, t2, t3, g0, g1, g2, g3⟩ := id T1
      have T2 := (((T1.set0 x).set1 y).set2 z).set3 u
      go_wp2_with fail
      go_meet
      exact ⟨_, rfl, by omega, T2, by (repeat (first | with_reducible assumption | with_reducible exact Arr.box (by assumption) | with_reducible apply Arr.drew | with_reducible apply Arr.drewN | with_reducible refine Arr.store4 ?_ | with_reducible apply Arr.alloc | with_reducible refine Box.drew ?_ | with_reducible refine Box.drewN ?_ _ | with_reducible refine Box.alloc ?_ _ | refine Arr.oth ?_ (by first | (simp; done) | omega | (simp; omega)) _ | refine Box.oth ?_ (by first | (simp; done) | omega | (simp; omega)) _)), by (repeat' (first | with_reducible exact Below.refl _ _ | with_reducible assumption | with_reducible refine gr_alloc ?_ _ | with_reducible refine gr_drew ?_ | with_reducible refine gr_drewN ?_ _ | with_reducible refine gr_trans ?_ (by assumption) | with_reducible refine gr_set ?_ ?_ _ | (simp; done) | omega | (simp; omega)))⟩
    · obtain ⟨rfl, rfl, rfl, rfl⟩ := K1.out (by omega)
      have T0 := Arr.new ((w.alloc (.cells #[.int .i64 x, .int .i64 y, .int .i64 z, .int .i64 u] 23)).alloc (.cells #[.int .i64 0, .int .i64 0, .int .i64 0, .int .i64 0] 23)) x y z u 23
      simp only [World.size_alloc] at T0
      go_wp2_with fail
      go_meet
      exact ⟨_, rfl, by omega, T0, R0.alloc _, by (repeat' (first | with_reducible exact Below.refl _ _ | with_reducible assumption | with_reducible refine gr_alloc ?_ _ | with_reducible refine gr_drew ?_ | with_reducible refine gr_drewN ?_ _ | with_reducible refine gr_trans ?_ (by assumption) | with_reducible refine gr_set ?_ ?_ _ | (simp; done) | omega | (simp; omega)))⟩
  case rest =>
    obtain ⟨k, rfl, hk, hT, hR, hU⟩ := hcut
    have hTl := hT.lt
    obtain ⟨_, t0, t1, t2, t3, _⟩ := id hT
    go_wp2_with fail
    go_quiet (fail)
    have R1 := hR.drewN nq
    have U1 := gr_drewN hU nq
    clear t0 t1 t2 t3 hT hR hU A0 R0 U0
    generalize wc.drewN nq = W1 at R1 U1 ⊢
    obtain ⟨_, r0, r1, r2, r3, f0, f1, f2, f3⟩ := id R1
    cases hx : mul0 x (p * p) with
    | false =>
      have HK := hid (show ok = false by rw [HO.out]; simp [hx])
      go_wp2_with (go_at_call 82; refine (isMultiple_any _ _ _ (by omega) (by omega)).mono ?_; rintro e w' ⟨rfl, rfl⟩)
      refine bodyPost_ret (res_A (e := 2) rfl Try.underlying23 (by kernel_rfl) rfl (by (repeat (first | with_reducible assumption | with_reducible exact Arr.box (by assumption) | with_reducible apply Arr.drew | with_reducible apply Arr.drewN | with_reducible refine Arr.store4 ?_ | with_reducible apply Arr.alloc | with_reducible refine Box.drew ?_ | with_reducible refine Box.drewN ?_ _ | with_reducible refine Box.alloc ?_ _ | refine Arr.oth ?_ (by first | (simp; done) | omega | (simp; omega)) _ | refine Box.oth ?_ (by first | (simp; done) | omega | (simp; omega)) _)))) rfl ?_
      rw [HK.out]
      exact ⟨rfl, by (repeat' (first | with_reducible exact Below.refl _ _ | with_reducible assumption | with_reducible refine gr_alloc ?_ _ | with_reducible refine gr_drew ?_ | with_reducible refine gr_drewN ?_ _ | with_reducible refine gr_trans ?_ (by assumption) | with_reducible refine gr_set ?_ ?_ _ | (simp; done) | omega | (simp; omega)))⟩
    | true =>
      cases hy : mul0 y p with
      | false =>
        have HK := hid (show ok = false by rw [HO.out]; simp [hy])
        go_wp2_with (go_at_call 82; refine (isMultiple_any _ _ _ (by omega) (by omega)).mono ?_; rintro e w' ⟨rfl, rfl⟩)
        refine bodyPost_ret (res_A (e := 2) rfl Try.underlying23 (by kernel_rfl) rfl (by (repeat (first | with_reducible assumption | with_reducible exact Arr.box (by assumption) | with_reducible apply Arr.drew | with_reducible apply Arr.drewN | with_reducible refine Arr.store4 ?_ | with_reducible apply Arr.alloc | with_reducible refine Box.drew ?_ | with_reducible refine Box.drewN ?_ _ | with_reducible refine Box.alloc ?_ _ | refine Arr.oth ?_ (by first | (simp; done) | omega | (simp; omega)) _ | refine Box.oth ?_ (by first | (simp; done) | omega | (simp; omega)) _)))) rfl ?_
        rw [HK.out]
        exact ⟨rfl, by (repeat' (first | with_reducible exact Below.refl _ _ | with_reducible assumption | with_reducible refine gr_alloc ?_ _ | with_reducible refine gr_drew ?_ | with_reducible refine gr_drewN ?_ _ | with_reducible refine gr_trans ?_ (by assumption) | with_reducible refine gr_set ?_ ?_ _ | (simp; done) | omega | (simp; omega)))⟩
      | true =>
        have HK := hid (show ok = true by rw [HO.out]; simp [hx, hy])
        go_wp2_with (go_at_call 82; refine (isMultiple_any _ _ _ (by omega) (by omega)).mono ?_; rintro e w' ⟨rfl, rfl⟩)
        have hwp : IntKind.i64.wrap (p * p) = p * p := i64w (by omega)
        have hwu : IntKind.i64.wrap (p * u) = p * u := i64w (by omega)
        have hwx : IntKind.i64.wrap (x.tdiv (p * p)) = x.tdiv (p * p) := i64w (by omega)
        have hwy : IntKind.i64.wrap (y.tdiv p) = y.tdiv p := i64w (by omega)
        go_still_tail 13, (by kernel_rfl)
        go_wp2_with fail
        refine bodyPost_ret (res_A (e := 2) rfl Try.underlying23 (by kernel_rfl) rfl (by (repeat (first | with_reducible assumption | with_reducible exact Arr.box (by assumption) | with_reducible apply Arr.drew | with_reducible apply Arr.drewN | with_reducible refine Arr.store4 ?_ | with_reducible apply Arr.alloc | with_reducible refine Box.drew ?_ | with_reducible refine Box.drewN ?_ _ | with_reducible refine Box.alloc ?_ _ | refine Arr.oth ?_ (by first | (simp; done) | omega | (simp; omega)) _ | refine Box.oth ?_ (by first | (simp; done) | omega | (simp; omega)) _)))) rfl ?_
        rw [HK.out]
        exact ⟨rfl, by (repeat' (first | with_reducible exact Below.refl _ _ | with_reducible assumption | with_reducible refine gr_alloc ?_ _ | with_reducible refine gr_drew ?_ | with_reducible refine gr_drewN ?_ _ | with_reducible refine gr_trans ?_ (by assumption) | with_reducible refine gr_set ?_ ?_ _ | (simp; done) | omega | (simp; omega)))⟩

set_option maxRecDepth 100000 in
set_option maxHeartbeats 4000000 in
theorem loweredAt_any (a b c d p r : Int) (w : World) (ha : -1000 ≤ a ∧ a ≤ 1000) (hb : -1000 ≤ b ∧ b ≤ 1000) (hc : -1000 ≤ c ∧ c ≤ 1000) (hd : -1000 ≤ d ∧ d ≤ 1000) (h2 : 2 ≤ p) (h97 : p ≤ 97) (h0 : 0 ≤ r) (hr : r ≤ p) :
    Calls Try.prog 96 #[.agg #[.int .i64 a, .int .i64 b, .int .i64 c, .int .i64 d], .int .i64 p, .int .i64 r] w (StP (lOk a b c d p r) (loA a b c d p r) (loB a b c d p r) (loC a b c d p r) (loD a b c d p r) w) := by
  obtain ⟨bA, bB, bC, bD⟩ := tl_bd (p := p) ha hb hc hd h0 (by omega)
  have k1 : r = p → ∀ W, Calls Try.prog 116 #[.agg #[.int .i64 a, .int .i64 b, .int .i64 c, .int .i64 d], .agg #[.int .i64 0, .int .i64 1, .int .i64 (-1), .int .i64 0]] W fun e w' => e = .returned (.agg #[.int .i64 (tlA a b c d p r), .int .i64 (tlB a b c d p r), .int .i64 (tlC a b c d p r), .int .i64 (tlD a b c d p r)]) ∧ Below W.heap.size W w' := fun h W => by
    have hs := iChange_any a b c d 0 1 (-1) 0 1000 97 W ha hb hc hd (by omega) (by omega) (by omega) (by omega) (by omega) (by omega)
    rwa [show cA a b c d 0 (-1) = tlA a b c d p r by simp [tlA, h], show cB a b c d 0 1 (-1) 0 = tlB a b c d p r by simp [tlB, h], show cC a b c d 0 1 (-1) 0 = tlC a b c d p r by simp [tlC, h], show cA a b c d 1 0 = tlD a b c d p r by simp [tlD, h]] at hs
  have k2 : r ≠ p → ∀ W, Calls Try.prog 116 #[.agg #[.int .i64 a, .int .i64 b, .int .i64 c, .int .i64 d], .agg #[.int .i64 1, .int .i64 r, .int .i64 0, .int .i64 1]] W fun e w' => e = .returned (.agg #[.int .i64 (tlA a b c d p r), .int .i64 (tlB a b c d p r), .int .i64 (tlC a b c d p r), .int .i64 (tlD a b c d p r)]) ∧ Below W.heap.size W w' := fun h W => by
    have hs := iChange_any a b c d 1 r 0 1 1000 97 W ha hb hc hd (by omega) (by omega) (by omega) (by omega) (by omega) (by omega)
    rwa [show cA a b c d 1 0 = tlA a b c d p r by simp [tlA, h], show cB a b c d 1 r 0 1 = tlB a b c d p r by simp [tlB, h], show cC a b c d 1 r 0 1 = tlC a b c d p r by simp [tlC, h], show cA a b c d r 1 = tlD a b c d p r by simp [tlD, h]] at hs
  have hOk : lOk a b c d p r = mul0 (tlD a b c d p r) p := rfl
  unfold loA loB loC loD
  generalize lOk a b c d p r = ok at hOk ⊢
  generalize tlA a b c d p r = x at *
  generalize tlB a b c d p r = y at *
  generalize tlC a b c d p r = z at *
  generalize tlD a b c d p r = u at *
  have K1 := hid k1; have K2 := hid k2
  clear k1 k2 ha hb hc hd
  obtain ⟨dy1, dy2⟩ := td_bd (m := p) bD
  obtain ⟨pu1, pu2⟩ := px_bd h2 h97 bB
  obtain ⟨px1, px2⟩ := ppx_bd h2 h97 bA
  obtain ⟨pp1, pp2⟩ := pp_bd h2 h97
  have hz2 : (p == 0) = false := by simp; omega
  have A0 := (Arr.new w a b c d 23).alloc (.cells #[.int .i64 0, .int .i64 0, .int .i64 0, .int .i64 0] 23)
  have R0 := Arr.new (w.alloc (.cells #[.int .i64 a, .int .i64 b, .int .i64 c, .int .i64 d] 23)) 0 0 0 0 23
  have U0 := gr_alloc (gr_alloc (Below.refl w.heap.size w) (.cells #[.int .i64 a, .int .i64 b, .int .i64 c, .int .i64 d] 23)) (.cells #[.int .i64 0, .int .i64 0, .int .i64 0, .int .i64 0] 23)
  simp only [World.size_alloc] at R0
  have HO := hid hOk
  clear hOk
  go_enter Try.func96, Try.ntmps96
  go_upto_if 17 with (fail)
  go_cut [8] (fun s8 wx => ∃ m0 m1 m2 m3 : Int, s8 = .pointer (some ⟨w.heap.size + 2, 0, none⟩) ∧ Arr wx (w.heap.size + 2) m0 m1 m2 m3 ∧ Hid (∀ W, Calls Try.prog 116 #[.agg #[.int .i64 a, .int .i64 b, .int .i64 c, .int .i64 d], .agg #[.int .i64 m0, .int .i64 m1, .int .i64 m2, .int .i64 m3]] W fun e w' => e = .returned (.agg #[.int .i64 x, .int .i64 y, .int .i64 z, .int .i64 u]) ∧ Below W.heap.size W w') ∧ Arr wx w.heap.size a b c d ∧ Arr wx (w.heap.size + 1) 0 0 0 0 ∧ Below w.heap.size w wx)
  case first =>
    by_cases h : r < p
    · have HC := hid (K2.out (by omega))
      have M0 := Arr.new ((w.alloc (.cells #[.int .i64 a, .int .i64 b, .int .i64 c, .int .i64 d] 23)).alloc (.cells #[.int .i64 0, .int .i64 0, .int .i64 0, .int .i64 0] 23)) 1 r 0 1 116
      simp only [World.size_alloc] at M0
      go_wp2_with fail
      go_meet
      exact ⟨_, _, _, _, rfl, M0, HC, A0.alloc _, R0.alloc _, by (repeat' (first | with_reducible exact Below.refl _ _ | with_reducible assumption | with_reducible refine gr_alloc ?_ _ | with_reducible refine gr_drew ?_ | with_reducible refine gr_drewN ?_ _ | with_reducible refine gr_trans ?_ (by assumption) | with_reducible refine gr_set ?_ ?_ _ | (simp; done) | omega | (simp; omega)))⟩
    · have HC := hid (K1.out (by omega))
      have M0 := Arr.new ((w.alloc (.cells #[.int .i64 a, .int .i64 b, .int .i64 c, .int .i64 d] 23)).alloc (.cells #[.int .i64 0, .int .i64 0, .int .i64 0, .int .i64 0] 23)) 0 1 (-1) 0 116
      simp only [World.size_alloc] at M0
      go_wp2_with fail
      go_meet
      exact ⟨_, _, _, _, rfl, M0, HC, A0.alloc _, R0.alloc _, by (repeat' (first | with_reducible exact Below.refl _ _ | with_reducible assumption | with_reducible refine gr_alloc ?_ _ | with_reducible refine gr_drew ?_ | with_reducible refine gr_drewN ?_ _ | with_reducible refine gr_trans ?_ (by assumption) | with_reducible refine gr_set ?_ ?_ _ | (simp; done) | omega | (simp; omega)))⟩
  case rest =>
    obtain ⟨m0, m1, m2, m3, rfl, hM, HC, hA, hR, hU⟩ := hcut
    obtain ⟨_, a0, a1, a2, a3, _⟩ := id hA
    obtain ⟨_, q0, q1, q2, q3, _⟩ := id hM
    go_wp2_with fail
    refine (HC.out _).mono ?_
    rintro e w1 ⟨rfl, hb1⟩
    have hR1 := (hR.next hb1).alloc (.cells #[.int .i64 x, .int .i64 y, .int .i64 z, .int .i64 u] 23)
    have hT := Arr.new w1 x y z u 23
    have hU1 := gr_alloc (gr_trans hU hb1) (.cells #[.int .i64 x, .int .i64 y, .int .i64 z, .int .i64 u] 23)
    go_wp2_with fail
    clear a0 a1 a2 a3 q0 q1 q2 q3
    generalize w1.alloc (.cells #[.int .i64 x, .int .i64 y, .int .i64 z, .int .i64 u] 23) = W2 at hR1 hT hU1 ⊢
    obtain ⟨_, t0, t1, t2, t3, _⟩ := id hT
    go_quiet (fail)
    have R1 := hR1.drewN nq
    have U1 := gr_drewN hU1 nq
    clear t0 t1 t2 t3 hT hR hU hR1 hU1 R0 U0
    generalize W2.drewN nq = W1 at R1 U1 ⊢
    obtain ⟨_, r0, r1, r2, r3, f0, f1, f2, f3⟩ := id R1
    cases hx : mul0 u p with
    | false =>
      have HK := hid (show ok = false by rw [HO.out]; simp [hx])
      go_wp2_with (go_at_call 82; refine (isMultiple_any _ _ _ (by omega) (by omega)).mono ?_; rintro e w' ⟨rfl, rfl⟩)
      refine bodyPost_ret (res_A (e := 2) rfl Try.underlying23 (by kernel_rfl) rfl (by (repeat (first | with_reducible assumption | with_reducible exact Arr.box (by assumption) | with_reducible apply Arr.drew | with_reducible apply Arr.drewN | with_reducible refine Arr.store4 ?_ | with_reducible apply Arr.alloc | with_reducible refine Box.drew ?_ | with_reducible refine Box.drewN ?_ _ | with_reducible refine Box.alloc ?_ _ | refine Arr.oth ?_ (by first | (simp; done) | omega | (simp; omega)) _ | refine Box.oth ?_ (by first | (simp; done) | omega | (simp; omega)) _)))) rfl ?_
      rw [HK.out]
      exact ⟨rfl, by (repeat' (first | with_reducible exact Below.refl _ _ | with_reducible assumption | with_reducible refine gr_alloc ?_ _ | with_reducible refine gr_drew ?_ | with_reducible refine gr_drewN ?_ _ | with_reducible refine gr_trans ?_ (by assumption) | with_reducible refine gr_set ?_ ?_ _ | (simp; done) | omega | (simp; omega)))⟩
    | true =>
      have HK := hid (show ok = true by rw [HO.out]; simp [hx])
      go_wp2_with (go_at_call 82; refine (isMultiple_any _ _ _ (by omega) (by omega)).mono ?_; rintro e w' ⟨rfl, rfl⟩)
      refine bodyPost_ret (res_A (e := 2) rfl Try.underlying23 (by kernel_rfl) rfl (by (repeat (first | with_reducible assumption | with_reducible exact Arr.box (by assumption) | with_reducible apply Arr.drew | with_reducible apply Arr.drewN | with_reducible refine Arr.store4 ?_ | with_reducible apply Arr.alloc | with_reducible refine Box.drew ?_ | with_reducible refine Box.drewN ?_ _ | with_reducible refine Box.alloc ?_ _ | refine Arr.oth ?_ (by first | (simp; done) | omega | (simp; omega)) _ | refine Box.oth ?_ (by first | (simp; done) | omega | (simp; omega)) _)))) rfl ?_
      rw [HK.out]
      exact ⟨rfl, by (repeat' (first | with_reducible exact Below.refl _ _ | with_reducible assumption | with_reducible refine gr_alloc ?_ _ | with_reducible refine gr_drew ?_ | with_reducible refine gr_drewN ?_ _ | with_reducible refine gr_trans ?_ (by assumption) | with_reducible refine gr_set ?_ ?_ _ | (simp; done) | omega | (simp; omega)))⟩

end Go.Proofs.Ytmhlolimaeejfaa
