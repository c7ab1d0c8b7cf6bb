/- Chapter 6: turned, raised and lowered forms, the model's. -/
import Derived.Test.YtambbhldhhlfgaaDoorOa
import Derived.Test.YtambbhldhhlfgaaDoorZ13
import Derived.StillTailTactics
namespace Go.Proofs.YtambbhldhhlfgaaDoor
open Go.RowKit

set_option maxRecDepth 100000 in
set_option maxHeartbeats 1000000 in
theorem l06Turned_any (a b c d p r : Int) (w : World) (ha : -1000 ≤ a ∧ a ≤ 1000) (hb : -1000 ≤ b ∧ b ≤ 1000) (hc : -1000 ≤ c ∧ c ≤ 1000) (hd : -1000 ≤ d ∧ d ≤ 1000) (h0 : 0 ≤ r) (h97 : r ≤ 97) :
    Calls Tryd.prog 154 #[.agg #[.int .i64 a, .int .i64 b, .int .i64 c, .int .i64 d], .int .i64 p, .int .i64 r] w fun e w' => e = .returned (.agg #[.int .i64 (tuA a b c d p r), .int .i64 (tuB a b c d p r), .int .i64 (tuC a b c d p r), .int .i64 (tuD a b c d p r)]) ∧ Below w.heap.size w w' := by
  have R0 := Arr.new (w.alloc (.cells #[.int .i64 a, .int .i64 b, .int .i64 c, .int .i64 d] 25)) 0 0 0 0 25
  have U0 := gr_alloc (gr_alloc (Below.refl w.heap.size w) (.cells #[.int .i64 a, .int .i64 b, .int .i64 c, .int .i64 d] 25)) (.cells #[.int .i64 0, .int .i64 0, .int .i64 0, .int .i64 0] 25)
  simp only [World.size_alloc] at R0
  by_cases hr : r = p
  · have HE := hid (show tuA a b c d p r = a ∧ tuB a b c d p r = b ∧ tuC a b c d p r = c ∧ tuD a b c d p r = d by simp [tuA, tuB, tuC, tuD, hr])
    have hr' : (r == p) = true := by simpa using hr
    clear hr
    have RR := Arr.new (w.alloc (.cells #[.int .i64 a, .int .i64 b, .int .i64 c, .int .i64 d] 25)) a b c d 25
    simp only [World.size_alloc] at RR
    go_enter Tryd.func154, Tryd.ntmps154
    go_wp2
    refine bodyPost_ret (res_A1 (e := 2) rfl Tryd.underlying25 (by kernel_rfl) rfl RR) rfl ?_
    rw [HE.out.1, HE.out.2.1, HE.out.2.2.1, HE.out.2.2.2]
    exact ⟨rfl, by (repeat' (first | with_reducible exact Below.refl _ _ | with_reducible assumption | with_reducible refine gr_alloc ?_ _ | with_reducible refine gr_drew ?_ | with_reducible refine gr_drewN ?_ _ | with_reducible refine gr_trans ?_ (by assumption) | with_reducible refine gr_set ?_ ?_ _ | (simp; done) | omega | (simp; omega)))⟩
  · obtain ⟨e1, e2, e3, e4⟩ := ch_wr (p := r) (q := -1) (r := 1) (s := 0) ha hb hc hd (by omega) (by omega) (by omega) (by omega)
    have hs := fun W => sChange0_any a b c d r (-1) 1 0 W
    rw [e1, e2, e3, e4, show cA a b c d r 1 = tuA a b c d p r by simp [tuA, hr], show cB a b c d r (-1) 1 0 = tuB a b c d p r by simp [tuB, hr], show cC a b c d r (-1) 1 0 = tuC a b c d p r by simp [tuC, hr], show cA a b c d (-1) 0 = tuD a b c d p r by simp [tuD, hr]] at hs
    generalize tuA a b c d p r = x at hs ⊢
    generalize tuB a b c d p r = y at hs ⊢
    generalize tuC a b c d p r = z at hs ⊢
    generalize tuD a b c d p r = u at hs ⊢
    have HS := hid hs
    have hr' : (r == p) = false := by simpa using hr
    clear hr hs e1 e2 e3 e4
    go_enter Tryd.func154, Tryd.ntmps154
    go_wp2_with fail
    refine (HS.out _).mono ?_
    rintro e w1 ⟨rfl, hb1⟩
    have R1 := R0.next hb1
    obtain ⟨_, r0, r1, r2, r3, f0, f1, f2, f3⟩ := id R1
    have U1 := gr_trans U0 hb1
    go_wp2_with fail
    refine bodyPost_ret (res_A1 (e := 2) rfl Tryd.underlying25 (by kernel_rfl) rfl (by (repeat (first | with_reducible assumption | with_reducible exact Arr.box (by assumption) | with_reducible apply Arr.drew | with_reducible apply Arr.drewN | with_reducible refine Arr.store4 ?_ | with_reducible apply Arr.alloc | with_reducible refine Box.drew ?_ | with_reducible refine Box.drewN ?_ _ | with_reducible refine Box.alloc ?_ _ | refine Arr.oth ?_ (by first | (simp; done) | omega | (simp; omega)) _ | refine Box.oth ?_ (by first | (simp; done) | omega | (simp; omega)) _)))) rfl ?_
    exact ⟨rfl, by (repeat' (first | with_reducible exact Below.refl _ _ | with_reducible assumption | with_reducible refine gr_alloc ?_ _ | with_reducible refine gr_drew ?_ | with_reducible refine gr_drewN ?_ _ | with_reducible refine gr_trans ?_ (by assumption) | with_reducible refine gr_set ?_ ?_ _ | (simp; done) | omega | (simp; omega)))⟩

/-- The model's raised form: where it can be, and where it can't. -/
def RsM (ok : Bool) (x y z u : Int) (w : World) (e : Ending) (w' : World) : Prop := ∃ x' y' z' u' : Int, e = .returned (.tuple #[.agg #[.int .i64 x', .int .i64 y', .int .i64 z', .int .i64 u'], .bool ok]) ∧ (ok = true → x' = x ∧ y' = y ∧ z' = z ∧ u' = u) ∧ Below w.heap.size w w'

set_option maxRecDepth 100000 in
set_option maxHeartbeats 2000000 in
theorem l06Raised_any (a b c d p r : Int) (w : World) (ha : -1000 ≤ a ∧ a ≤ 1000) (hb : -1000 ≤ b ∧ b ≤ 1000) (hc : -1000 ≤ c ∧ c ≤ 1000) (hd : -1000 ≤ d ∧ d ≤ 1000) (h2 : 2 ≤ p) (h97 : p ≤ 97) (h0 : 0 ≤ r) (hr : r ≤ p) :
    Calls Tryd.prog 78 #[.agg #[.int .i64 a, .int .i64 b, .int .i64 c, .int .i64 d], .int .i64 p, .int .i64 r] w (RsM (rOk a b c d p r) (raA a b c d p r) (raB a b c d p r) (raC a b c d p r) (raD a b c d p r) w) := by
  have hT := fun W => l06Turned_any a b c d p r W ha hb hc hd h0 (by omega)
  obtain ⟨bA, bB, bC, bD⟩ := tu_bd (p := p) ha hb hc hd h0 (by omega)
  have hpp := pp_bd h2 h97
  have hOk : rOk a b c d p r = (decide ((tuA a b c d p r).tmod (p * p) = 0) && decide ((tuB a b c d p r).tmod p = 0)) := by unfold rOk; rw [mul0_p (by omega), mul0_p h2]
  unfold raA raB raC raD
  generalize rOk a b c d p r = ok at hOk ⊢
  generalize tuA a b c d p r = x at *
  generalize tuB a b c d p r = y at *
  generalize tuC a b c d p r = z at *
  generalize tuD a b c d p r = u at *
  have HT := hid hT
  clear hT ha hb hc hd
  obtain ⟨tx1, tx2⟩ := tmod_6 x (p * p) (by omega) (by omega)
  obtain ⟨ty1, ty2⟩ := tmod_6 y p (by omega) (by omega)
  obtain ⟨dx1, dx2⟩ := td_bd (m := p * p) bA
  obtain ⟨dy1, dy2⟩ := td_bd (m := p) bB
  obtain ⟨pu1, pu2⟩ := px_bd h2 h97 bD
  obtain ⟨pp1, pp2⟩ := hpp
  have hz1 : (p * p == 0) = false := by simp; omega
  have hz3 : ¬ p * p = 0 := by omega
  have hz4 : ¬ p = 0 := by omega
  have hz2 : (p == 0) = false := by simp; omega
  have A0 := (Arr.new w a b c d 25).alloc (.cells #[.int .i64 0, .int .i64 0, .int .i64 0, .int .i64 0] 25)
  have R0 := Arr.new (w.alloc (.cells #[.int .i64 a, .int .i64 b, .int .i64 c, .int .i64 d] 25)) 0 0 0 0 25
  have U0 := gr_alloc (gr_alloc (Below.refl w.heap.size w) (.cells #[.int .i64 a, .int .i64 b, .int .i64 c, .int .i64 d] 25)) (.cells #[.int .i64 0, .int .i64 0, .int .i64 0, .int .i64 0] 25)
  simp only [World.size_alloc] at R0
  have HO := hid hOk
  clear hOk
  go_enter Tryd.func78, Tryd.ntmps78
  go_wp2_with fail
  refine (HT.out _).mono ?_
  rintro e w1 ⟨rfl, hb1⟩
  have A1 := (A0.next hb1).alloc (.cells #[.int .i64 x, .int .i64 y, .int .i64 z, .int .i64 u] 25)
  have R1 := (R0.next hb1).alloc (.cells #[.int .i64 x, .int .i64 y, .int .i64 z, .int .i64 u] 25)
  have T1 := Arr.new w1 x y z u 25
  have U1 := gr_alloc (gr_trans U0 hb1) (.cells #[.int .i64 x, .int .i64 y, .int .i64 z, .int .i64 u] 25)
  have hs1 := R1.lt
  obtain ⟨_, a0, a1, a2, a3, _⟩ := id A1
  obtain ⟨_, r0, r1, r2, r3, f0, f1, f2, f3⟩ := id R1
  obtain ⟨_, t0, t1, t2, t3, _⟩ := id T1
  by_cases hx : x.tmod (p * p) = 0
  · have hx' : (x.tmod (p * p) != 0) = false := by simp [hx]
    by_cases hy : y.tmod p = 0
    · have hy' : (y.tmod p != 0) = false := by simp [hy]
      have HK := hid (show ok = true by rw [HO.out]; simp [hx, hy])
      clear hx hy HO
      go_wp2_with fail
      clear a0 a1 a2 a3 r0 r1 r2 r3 f0 f1 f2 f3 t0 t1 t2 t3
      generalize w1.alloc (.cells #[.int .i64 x, .int .i64 y, .int .i64 z, .int .i64 u] 25) = W2 at R1 T1 U1 ⊢
      obtain ⟨_, r0, r1, r2, r3, f0, f1, f2, f3⟩ := id R1
      obtain ⟨_, t0, t1, t2, t3, _⟩ := id T1
      have hwp : IntKind.i64.wrap (p * p) = p * p := i64w (by omega)
      have hwu : IntKind.i64.wrap (p * u) = p * u := i64w (by omega)
      have hwx : IntKind.i64.wrap (x.tdiv (p * p)) = x.tdiv (p * p) := i64w (by omega)
      have hwy : IntKind.i64.wrap (y.tdiv p) = y.tdiv p := i64w (by omega)
      go_still_tail 17, (by kernel_rfl)
      go_wp2_with fail
      clear T1
      refine bodyPost_ret (res_A (e := 2) rfl Tryd.underlying25 (by kernel_rfl) rfl (by (repeat (first | with_reducible assumption | with_reducible exact Arr.box (by assumption) | with_reducible apply Arr.drew | with_reducible apply Arr.drewN | with_reducible refine Arr.store4 ?_ | with_reducible apply Arr.alloc | with_reducible refine Box.drew ?_ | with_reducible refine Box.drewN ?_ _ | with_reducible refine Box.alloc ?_ _ | refine Arr.oth ?_ (by first | (simp; done) | omega | (simp; omega)) _ | refine Box.oth ?_ (by first | (simp; done) | omega | (simp; omega)) _)))) rfl ?_
      refine ⟨_, _, _, _, ?_, fun _ => ⟨rfl, rfl, rfl, rfl⟩, by (repeat' (first | with_reducible exact Below.refl _ _ | with_reducible assumption | with_reducible refine gr_alloc ?_ _ | with_reducible refine gr_drew ?_ | with_reducible refine gr_drewN ?_ _ | with_reducible refine gr_trans ?_ (by assumption) | with_reducible refine gr_set ?_ ?_ _ | (simp; done) | omega | (simp; omega)))⟩
      exact ret_fb rfl rfl rfl rfl HK.out.symm
    · have hy' : (y.tmod p != 0) = true := by simp [hy]
      have HK := hid (show ok = false by rw [HO.out]; simp [hy])
      clear hx hy HO
      go_wp2_with fail
      refine bodyPost_ret (res_A (e := 2) rfl Tryd.underlying25 (by kernel_rfl) rfl (by (repeat (first | with_reducible assumption | with_reducible exact Arr.box (by assumption) | with_reducible apply Arr.drew | with_reducible apply Arr.drewN | with_reducible refine Arr.store4 ?_ | with_reducible apply Arr.alloc | with_reducible refine Box.drew ?_ | with_reducible refine Box.drewN ?_ _ | with_reducible refine Box.alloc ?_ _ | refine Arr.oth ?_ (by first | (simp; done) | omega | (simp; omega)) _ | refine Box.oth ?_ (by first | (simp; done) | omega | (simp; omega)) _)))) rfl ?_
      refine ⟨a, b, c, d, ?_, (fun h => by rw [HK.out] at h; cases h), by (repeat' (first | with_reducible exact Below.refl _ _ | with_reducible assumption | with_reducible refine gr_alloc ?_ _ | with_reducible refine gr_drew ?_ | with_reducible refine gr_drewN ?_ _ | with_reducible refine gr_trans ?_ (by assumption) | with_reducible refine gr_set ?_ ?_ _ | (simp; done) | omega | (simp; omega)))⟩
      exact ret_fb rfl rfl rfl rfl HK.out.symm
  · have hx' : (x.tmod (p * p) != 0) = true := by simp [hx]
    have HK := hid (show ok = false by rw [HO.out]; simp [hx])
    clear hx HO
    go_wp2_with fail
    refine bodyPost_ret (res_A (e := 2) rfl Tryd.underlying25 (by kernel_rfl) rfl (by (repeat (first | with_reducible assumption | with_reducible exact Arr.box (by assumption) | with_reducible apply Arr.drew | with_reducible apply Arr.drewN | with_reducible refine Arr.store4 ?_ | with_reducible apply Arr.alloc | with_reducible refine Box.drew ?_ | with_reducible refine Box.drewN ?_ _ | with_reducible refine Box.alloc ?_ _ | refine Arr.oth ?_ (by first | (simp; done) | omega | (simp; omega)) _ | refine Box.oth ?_ (by first | (simp; done) | omega | (simp; omega)) _)))) rfl ?_
    refine ⟨a, b, c, d, ?_, (fun h => by rw [HK.out] at h; cases h), by (repeat' (first | with_reducible exact Below.refl _ _ | with_reducible assumption | with_reducible refine gr_alloc ?_ _ | with_reducible refine gr_drew ?_ | with_reducible refine gr_drewN ?_ _ | with_reducible refine gr_trans ?_ (by assumption) | with_reducible refine gr_set ?_ ?_ _ | (simp; done) | omega | (simp; omega)))⟩
    exact ret_fb rfl rfl rfl rfl HK.out.symm

end Go.Proofs.YtambbhldhhlfgaaDoor
