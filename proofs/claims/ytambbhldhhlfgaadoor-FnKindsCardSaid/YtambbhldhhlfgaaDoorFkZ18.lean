/- Several texts in one: XC1v, XC1p, XMath2. -/
import Derived.Test.YtambbhldhhlfgaaDoorFkC1u
import Derived.Test.YtambbhldhhlfgaaDoorFkZ12
import Derived.Deep.DeepCutAuto
import Derived.Deep.RegionHeld3
import Derived.Test.YtambbhldhhlfgaaDoorFkZ10

/- Chapter 1: changed forms of the program and of the model, whole. -/
namespace Go.Proofs.YtambbhldhhlfgaaDoor
open Go.RowKit

/-- The code of a changed form. -/
def chc (a b c d p q r s : Int) : Int := if isF a b c d && isF p q r s then (if isF (cA a b c d p r) (cB a b c d p q r s) (cC a b c d p q r s) (cA a b c d q s) then 0 else 3) else 1

set_option maxHeartbeats 400000 in
theorem iLimit_any (a b c d : Int) (w : World) :
    Calls Tryd.prog 123 #[.agg #[.int .i64 a, .int .i64 b, .int .i64 c, .int .i64 d]] w fun e w' => e = .returned (.tuple #[.agg #[.int .i64 (ifF a b c d a), .int .i64 (ifF a b c d b), .int .i64 (ifF a b c d c), .int .i64 (ifF a b c d d)], .int .i64 ((if isF a b c d then 0 else 3))]) ∧ Below w.heap.size w w' := by
  go_enter Tryd.func123, Tryd.ntmps123
  go_wp2_with fail
  refine (iIsForm_any a b c d _).mono ?_
  rintro e w1 ⟨rfl, hb1⟩
  have A1 := ((Arr.new w a b c d 25).alloc (.cells #[.int .i64 0, .int .i64 0, .int .i64 0, .int .i64 0] 25)).next hb1
  have R1 := (Arr.new (w.alloc (.cells #[.int .i64 a, .int .i64 b, .int .i64 c, .int .i64 d] 25)) 0 0 0 0 25).next hb1
  simp only [World.size_alloc] at R1
  obtain ⟨_, c0, c1, c2, c3, _⟩ := id A1
  obtain ⟨_, r0, r1, r2, r3, f0, f1, f2, f3⟩ := id R1
  go_wp2
  all_goals (refine bodyPost_ret (res_A (e := 2) rfl Tryd.underlying25 (by kernel_rfl) rfl (by (repeat (first | with_reducible assumption | with_reducible exact Arr.box (by assumption) | with_reducible apply Arr.drew | with_reducible apply Arr.drewN | with_reducible refine Arr.store4 ?_ | with_reducible apply Arr.alloc | with_reducible refine Box.drew ?_ | with_reducible refine Box.drewN ?_ _ | with_reducible refine Box.alloc ?_ _ | refine Arr.oth ?_ (by first | (simp; done) | omega | (simp; omega)) _ | refine Box.oth ?_ (by first | (simp; done) | omega | (simp; omega)) _)))) rfl ?_; exact ⟨ret_form (by go_light; simp_all [ifF]) (by go_light; simp_all [ifF]) (by go_light; simp_all [ifF]) (by go_light; simp_all [ifF]) (by go_light; simp_all), by (repeat' (first | with_reducible exact Below.refl _ _ | with_reducible assumption | with_reducible refine gr_alloc ?_ _ | with_reducible refine gr_drew ?_ | with_reducible refine gr_drewN ?_ _ | with_reducible refine gr_trans ?_ (by assumption) | with_reducible refine gr_set ?_ ?_ _ | (simp; done) | omega | (simp; omega)))⟩)

set_option maxHeartbeats 400000 in
theorem sFits_any (a b c d : Int) (w : World) :
    Calls Tryd.prog 93 #[.agg #[.int .i64 a, .int .i64 b, .int .i64 c, .int .i64 d]] w fun e w' => e = .returned (.bool (isF a b c d)) ∧ Below w.heap.size w w' := by
  go_enter Tryd.func93, Tryd.ntmps93
  go_wp2_with fail
  refine (l01Is_any a b c d _).mono ?_
  rintro e w1 ⟨rfl, hb1⟩
  go_wp2
  go_ret
  exact ⟨rfl, by (repeat' (first | with_reducible exact Below.refl _ _ | with_reducible assumption | with_reducible refine gr_alloc ?_ _ | with_reducible refine gr_drew ?_ | with_reducible refine gr_drewN ?_ _ | with_reducible refine gr_trans ?_ (by assumption) | with_reducible refine gr_set ?_ ?_ _ | (simp; done) | omega | (simp; omega)))⟩

set_option maxHeartbeats 1000000 in
theorem sChange_any (a b c d p q r s : Int) (w : World) :
    Calls Tryd.prog 50 #[.agg #[.int .i64 a, .int .i64 b, .int .i64 c, .int .i64 d], .agg #[.int .i64 p, .int .i64 q, .int .i64 r, .int .i64 s]] w fun e w' => e = .returned (.tuple #[.agg #[.int .i64 (if0 (chc a b c d p q r s) (cA a b c d p r)), .int .i64 (if0 (chc a b c d p q r s) (cB a b c d p q r s)), .int .i64 (if0 (chc a b c d p q r s) (cC a b c d p q r s)), .int .i64 (if0 (chc a b c d p q r s) (cA a b c d q s))], .int .i64 (chc a b c d p q r s)]) ∧ Below w.heap.size w w' := by
  have A0 := ((Arr.new w a b c d 25).alloc (.cells #[.int .i64 p, .int .i64 q, .int .i64 r, .int .i64 s] 64)).alloc (.cells #[.int .i64 0, .int .i64 0, .int .i64 0, .int .i64 0] 25)
  have M0 := (Arr.new (w.alloc (.cells #[.int .i64 a, .int .i64 b, .int .i64 c, .int .i64 d] 25)) p q r s 64).alloc (.cells #[.int .i64 0, .int .i64 0, .int .i64 0, .int .i64 0] 25)
  have R0 := Arr.new ((w.alloc (.cells #[.int .i64 a, .int .i64 b, .int .i64 c, .int .i64 d] 25)).alloc (.cells #[.int .i64 p, .int .i64 q, .int .i64 r, .int .i64 s] 64)) 0 0 0 0 25
  have U0 := gr_alloc (gr_alloc (gr_alloc (Below.refl w.heap.size w) (.cells #[.int .i64 a, .int .i64 b, .int .i64 c, .int .i64 d] 25)) (.cells #[.int .i64 p, .int .i64 q, .int .i64 r, .int .i64 s] 64)) (.cells #[.int .i64 0, .int .i64 0, .int .i64 0, .int .i64 0] 25)
  simp only [World.size_alloc] at M0 R0
  go_enter Tryd.func50, Tryd.ntmps50
  go_wp2_with fail
  refine (l01Is_any a b c d _).mono ?_
  rintro e w1 ⟨rfl, hb1⟩
  have A1 := A0.next hb1
  have M1 := M0.next hb1
  have R1 := R0.next hb1
  have U1 := gr_trans U0 hb1
  clear A0 M0 R0 U0
  by_cases hf : isF a b c d = true
  · obtain ⟨ha, hb, hc, hd⟩ := isF_t hf
    obtain ⟨_, m0, m1, m2, m3, _⟩ := id M1
    go_wp2_with fail
    refine (sIsMatrix_any p q r s _).mono ?_
    rintro e w2 ⟨rfl, hb2⟩
    have A2 := A1.next hb2
    have M2 := M1.next hb2
    have R2 := R1.next hb2
    have U2 := gr_trans U1 hb2
    clear m0 m1 m2 m3 A1 M1 R1 U1
    by_cases hm : isF p q r s = true
    · obtain ⟨hp, hq, hr, hs⟩ := isF_t hm
      have HW := hid (ch_wr ha hb hc hd hp hq hr hs)
      clear ha hb hc hd hp hq hr hs
      have hc0 := sChange0_any a b c d p q r s w2
      rw [HW.out.1, HW.out.2.1, HW.out.2.2.1, HW.out.2.2.2] at hc0
      have HC := hid hc0
      clear hc0
      obtain ⟨_, a0, a1, a2, a3, _⟩ := id A2
      obtain ⟨_, m0, m1, m2, m3, _⟩ := id M2
      go_wp2_with fail
      refine HC.out.mono ?_
      rintro e w3 ⟨rfl, hb3⟩
      have R3 := R2.next hb3
      have U3 := gr_trans U2 hb3
      have X3 := Arr.new w3 (cA a b c d p r) (cB a b c d p q r s) (cC a b c d p q r s) (cA a b c d q s) 25
      have R4 := R3.alloc (.cells #[.int .i64 (cA a b c d p r), .int .i64 (cB a b c d p q r s), .int .i64 (cC a b c d p q r s), .int .i64 (cA a b c d q s)] 25)
      have U4 := gr_alloc U3 (.cells #[.int .i64 (cA a b c d p r), .int .i64 (cB a b c d p q r s), .int .i64 (cC a b c d p q r s), .int .i64 (cA a b c d q s)] 25)
      clear a0 a1 a2 a3 m0 m1 m2 m3 A2 M2 R2 U2 R3 U3
      go_wp2_with fail
      refine (sFits_any _ _ _ _ _).mono ?_
      rintro e w5 ⟨rfl, hb5⟩
      have R5 := R4.next hb5
      have X5 := X3.next hb5
      have U5 := gr_trans U4 hb5
      clear R4 X3 U4
      obtain ⟨_, x0, x1, x2, x3, _⟩ := id X5
      obtain ⟨_, r0, r1, r2, r3, f0, f1, f2, f3⟩ := id R5
      by_cases hg : isF (cA a b c d p r) (cB a b c d p q r s) (cC a b c d p q r s) (cA a b c d q s) = true
      · have k0 : chc a b c d p q r s = 0 := by simp [chc, hf, hm, hg]
        go_wp2
        refine bodyPost_ret (res_A (e := 2) rfl Tryd.underlying25 (by kernel_rfl) rfl (by (repeat (first | with_reducible assumption | with_reducible exact Arr.box (by assumption) | with_reducible apply Arr.drew | with_reducible apply Arr.drewN | with_reducible refine Arr.store4 ?_ | with_reducible apply Arr.alloc | with_reducible refine Box.drew ?_ | with_reducible refine Box.drewN ?_ _ | with_reducible refine Box.alloc ?_ _ | refine Arr.oth ?_ (by first | (simp; done) | omega | (simp; omega)) _ | refine Box.oth ?_ (by first | (simp; done) | omega | (simp; omega)) _)))) rfl ?_
        exact ⟨ret_form (by simp [if0, k0]) (by simp [if0, k0]) (by simp [if0, k0]) (by simp [if0, k0]) (by simp [k0]), by (repeat' (first | with_reducible exact Below.refl _ _ | with_reducible assumption | with_reducible refine gr_alloc ?_ _ | with_reducible refine gr_drew ?_ | with_reducible refine gr_drewN ?_ _ | with_reducible refine gr_trans ?_ (by assumption) | with_reducible refine gr_set ?_ ?_ _ | (simp; done) | omega | (simp; omega)))⟩
      · have hg' : isF (cA a b c d p r) (cB a b c d p q r s) (cC a b c d p q r s) (cA a b c d q s) = false := by simpa using hg
        have k0 : chc a b c d p q r s = 3 := by simp [chc, hf, hm, hg']
        clear hg
        go_wp2
        refine bodyPost_ret (res_A (e := 2) rfl Tryd.underlying25 (by kernel_rfl) rfl (by (repeat (first | with_reducible assumption | with_reducible exact Arr.box (by assumption) | with_reducible apply Arr.drew | with_reducible apply Arr.drewN | with_reducible refine Arr.store4 ?_ | with_reducible apply Arr.alloc | with_reducible refine Box.drew ?_ | with_reducible refine Box.drewN ?_ _ | with_reducible refine Box.alloc ?_ _ | refine Arr.oth ?_ (by first | (simp; done) | omega | (simp; omega)) _ | refine Box.oth ?_ (by first | (simp; done) | omega | (simp; omega)) _)))) rfl ?_
        exact ⟨ret_form (by simp [if0, k0]) (by simp [if0, k0]) (by simp [if0, k0]) (by simp [if0, k0]) (by simp [k0]), by (repeat' (first | with_reducible exact Below.refl _ _ | with_reducible assumption | with_reducible refine gr_alloc ?_ _ | with_reducible refine gr_drew ?_ | with_reducible refine gr_drewN ?_ _ | with_reducible refine gr_trans ?_ (by assumption) | with_reducible refine gr_set ?_ ?_ _ | (simp; done) | omega | (simp; omega)))⟩
    · have hm' : isF p q r s = false := by simpa using hm
      clear hm
      obtain ⟨_, r0, r1, r2, r3, f0, f1, f2, f3⟩ := id R2
      go_wp2
      refine bodyPost_ret (res_A (e := 2) rfl Tryd.underlying25 (by kernel_rfl) rfl (by (repeat (first | with_reducible assumption | with_reducible exact Arr.box (by assumption) | with_reducible apply Arr.drew | with_reducible apply Arr.drewN | with_reducible refine Arr.store4 ?_ | with_reducible apply Arr.alloc | with_reducible refine Box.drew ?_ | with_reducible refine Box.drewN ?_ _ | with_reducible refine Box.alloc ?_ _ | refine Arr.oth ?_ (by first | (simp; done) | omega | (simp; omega)) _ | refine Box.oth ?_ (by first | (simp; done) | omega | (simp; omega)) _)))) rfl ?_
      have k0 : chc a b c d p q r s = 1 := by simp [chc, hm']
      exact ⟨ret_form (by simp [if0, k0]) (by simp [if0, k0]) (by simp [if0, k0]) (by simp [if0, k0]) (by simp [k0]), by (repeat' (first | with_reducible exact Below.refl _ _ | with_reducible assumption | with_reducible refine gr_alloc ?_ _ | with_reducible refine gr_drew ?_ | with_reducible refine gr_drewN ?_ _ | with_reducible refine gr_trans ?_ (by assumption) | with_reducible refine gr_set ?_ ?_ _ | (simp; done) | omega | (simp; omega)))⟩
  · have hf' : isF a b c d = false := by simpa using hf
    clear hf
    obtain ⟨_, r0, r1, r2, r3, f0, f1, f2, f3⟩ := id R1
    go_wp2
    refine bodyPost_ret (res_A (e := 2) rfl Tryd.underlying25 (by kernel_rfl) rfl (by (repeat (first | with_reducible assumption | with_reducible exact Arr.box (by assumption) | with_reducible apply Arr.drew | with_reducible apply Arr.drewN | with_reducible refine Arr.store4 ?_ | with_reducible apply Arr.alloc | with_reducible refine Box.drew ?_ | with_reducible refine Box.drewN ?_ _ | with_reducible refine Box.alloc ?_ _ | refine Arr.oth ?_ (by first | (simp; done) | omega | (simp; omega)) _ | refine Box.oth ?_ (by first | (simp; done) | omega | (simp; omega)) _)))) rfl ?_
    have k0 : chc a b c d p q r s = 1 := by simp [chc, hf']
    exact ⟨ret_form (by simp [if0, k0]) (by simp [if0, k0]) (by simp [if0, k0]) (by simp [if0, k0]) (by simp [k0]), by (repeat' (first | with_reducible exact Below.refl _ _ | with_reducible assumption | with_reducible refine gr_alloc ?_ _ | with_reducible refine gr_drew ?_ | with_reducible refine gr_drewN ?_ _ | with_reducible refine gr_trans ?_ (by assumption) | with_reducible refine gr_set ?_ ?_ _ | (simp; done) | omega | (simp; omega)))⟩

set_option maxHeartbeats 1000000 in
theorem iChangeForm_any (a b c d p q r s : Int) (w : World) :
    Calls Tryd.prog 49 #[.agg #[.int .i64 a, .int .i64 b, .int .i64 c, .int .i64 d], .agg #[.int .i64 p, .int .i64 q, .int .i64 r, .int .i64 s]] w fun e w' => e = .returned (.tuple #[.agg #[.int .i64 (if0 (chc a b c d p q r s) (cA a b c d p r)), .int .i64 (if0 (chc a b c d p q r s) (cB a b c d p q r s)), .int .i64 (if0 (chc a b c d p q r s) (cC a b c d p q r s)), .int .i64 (if0 (chc a b c d p q r s) (cA a b c d q s))], .int .i64 (chc a b c d p q r s)]) ∧ Below w.heap.size w w' := by
  have A0 := ((Arr.new w a b c d 25).alloc (.cells #[.int .i64 p, .int .i64 q, .int .i64 r, .int .i64 s] 64)).alloc (.cells #[.int .i64 0, .int .i64 0, .int .i64 0, .int .i64 0] 25)
  have M0 := (Arr.new (w.alloc (.cells #[.int .i64 a, .int .i64 b, .int .i64 c, .int .i64 d] 25)) p q r s 64).alloc (.cells #[.int .i64 0, .int .i64 0, .int .i64 0, .int .i64 0] 25)
  have R0 := Arr.new ((w.alloc (.cells #[.int .i64 a, .int .i64 b, .int .i64 c, .int .i64 d] 25)).alloc (.cells #[.int .i64 p, .int .i64 q, .int .i64 r, .int .i64 s] 64)) 0 0 0 0 25
  have U0 := gr_alloc (gr_alloc (gr_alloc (Below.refl w.heap.size w) (.cells #[.int .i64 a, .int .i64 b, .int .i64 c, .int .i64 d] 25)) (.cells #[.int .i64 p, .int .i64 q, .int .i64 r, .int .i64 s] 64)) (.cells #[.int .i64 0, .int .i64 0, .int .i64 0, .int .i64 0] 25)
  simp only [World.size_alloc] at M0 R0
  go_enter Tryd.func49, Tryd.ntmps49
  go_wp2_with fail
  refine (iIsForm_any a b c d _).mono ?_
  rintro e w1 ⟨rfl, hb1⟩
  have A1 := A0.next hb1
  have M1 := M0.next hb1
  have R1 := R0.next hb1
  have U1 := gr_trans U0 hb1
  clear A0 M0 R0 U0
  by_cases hf : isF a b c d = true
  · obtain ⟨ha, hb, hc, hd⟩ := isF_t hf
    obtain ⟨_, m0, m1, m2, m3, _⟩ := id M1
    go_wp2_with fail
    refine (iIsMatrix_any p q r s _).mono ?_
    rintro e w2 ⟨rfl, hb2⟩
    have A2 := A1.next hb2
    have M2 := M1.next hb2
    have R2 := R1.next hb2
    have U2 := gr_trans U1 hb2
    clear m0 m1 m2 m3 A1 M1 R1 U1
    by_cases hm : isF p q r s = true
    · obtain ⟨hp, hq, hr, hs⟩ := isF_t hm
      have HC := hid (iChange_any a b c d p q r s 1000 1000 w2 ha hb hc hd hp hq hr hs (by decide) (by decide))
      clear ha hb hc hd hp hq hr hs
      obtain ⟨_, a0, a1, a2, a3, _⟩ := id A2
      obtain ⟨_, m0, m1, m2, m3, _⟩ := id M2
      go_wp2_with fail
      refine HC.out.mono ?_
      rintro e w3 ⟨rfl, hb3⟩
      have R3 := R2.next hb3
      have U3 := gr_trans U2 hb3
      clear a0 a1 a2 a3 m0 m1 m2 m3 A2 M2 R2 U2
      go_wp2_with fail
      refine (iLimit_any _ _ _ _ _).mono ?_
      rintro e w5 ⟨rfl, hb5⟩
      have R5 := R3.next hb5
      have U5 := gr_trans U3 hb5
      clear R3 U3
      obtain ⟨_, r0, r1, r2, r3, f0, f1, f2, f3⟩ := id R5
      by_cases hg : isF (cA a b c d p r) (cB a b c d p q r s) (cC a b c d p q r s) (cA a b c d q s) = true
      · have k0 : chc a b c d p q r s = 0 := by simp [chc, hf, hm, hg]
        go_wp2
        refine bodyPost_ret (res_A (e := 2) rfl Tryd.underlying25 (by kernel_rfl) rfl (by (repeat (first | with_reducible assumption | with_reducible exact Arr.box (by assumption) | with_reducible apply Arr.drew | with_reducible apply Arr.drewN | with_reducible refine Arr.store4 ?_ | with_reducible apply Arr.alloc | with_reducible refine Box.drew ?_ | with_reducible refine Box.drewN ?_ _ | with_reducible refine Box.alloc ?_ _ | refine Arr.oth ?_ (by first | (simp; done) | omega | (simp; omega)) _ | refine Box.oth ?_ (by first | (simp; done) | omega | (simp; omega)) _)))) rfl ?_
        exact ⟨ret_form (by simp [ifF, hg, if0, k0]) (by simp [ifF, hg, if0, k0]) (by simp [ifF, hg, if0, k0]) (by simp [ifF, hg, if0, k0]) (by simp [k0]), by (repeat' (first | with_reducible exact Below.refl _ _ | with_reducible assumption | with_reducible refine gr_alloc ?_ _ | with_reducible refine gr_drew ?_ | with_reducible refine gr_drewN ?_ _ | with_reducible refine gr_trans ?_ (by assumption) | with_reducible refine gr_set ?_ ?_ _ | (simp; done) | omega | (simp; omega)))⟩
      · have hg' : isF (cA a b c d p r) (cB a b c d p q r s) (cC a b c d p q r s) (cA a b c d q s) = false := by simpa using hg
        have k0 : chc a b c d p q r s = 3 := by simp [chc, hf, hm, hg']
        clear hg
        go_wp2
        refine bodyPost_ret (res_A (e := 2) rfl Tryd.underlying25 (by kernel_rfl) rfl (by (repeat (first | with_reducible assumption | with_reducible exact Arr.box (by assumption) | with_reducible apply Arr.drew | with_reducible apply Arr.drewN | with_reducible refine Arr.store4 ?_ | with_reducible apply Arr.alloc | with_reducible refine Box.drew ?_ | with_reducible refine Box.drewN ?_ _ | with_reducible refine Box.alloc ?_ _ | refine Arr.oth ?_ (by first | (simp; done) | omega | (simp; omega)) _ | refine Box.oth ?_ (by first | (simp; done) | omega | (simp; omega)) _)))) rfl ?_
        exact ⟨ret_form (by simp [ifF, hg', if0, k0]) (by simp [ifF, hg', if0, k0]) (by simp [ifF, hg', if0, k0]) (by simp [ifF, hg', if0, k0]) (by simp [k0]), by (repeat' (first | with_reducible exact Below.refl _ _ | with_reducible assumption | with_reducible refine gr_alloc ?_ _ | with_reducible refine gr_drew ?_ | with_reducible refine gr_drewN ?_ _ | with_reducible refine gr_trans ?_ (by assumption) | with_reducible refine gr_set ?_ ?_ _ | (simp; done) | omega | (simp; omega)))⟩
    · have hm' : isF p q r s = false := by simpa using hm
      clear hm
      obtain ⟨_, r0, r1, r2, r3, f0, f1, f2, f3⟩ := id R2
      go_wp2
      refine bodyPost_ret (res_A (e := 2) rfl Tryd.underlying25 (by kernel_rfl) rfl (by (repeat (first | with_reducible assumption | with_reducible exact Arr.box (by assumption) | with_reducible apply Arr.drew | with_reducible apply Arr.drewN | with_reducible refine Arr.store4 ?_ | with_reducible apply Arr.alloc | with_reducible refine Box.drew ?_ | with_reducible refine Box.drewN ?_ _ | with_reducible refine Box.alloc ?_ _ | refine Arr.oth ?_ (by first | (simp; done) | omega | (simp; omega)) _ | refine Box.oth ?_ (by first | (simp; done) | omega | (simp; omega)) _)))) rfl ?_
      have k0 : chc a b c d p q r s = 1 := by simp [chc, hm']
      exact ⟨ret_form (by simp [if0, k0]) (by simp [if0, k0]) (by simp [if0, k0]) (by simp [if0, k0]) (by simp [k0]), by (repeat' (first | with_reducible exact Below.refl _ _ | with_reducible assumption | with_reducible refine gr_alloc ?_ _ | with_reducible refine gr_drew ?_ | with_reducible refine gr_drewN ?_ _ | with_reducible refine gr_trans ?_ (by assumption) | with_reducible refine gr_set ?_ ?_ _ | (simp; done) | omega | (simp; omega)))⟩
  · have hf' : isF a b c d = false := by simpa using hf
    clear hf
    obtain ⟨_, r0, r1, r2, r3, f0, f1, f2, f3⟩ := id R1
    go_wp2
    refine bodyPost_ret (res_A (e := 2) rfl Tryd.underlying25 (by kernel_rfl) rfl (by (repeat (first | with_reducible assumption | with_reducible exact Arr.box (by assumption) | with_reducible apply Arr.drew | with_reducible apply Arr.drewN | with_reducible refine Arr.store4 ?_ | with_reducible apply Arr.alloc | with_reducible refine Box.drew ?_ | with_reducible refine Box.drewN ?_ _ | with_reducible refine Box.alloc ?_ _ | refine Arr.oth ?_ (by first | (simp; done) | omega | (simp; omega)) _ | refine Box.oth ?_ (by first | (simp; done) | omega | (simp; omega)) _)))) rfl ?_
    have k0 : chc a b c d p q r s = 1 := by simp [chc, hf']
    exact ⟨ret_form (by simp [if0, k0]) (by simp [if0, k0]) (by simp [if0, k0]) (by simp [if0, k0]) (by simp [k0]), by (repeat' (first | with_reducible exact Below.refl _ _ | with_reducible assumption | with_reducible refine gr_alloc ?_ _ | with_reducible refine gr_drew ?_ | with_reducible refine gr_drewN ?_ _ | with_reducible refine gr_trans ?_ (by assumption) | with_reducible refine gr_set ?_ ?_ _ | (simp; done) | omega | (simp; omega)))⟩

end Go.Proofs.YtambbhldhhlfgaaDoor

/- Chapter 1: inverse matrices of the model. -/
namespace Go.Proofs.YtambbhldhhlfgaaDoor
open Go.RowKit

def isUnit (a b c d : Int) : Bool := det a b c d == 1 || det a b c d == -1
/-- The code of an inverse matrix. -/
def ivc (a b c d : Int) : Int := if isF a b c d then (if isUnit a b c d then 0 else 5) else 1

theorem mul_bd {x y : Int} (hx : -1000 ≤ x ∧ x ≤ 1000) (hy : -1000 ≤ y ∧ y ≤ 1000) : -1000000 ≤ x * y ∧ x * y ≤ 1000000 := by
  have h : (x * y).natAbs ≤ 1000 * 1000 := by
    rw [Int.natAbs_mul]; exact Nat.mul_le_mul (by omega) (by omega)
  omega
theorem wrap_id {n : Int} (h : -1000000000000000000 ≤ n ∧ n ≤ 1000000000000000000) : wrap64 n = n := IntWalk.wrap64_in n (by omega)





end Go.Proofs.YtambbhldhhlfgaaDoor

/- Plain mathematics: products, inverses, discriminants of changed forms. No Go function in sight. -/
namespace Go.Proofs.YtambbhldhhlfgaaDoor
open Go.RowKit

def hP (a b c : Int) : Int := b * b - 3 * a * c
def hQ (a b c d : Int) : Int := b * c - 9 * a * d
def hR (b c d : Int) : Int := c * c - 3 * b * d
theorem hess_disc (a b c d : Int) : 4 * hP a b c * hR b c d - hQ a b c d * hQ a b c d = 3 * dx a b c d := by unfold hP hQ hR dx; grind
theorem hess_P (a b c d p q r s : Int) : hP (cA a b c d p r) (cB a b c d p q r s) (cC a b c d p q r s) = (p * s - q * r) * (p * s - q * r) * (hP a b c * p * p + hQ a b c d * p * r + hR b c d * r * r) := by
  unfold hP hQ hR cA cB cC vx; grind
theorem hess_R (a b c d p q r s : Int) : hR (cB a b c d p q r s) (cC a b c d p q r s) (cA a b c d q s) = (p * s - q * r) * (p * s - q * r) * (hP a b c * q * q + hQ a b c d * q * s + hR b c d * s * s) := by
  unfold hP hQ hR cA cB cC vx; grind
theorem hess_Q (a b c d p q r s : Int) : hQ (cA a b c d p r) (cB a b c d p q r s) (cC a b c d p q r s) (cA a b c d q s) = (p * s - q * r) * (p * s - q * r) * (2 * hP a b c * p * q + hQ a b c d * (p * s + q * r) + 2 * hR b c d * r * s) := by
  unfold hP hQ hR cA cB cC vx; grind
theorem quad_disc (P Q R p q r s : Int) : 4 * (P * p * p + Q * p * r + R * r * r) * (P * q * q + Q * q * s + R * s * s) - (2 * P * p * q + Q * (p * s + q * r) + 2 * R * r * s) * (2 * P * p * q + Q * (p * s + q * r) + 2 * R * r * s) = (p * s - q * r) * (p * s - q * r) * (4 * P * R - Q * Q) := by grind
theorem disc_ch (a b c d p q r s g : Int) (hg : g = p * s - q * r) : dx (cA a b c d p r) (cB a b c d p q r s) (cC a b c d p q r s) (cA a b c d q s) = dx a b c d * g * g * g * g * g * g := by
  have h1 := hess_disc (cA a b c d p r) (cB a b c d p q r s) (cC a b c d p q r s) (cA a b c d q s)
  have h2 := hess_disc a b c d
  have h3 := quad_disc (hP a b c) (hQ a b c d) (hR b c d) p q r s
  rw [hess_P, hess_Q, hess_R, ← hg] at h1
  rw [← hg, h2] at h3
  generalize hP a b c * p * p + hQ a b c d * p * r + hR b c d * r * r = X at h1 h3
  generalize hP a b c * q * q + hQ a b c d * q * s + hR b c d * s * s = Y at h1 h3
  generalize 2 * hP a b c * p * q + hQ a b c d * (p * s + q * r) + 2 * hR b c d * r * s = Z at h1 h3
  have e : 4 * (g * g * X) * (g * g * Y) - g * g * Z * (g * g * Z) = g * g * g * g * (4 * X * Y - Z * Z) := by grind
  rw [e, h3] at h1
  have e2 : g * g * g * g * (g * g * (3 * dx a b c d)) = 3 * (dx a b c d * g * g * g * g * g * g) := by grind
  omega
/-- The discriminant of a changed form, as int64 reckons. -/
theorem dsc_ch (a b c d p q r s : Int) : dsc (cA a b c d p r) (cB a b c d p q r s) (cC a b c d p q r s) (cA a b c d q s) = mu (mu (mu (mu (mu (mu (dsc a b c d) (det p q r s)) (det p q r s)) (det p q r s)) (det p q r s)) (det p q r s)) (det p q r s) := by
  have e : det p q r s = wrap64 (p * s - q * r) := by simp only [det, mi, mu, wr_sl, wr_sr]
  rw [dsc_wr, dsc_wr, e, disc_ch a b c d p q r s _ rfl]
  simp only [mu, wr_ml, wr_mr]
theorem val_ch (a b c d p q r s x y : Int) : vx (cA a b c d p r) (cB a b c d p q r s) (cC a b c d p q r s) (cA a b c d q s) x y = vx a b c d (p * x + q * y) (r * x + s * y) := by
  unfold vx cA cB cC vx; grind
theorem det_eq {a b c d : Int} (ha : -1000 ≤ a ∧ a ≤ 1000) (hb : -1000 ≤ b ∧ b ≤ 1000) (hc : -1000 ≤ c ∧ c ≤ 1000) (hd : -1000 ≤ d ∧ d ≤ 1000) : det a b c d = a * d - b * c := by
  have h1 := mulb ha hd; have h2 := mulb hb hc
  simp only [det, mi, mu, wr_sl, wr_sr]; exact wr_in (by omega)
theorem mp_eq {a b c d : Int} (ha : -1000 ≤ a ∧ a ≤ 1000) (hb : -1000 ≤ b ∧ b ≤ 1000) (hc : -1000 ≤ c ∧ c ≤ 1000) (hd : -1000 ≤ d ∧ d ≤ 1000) : mp a b c d = a * b + c * d := by
  have h1 := mulb ha hb; have h2 := mulb hc hd
  simp only [mp, pl, mu, wr_al, wr_ar]; exact wr_in (by omega)
/-- Determinants multiply. -/
theorem det_mul {a b c d p q r s : Int} (hm : isF a b c d = true) (hn : isF p q r s = true) : mu (det a b c d) (det p q r s) = det (mp a p b r) (mp a q b s) (mp c p d r) (mp c q d s) := by
  obtain ⟨ha, hb, hc, hd⟩ := isF_t hm
  obtain ⟨hp, hq, hr, hs⟩ := isF_t hn
  rw [mp_eq ha hp hb hr, mp_eq ha hq hb hs, mp_eq hc hp hd hr, mp_eq hc hq hd hs]
  simp only [det, mi, mu, wr_ml, wr_mr, wr_sl, wr_sr]
  refine congrArg wrap64 ?_
  grind
/-- The changed form changed back. -/
theorem back_0 (a b c d p q r s g : Int) :
    cA (cA a b c d p r) (cB a b c d p q r s) (cC a b c d p q r s) (cA a b c d q s) (g * s) (-(g * r)) = (g * (p * s - q * r)) * (g * (p * s - q * r)) * (g * (p * s - q * r)) * a ∧
    cB (cA a b c d p r) (cB a b c d p q r s) (cC a b c d p q r s) (cA a b c d q s) (g * s) (-(g * q)) (-(g * r)) (g * p) = (g * (p * s - q * r)) * (g * (p * s - q * r)) * (g * (p * s - q * r)) * b ∧
    cC (cA a b c d p r) (cB a b c d p q r s) (cC a b c d p q r s) (cA a b c d q s) (g * s) (-(g * q)) (-(g * r)) (g * p) = (g * (p * s - q * r)) * (g * (p * s - q * r)) * (g * (p * s - q * r)) * c ∧
    cA (cA a b c d p r) (cB a b c d p q r s) (cC a b c d p q r s) (cA a b c d q s) (-(g * q)) (g * p) = (g * (p * s - q * r)) * (g * (p * s - q * r)) * (g * (p * s - q * r)) * d := by
  refine ⟨?_, ?_, ?_, ?_⟩
  · unfold cA cB cC vx; grind
  · unfold cA cB cC vx; grind
  · unfold cA cB cC vx; grind
  · unfold cA cB cC vx; grind
theorem sq_one {g : Int} (h : g = 1 ∨ g = -1) : g * g = 1 := by rcases h with rfl | rfl <;> rfl
theorem back_1 {a b c d p q r s g : Int} (hg : g = p * s - q * r) (h : g = 1 ∨ g = -1) :
    cA (cA a b c d p r) (cB a b c d p q r s) (cC a b c d p q r s) (cA a b c d q s) (g * s) (-(g * r)) = a ∧
    cB (cA a b c d p r) (cB a b c d p q r s) (cC a b c d p q r s) (cA a b c d q s) (g * s) (-(g * q)) (-(g * r)) (g * p) = b ∧
    cC (cA a b c d p r) (cB a b c d p q r s) (cC a b c d p q r s) (cA a b c d q s) (g * s) (-(g * q)) (-(g * r)) (g * p) = c ∧
    cA (cA a b c d p r) (cB a b c d p q r s) (cC a b c d p q r s) (cA a b c d q s) (-(g * q)) (g * p) = d := by
  have h0 := back_0 a b c d p q r s g
  have h1 := sq_one h
  rw [← hg, h1] at h0
  simpa using h0
theorem inv_isF {a b c d g : Int} (hm : isF a b c d = true) (h : g = 1 ∨ g = -1) : isF (g * d) (-(g * b)) (-(g * c)) (g * a) = true := by
  obtain ⟨ha, hb, hc, hd⟩ := isF_t hm
  rcases h with rfl | rfl <;> exact isF_mk (by omega) (by omega) (by omega) (by omega)
/-- A unit matrix and its inverse. -/
theorem inv_mul {a b c d g : Int} (hm : isF a b c d = true) (hg : det a b c d = g) (h : g = 1 ∨ g = -1) :
    mp a (g * d) b (-(g * c)) = 1 ∧ mp a (-(g * b)) b (g * a) = 0 ∧ mp c (g * d) d (-(g * c)) = 0 ∧ mp c (-(g * b)) d (g * a) = 1 := by
  obtain ⟨ha, hb, hc, hd⟩ := isF_t hm
  obtain ⟨h1, h2, h3, h4⟩ := isF_t (inv_isF hm h)
  rw [det_eq ha hb hc hd] at hg
  rw [mp_eq ha h1 hb h3, mp_eq ha h2 hb h4, mp_eq hc h1 hd h3, mp_eq hc h2 hd h4]
  rcases h with h | h <;> rw [h] at hg ⊢ <;> refine ⟨?_, ?_, ?_, ?_⟩ <;> grind
theorem ivc_0 {a b c d : Int} (h : ivc a b c d = 0) : isF a b c d = true ∧ (det a b c d = 1 ∨ det a b c d = -1) := by
  unfold ivc at h
  split at h
  · rename_i hf
    refine ⟨hf, ?_⟩
    split at h
    · rename_i hu; simpa [isUnit] using hu
    · cases h
  · cases h
theorem mulc_0 {a b c d p q r s : Int} (h : mulc a b c d p q r s = 0) : isF a b c d = true ∧ isF p q r s = true ∧ isF (mp a p b r) (mp a q b s) (mp c p d r) (mp c q d s) = true := by
  unfold mulc at h
  split at h
  · rename_i hf
    split at h
    · rename_i hu; simp only [Bool.and_eq_true] at hf; exact ⟨hf.1, hf.2, hu⟩
    · cases h
  · cases h
theorem chc_0 {a b c d p q r s : Int} (h : chc a b c d p q r s = 0) : isF a b c d = true ∧ isF p q r s = true ∧ isF (cA a b c d p r) (cB a b c d p q r s) (cC a b c d p q r s) (cA a b c d q s) = true := by
  unfold chc at h
  split at h
  · rename_i hf
    split at h
    · rename_i hu; simp only [Bool.and_eq_true] at hf; exact ⟨hf.1, hf.2, hu⟩
    · cases h
  · cases h
/-- The value of a changed form at 2, -1. -/
theorem val_2 (a b c d p q r s : Int) : vl (cA a b c d p r) (cB a b c d p q r s) (cC a b c d p q r s) (cA a b c d q s) 2 (-1) = vl a b c d (2 * p - q) (2 * r - s) := by
  rw [vl_wr, vl_wr, val_ch]
  have e1 : p * 2 + q * (-1) = 2 * p - q := by omega
  have e2 : r * 2 + s * (-1) = 2 * r - s := by omega
  rw [e1, e2]

end Go.Proofs.YtambbhldhhlfgaaDoor
