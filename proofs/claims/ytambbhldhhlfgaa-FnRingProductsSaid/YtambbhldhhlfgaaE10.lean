/- Chapter 4: AddElems. -/
import Derived.Test.YtambbhldhhlfgaaE9
namespace Go.Proofs.Ytambbhldhhlfgaa
open Go.RowKit

set_option maxRecDepth 100000 in
set_option maxHeartbeats 2000000 in
theorem iAddE_any (u v x p q r k : Int) (w : World) :
    Calls Try.prog 12 #[.agg #[.int .i64 u, .int .i64 v, .int .i64 x], .agg #[.int .i64 p, .int .i64 q, .int .i64 r], .int .i64 k] w fun e w' => e = .returned (.tuple #[.agg #[.int .i64 (if0 (aec (isE u v x && isE p q r) (rng (-10000) 10000 k) (wrap64 (u + k * p)) (wrap64 (v + k * q)) (wrap64 (x + k * r))) (wrap64 (u + k * p))), .int .i64 (if0 (aec (isE u v x && isE p q r) (rng (-10000) 10000 k) (wrap64 (u + k * p)) (wrap64 (v + k * q)) (wrap64 (x + k * r))) (wrap64 (v + k * q))), .int .i64 (if0 (aec (isE u v x && isE p q r) (rng (-10000) 10000 k) (wrap64 (u + k * p)) (wrap64 (v + k * q)) (wrap64 (x + k * r))) (wrap64 (x + k * r)))], .int .i64 (aec (isE u v x && isE p q r) (rng (-10000) 10000 k) (wrap64 (u + k * p)) (wrap64 (v + k * q)) (wrap64 (x + k * r)))]) ∧ Below w.heap.size w w' := by
  have hm := fun W => addM_any u v x p q r k W

  have ht := fun W => iTold_any (wrap64 (u + k * p)) (wrap64 (v + k * q)) (wrap64 (x + k * r)) W
  generalize wrap64 (u + k * p) = k0 at hm ht ⊢
  generalize wrap64 (v + k * q) = k1 at hm ht ⊢
  generalize wrap64 (x + k * r) = k2 at hm ht ⊢
  have he : aec true true k0 k1 k2 = elc k0 k1 k2 := rfl
  generalize hg : (isE u v x && isE p q r) = g
  have HG := hid hg
  generalize hh : rng (-10000) 10000 k = h
  have HH := hid hh
  clear hg hh
  generalize elc k0 k1 k2 = kc at ht he
  have HT := hid ht; have HE := hid he;  have HM := hid hm
  clear ht he hm
  have X0 := ((Arr3.new w u v x 27).alloc (.cells #[.int .i64 p, .int .i64 q, .int .i64 r] 27)).alloc (.cells #[.int .i64 0, .int .i64 0, .int .i64 0] 27)
  have Y0 := (Arr3.new (w.alloc (.cells #[.int .i64 u, .int .i64 v, .int .i64 x] 27)) p q r 27).alloc (.cells #[.int .i64 0, .int .i64 0, .int .i64 0] 27)
  have R0 := Arr3.new ((w.alloc (.cells #[.int .i64 u, .int .i64 v, .int .i64 x] 27)).alloc (.cells #[.int .i64 p, .int .i64 q, .int .i64 r] 27)) 0 0 0 27
  have U0 := gr_alloc (gr_alloc (gr_alloc (Below.refl w.heap.size w) (.cells #[.int .i64 u, .int .i64 v, .int .i64 x] 27)) (.cells #[.int .i64 p, .int .i64 q, .int .i64 r] 27)) (.cells #[.int .i64 0, .int .i64 0, .int .i64 0] 27)
  simp only [World.size_alloc] at Y0 R0
  go_enter Try.func12, Try.ntmps12
  go_wp2_with fail
  refine (iIsE_any u v x _).mono ?_
  rintro e w1 ⟨rfl, hb1⟩
  have X1 := X0.next hb1
  have Y1 := Y0.next hb1
  have R1 := R0.next hb1
  have U1 := gr_trans U0 hb1
  clear X0 Y0 R0 U0
  by_cases h1 : isE u v x = false
  · obtain ⟨_, r0, r1, r2, f0, f1, f2⟩ := id R1
    have hg : g = false := by rw [← HG.out]; simp [h1]
    subst hg
    go_wp2_with fail
    refine bodyPost_ret (res_A3 (e := 2) rfl Try.underlying27 (by kernel_rfl) rfl (by (repeat (first | with_reducible assumption | with_reducible exact Arr3.box (by assumption) | with_reducible exact Arr3.new _ _ _ _ _ | with_reducible refine Arr3.drew ?_ | with_reducible refine Arr3.drewN ?_ _ | with_reducible refine Arr3.store3 ?_ | with_reducible refine Arr3.alloc ?_ _ | with_reducible refine Arr3.next ?_ (by assumption) | refine Arr3.oth ?_ (by first | (simp; done) | omega | (simp; omega)) _ )))) rfl ?_
    exact ⟨ret_t3 (by simp [if0, aec]) (by simp [if0, aec]) (by simp [if0, aec]) (by simp [aec]), by (repeat' (first | with_reducible exact Below.refl _ _ | with_reducible assumption | with_reducible refine gr_alloc ?_ _ | with_reducible refine gr_drew ?_ | with_reducible refine gr_drewN ?_ _ | with_reducible refine gr_trans ?_ (by assumption) | with_reducible refine gr_set ?_ ?_ _ | (simp; done) | omega | (simp; omega)))⟩
  have h1' : isE u v x = true := by simpa using h1
  clear h1
  obtain ⟨_, y0, y1, y2, _⟩ := id Y1
  go_wp2_with fail
  refine (iIsE_any p q r _).mono ?_
  rintro e w2 ⟨rfl, hb2⟩
  have X2 := X1.next hb2
  have Y2 := Y1.next hb2
  have R2 := R1.next hb2
  have U2 := gr_trans U1 hb2
  clear X1 Y1 R1 U1 y0 y1 y2
  obtain ⟨_, r0, r1, r2, f0, f1, f2⟩ := id R2
  by_cases h3 : isE p q r = false
  · have hg : g = false := by rw [← HG.out]; simp [h3]
    subst hg
    go_wp2_with fail
    refine bodyPost_ret (res_A3 (e := 2) rfl Try.underlying27 (by kernel_rfl) rfl (by (repeat (first | with_reducible assumption | with_reducible exact Arr3.box (by assumption) | with_reducible exact Arr3.new _ _ _ _ _ | with_reducible refine Arr3.drew ?_ | with_reducible refine Arr3.drewN ?_ _ | with_reducible refine Arr3.store3 ?_ | with_reducible refine Arr3.alloc ?_ _ | with_reducible refine Arr3.next ?_ (by assumption) | refine Arr3.oth ?_ (by first | (simp; done) | omega | (simp; omega)) _ )))) rfl ?_
    exact ⟨ret_t3 (by simp [if0, aec]) (by simp [if0, aec]) (by simp [if0, aec]) (by simp [aec]), by (repeat' (first | with_reducible exact Below.refl _ _ | with_reducible assumption | with_reducible refine gr_alloc ?_ _ | with_reducible refine gr_drew ?_ | with_reducible refine gr_drewN ?_ _ | with_reducible refine gr_trans ?_ (by assumption) | with_reducible refine gr_set ?_ ?_ _ | (simp; done) | omega | (simp; omega)))⟩
  have h3' : isE p q r = true := by simpa using h3
  clear h3
  have hg : g = true := by rw [← HG.out]; simp [h1', h3']
  subst hg
  go_wp2_with fail
  refine (isWithin_any k 10000 _ (by omega) (by omega)).mono ?_
  rintro e z2 ⟨rfl, rfl⟩
  by_cases h4 : rng (-10000) 10000 k = false
  · have hh : h = false := by rw [← HH.out]; exact h4
    subst hh
    go_wp2_with fail
    refine bodyPost_ret (res_A3 (e := 2) rfl Try.underlying27 (by kernel_rfl) rfl (by (repeat (first | with_reducible assumption | with_reducible exact Arr3.box (by assumption) | with_reducible exact Arr3.new _ _ _ _ _ | with_reducible refine Arr3.drew ?_ | with_reducible refine Arr3.drewN ?_ _ | with_reducible refine Arr3.store3 ?_ | with_reducible refine Arr3.alloc ?_ _ | with_reducible refine Arr3.next ?_ (by assumption) | refine Arr3.oth ?_ (by first | (simp; done) | omega | (simp; omega)) _ )))) rfl ?_
    exact ⟨ret_t3 (by simp [if0, aec]) (by simp [if0, aec]) (by simp [if0, aec]) (by simp [aec]), by (repeat' (first | with_reducible exact Below.refl _ _ | with_reducible assumption | with_reducible refine gr_alloc ?_ _ | with_reducible refine gr_drew ?_ | with_reducible refine gr_drewN ?_ _ | with_reducible refine gr_trans ?_ (by assumption) | with_reducible refine gr_set ?_ ?_ _ | (simp; done) | omega | (simp; omega)))⟩
  have h4' : rng (-10000) 10000 k = true := by simpa using h4
  clear h4
  have hh : h = true := by rw [← HH.out]; exact h4'
  subst hh
  clear r0 r1 r2 f0 f1 f2
  obtain ⟨_, x0, x1, x2, _⟩ := id X2
  obtain ⟨_, y0, y1, y2, _⟩ := id Y2
  go_wp2_with fail
  refine (HM.out _).mono ?_
  rintro e w3 ⟨rfl, hb3⟩
  have R3 := R2.next hb3
  have U3 := gr_trans U2 hb3
  clear R2 U2
  go_wp2_with fail
  refine (HT.out _).mono ?_
  rintro e w4 ⟨rfl, hb4⟩
  have R4 := R3.next hb4
  obtain ⟨_, r0, r1, r2, f0, f1, f2⟩ := id R4
  go_wp2_with fail
  refine bodyPost_ret (res_A3 (e := 2) rfl Try.underlying27 (by kernel_rfl) rfl (by (repeat (first | with_reducible assumption | with_reducible exact Arr3.box (by assumption) | with_reducible exact Arr3.new _ _ _ _ _ | with_reducible refine Arr3.drew ?_ | with_reducible refine Arr3.drewN ?_ _ | with_reducible refine Arr3.store3 ?_ | with_reducible refine Arr3.alloc ?_ _ | with_reducible refine Arr3.next ?_ (by assumption) | refine Arr3.oth ?_ (by first | (simp; done) | omega | (simp; omega)) _ )))) rfl ?_
  exact ⟨ret_t3 (by rw [HE.out]) (by rw [HE.out]) (by rw [HE.out]) HE.out.symm, by (repeat' (first | with_reducible exact Below.refl _ _ | with_reducible assumption | with_reducible refine gr_alloc ?_ _ | with_reducible refine gr_drew ?_ | with_reducible refine gr_drewN ?_ _ | with_reducible refine gr_trans ?_ (by assumption) | with_reducible refine gr_set ?_ ?_ _ | (simp; done) | omega | (simp; omega)))⟩

set_option maxRecDepth 100000 in
set_option maxHeartbeats 2000000 in
theorem sAddE_any (u v x p q r k : Int) (w : World) :
    Calls Try.prog 13 #[.agg #[.int .i64 u, .int .i64 v, .int .i64 x], .agg #[.int .i64 p, .int .i64 q, .int .i64 r], .int .i64 k] w fun e w' => e = .returned (.tuple #[.agg #[.int .i64 (if0 (aec (isE u v x && isE p q r) (rng (-10000) 10000 k) (wrap64 (u + k * p)) (wrap64 (v + k * q)) (wrap64 (x + k * r))) (wrap64 (u + k * p))), .int .i64 (if0 (aec (isE u v x && isE p q r) (rng (-10000) 10000 k) (wrap64 (u + k * p)) (wrap64 (v + k * q)) (wrap64 (x + k * r))) (wrap64 (v + k * q))), .int .i64 (if0 (aec (isE u v x && isE p q r) (rng (-10000) 10000 k) (wrap64 (u + k * p)) (wrap64 (v + k * q)) (wrap64 (x + k * r))) (wrap64 (x + k * r)))], .int .i64 (aec (isE u v x && isE p q r) (rng (-10000) 10000 k) (wrap64 (u + k * p)) (wrap64 (v + k * q)) (wrap64 (x + k * r)))]) ∧ Below w.heap.size w w' := by
  have hk0 : wrap64 (u + k * p) = wrap64 (u + wrap64 (k * p)) := (wr_ar _ _).symm
  have hk1 : wrap64 (v + k * q) = wrap64 (v + wrap64 (k * q)) := (wr_ar _ _).symm
  have hk2 : wrap64 (x + k * r) = wrap64 (x + wrap64 (k * r)) := (wr_ar _ _).symm
  have ht := fun W => sTold_any (wrap64 (u + k * p)) (wrap64 (v + k * q)) (wrap64 (x + k * r)) W
  generalize wrap64 (u + k * p) = k0 at hk0 ht ⊢
  generalize wrap64 (v + k * q) = k1 at hk1 ht ⊢
  generalize wrap64 (x + k * r) = k2 at hk2 ht ⊢
  have he : aec true true k0 k1 k2 = elc k0 k1 k2 := rfl
  generalize hg : (isE u v x && isE p q r) = g
  have HG := hid hg
  generalize hh : rng (-10000) 10000 k = h
  have HH := hid hh
  clear hg hh
  generalize elc k0 k1 k2 = kc at ht he
  have HT := hid ht; have HE := hid he; have HK0 := hid hk0; have HK1 := hid hk1; have HK2 := hid hk2
  clear ht he hk0 hk1 hk2
  have X0 := ((Arr3.new w u v x 27).alloc (.cells #[.int .i64 p, .int .i64 q, .int .i64 r] 27)).alloc (.cells #[.int .i64 0, .int .i64 0, .int .i64 0] 27)
  have Y0 := (Arr3.new (w.alloc (.cells #[.int .i64 u, .int .i64 v, .int .i64 x] 27)) p q r 27).alloc (.cells #[.int .i64 0, .int .i64 0, .int .i64 0] 27)
  have R0 := Arr3.new ((w.alloc (.cells #[.int .i64 u, .int .i64 v, .int .i64 x] 27)).alloc (.cells #[.int .i64 p, .int .i64 q, .int .i64 r] 27)) 0 0 0 27
  have U0 := gr_alloc (gr_alloc (gr_alloc (Below.refl w.heap.size w) (.cells #[.int .i64 u, .int .i64 v, .int .i64 x] 27)) (.cells #[.int .i64 p, .int .i64 q, .int .i64 r] 27)) (.cells #[.int .i64 0, .int .i64 0, .int .i64 0] 27)
  simp only [World.size_alloc] at Y0 R0
  go_enter Try.func13, Try.ntmps13
  go_wp2_with fail
  refine (sIsE0_any u v x _).mono ?_
  rintro e w1 ⟨rfl, hb1⟩
  have X1 := X0.next hb1
  have Y1 := Y0.next hb1
  have R1 := R0.next hb1
  have U1 := gr_trans U0 hb1
  clear X0 Y0 R0 U0
  by_cases h1 : isE u v x = false
  · obtain ⟨_, r0, r1, r2, f0, f1, f2⟩ := id R1
    have hg : g = false := by rw [← HG.out]; simp [h1]
    subst hg
    go_wp2_with fail
    refine bodyPost_ret (res_A3 (e := 2) rfl Try.underlying27 (by kernel_rfl) rfl (by (repeat (first | with_reducible assumption | with_reducible exact Arr3.box (by assumption) | with_reducible exact Arr3.new _ _ _ _ _ | with_reducible refine Arr3.drew ?_ | with_reducible refine Arr3.drewN ?_ _ | with_reducible refine Arr3.store3 ?_ | with_reducible refine Arr3.alloc ?_ _ | with_reducible refine Arr3.next ?_ (by assumption) | refine Arr3.oth ?_ (by first | (simp; done) | omega | (simp; omega)) _ )))) rfl ?_
    exact ⟨ret_t3 (by simp [if0, aec]) (by simp [if0, aec]) (by simp [if0, aec]) (by simp [aec]), by (repeat' (first | with_reducible exact Below.refl _ _ | with_reducible assumption | with_reducible refine gr_alloc ?_ _ | with_reducible refine gr_drew ?_ | with_reducible refine gr_drewN ?_ _ | with_reducible refine gr_trans ?_ (by assumption) | with_reducible refine gr_set ?_ ?_ _ | (simp; done) | omega | (simp; omega)))⟩
  have h1' : isE u v x = true := by simpa using h1
  clear h1
  obtain ⟨_, y0, y1, y2, _⟩ := id Y1
  go_wp2_with fail
  refine (sIsE0_any p q r _).mono ?_
  rintro e w2 ⟨rfl, hb2⟩
  have X2 := X1.next hb2
  have Y2 := Y1.next hb2
  have R2 := R1.next hb2
  have U2 := gr_trans U1 hb2
  clear X1 Y1 R1 U1 y0 y1 y2
  obtain ⟨_, r0, r1, r2, f0, f1, f2⟩ := id R2
  by_cases h3 : isE p q r = false
  · have hg : g = false := by rw [← HG.out]; simp [h3]
    subst hg
    go_wp2_with fail
    refine bodyPost_ret (res_A3 (e := 2) rfl Try.underlying27 (by kernel_rfl) rfl (by (repeat (first | with_reducible assumption | with_reducible exact Arr3.box (by assumption) | with_reducible exact Arr3.new _ _ _ _ _ | with_reducible refine Arr3.drew ?_ | with_reducible refine Arr3.drewN ?_ _ | with_reducible refine Arr3.store3 ?_ | with_reducible refine Arr3.alloc ?_ _ | with_reducible refine Arr3.next ?_ (by assumption) | refine Arr3.oth ?_ (by first | (simp; done) | omega | (simp; omega)) _ )))) rfl ?_
    exact ⟨ret_t3 (by simp [if0, aec]) (by simp [if0, aec]) (by simp [if0, aec]) (by simp [aec]), by (repeat' (first | with_reducible exact Below.refl _ _ | with_reducible assumption | with_reducible refine gr_alloc ?_ _ | with_reducible refine gr_drew ?_ | with_reducible refine gr_drewN ?_ _ | with_reducible refine gr_trans ?_ (by assumption) | with_reducible refine gr_set ?_ ?_ _ | (simp; done) | omega | (simp; omega)))⟩
  have h3' : isE p q r = true := by simpa using h3
  clear h3
  have hg : g = true := by rw [← HG.out]; simp [h1', h3']
  subst hg
  go_wp2_with fail
  refine (l01In_any k (-10000) 10000 _).mono ?_
  rintro e z2 ⟨rfl, rfl⟩
  by_cases h4 : rng (-10000) 10000 k = false
  · have hh : h = false := by rw [← HH.out]; exact h4
    subst hh
    go_wp2_with fail
    refine bodyPost_ret (res_A3 (e := 2) rfl Try.underlying27 (by kernel_rfl) rfl (by (repeat (first | with_reducible assumption | with_reducible exact Arr3.box (by assumption) | with_reducible exact Arr3.new _ _ _ _ _ | with_reducible refine Arr3.drew ?_ | with_reducible refine Arr3.drewN ?_ _ | with_reducible refine Arr3.store3 ?_ | with_reducible refine Arr3.alloc ?_ _ | with_reducible refine Arr3.next ?_ (by assumption) | refine Arr3.oth ?_ (by first | (simp; done) | omega | (simp; omega)) _ )))) rfl ?_
    exact ⟨ret_t3 (by simp [if0, aec]) (by simp [if0, aec]) (by simp [if0, aec]) (by simp [aec]), by (repeat' (first | with_reducible exact Below.refl _ _ | with_reducible assumption | with_reducible refine gr_alloc ?_ _ | with_reducible refine gr_drew ?_ | with_reducible refine gr_drewN ?_ _ | with_reducible refine gr_trans ?_ (by assumption) | with_reducible refine gr_set ?_ ?_ _ | (simp; done) | omega | (simp; omega)))⟩
  have h4' : rng (-10000) 10000 k = true := by simpa using h4
  clear h4
  have hh : h = true := by rw [← HH.out]; exact h4'
  subst hh
  clear r0 r1 r2 f0 f1 f2
  obtain ⟨_, x0, x1, x2, _⟩ := id X2
  obtain ⟨_, y0, y1, y2, _⟩ := id Y2
  go_wp2_with fail
  rw [← HK0.out, ← HK1.out, ← HK2.out]
  refine (HT.out _).mono ?_
  rintro e w4 ⟨rfl, hb4⟩
  have R4 := (R2.next hb4).alloc (.cells #[.int .i64 (if0 kc k0), .int .i64 (if0 kc k1), .int .i64 (if0 kc k2)] 27)
  have V4 := Arr3.new w4 (if0 kc k0) (if0 kc k1) (if0 kc k2) 27
  obtain ⟨_, r0, r1, r2, f0, f1, f2⟩ := id R4
  obtain ⟨_, v0, v1, v2, _⟩ := id V4
  go_wp2_with fail
  refine bodyPost_ret (res_A3 (e := 2) rfl Try.underlying27 (by kernel_rfl) rfl (by (repeat (first | with_reducible assumption | with_reducible exact Arr3.box (by assumption) | with_reducible exact Arr3.new _ _ _ _ _ | with_reducible refine Arr3.drew ?_ | with_reducible refine Arr3.drewN ?_ _ | with_reducible refine Arr3.store3 ?_ | with_reducible refine Arr3.alloc ?_ _ | with_reducible refine Arr3.next ?_ (by assumption) | refine Arr3.oth ?_ (by first | (simp; done) | omega | (simp; omega)) _ )))) rfl ?_
  exact ⟨ret_t3 (by rw [HE.out]) (by rw [HE.out]) (by rw [HE.out]) HE.out.symm, by (repeat' (first | with_reducible exact Below.refl _ _ | with_reducible assumption | with_reducible refine gr_alloc ?_ _ | with_reducible refine gr_drew ?_ | with_reducible refine gr_drewN ?_ _ | with_reducible refine gr_trans ?_ (by assumption) | with_reducible refine gr_set ?_ ?_ _ | (simp; done) | omega | (simp; omega)))⟩


end Go.Proofs.Ytambbhldhhlfgaa
