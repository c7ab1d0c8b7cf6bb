/- Chapter 4: IndexOf, DiscriminantOfElem. -/
import Derived.Test.YtdogkkmdccieiaaDoorZ12
namespace Go.Proofs.YtdogkkmdccieiaaDoor
open Go.RowKit

set_option maxRecDepth 100000 in
set_option maxHeartbeats 2000000 in
theorem iIndexE_any (a b c d u v x : Int) (w : World) :
    Calls Tryd.prog 7 #[.agg #[.int .i64 a, .int .i64 b, .int .i64 c, .int .i64 d], .agg #[.int .i64 u, .int .i64 v, .int .i64 x]] w fun e w' => e = .returned (.tuple #[.int .i64 (if0 (ixc (fec a b c d u v x) (vl a b c d v x)) (mx (vl a b c d v x))), .int .i64 (ixc (fec a b c d u v x) (vl a b c d v x))]) ∧ Below w.heap.size w w' := by
  have hf := fun W => iFormValue_any a b c d v x W
  generalize vl a b c d v x = y at hf ⊢
  have HFV := hid hf
  clear hf
  generalize hk : fec a b c d u v x = k
  have HK := hid hk
  clear hk
  have F0 := (Arr.new w a b c d 25).alloc (.cells #[.int .i64 u, .int .i64 v, .int .i64 x] 27)
  have X0 := Arr3.new (w.alloc (.cells #[.int .i64 a, .int .i64 b, .int .i64 c, .int .i64 d] 25)) u v x 27
  have U0 := gr_alloc (gr_alloc (Below.refl w.heap.size w) (.cells #[.int .i64 a, .int .i64 b, .int .i64 c, .int .i64 d] 25)) (.cells #[.int .i64 u, .int .i64 v, .int .i64 x] 27)
  simp only [World.size_alloc] at X0
  go_enter Tryd.func7, Tryd.ntmps7
  go_wp2_with fail
  refine (iIsForm_any a b c d _).mono ?_
  rintro e w1 ⟨rfl, hb1⟩
  have F1 := F0.next hb1
  have X1 := X0.next hb1
  have U1 := gr_trans U0 hb1
  clear F0 X0 U0
  by_cases h1 : isF a b c d = false
  · have k0 := fec_f (u := u) (v := v) (x := x) h1
    rw [HK.out] at k0
    subst k0
    go_wp2_with fail
    go_ret2
    exact ⟨ret_tup2 (by simp [if0, ixc]) (by simp [ixc]), by (repeat' (first | with_reducible exact Below.refl _ _ | with_reducible assumption | with_reducible refine gr_alloc ?_ _ | with_reducible refine gr_drew ?_ | with_reducible refine gr_drewN ?_ _ | with_reducible refine gr_trans ?_ (by assumption) | with_reducible refine gr_set ?_ ?_ _ | (simp; done) | omega | (simp; omega)))⟩
  have h1' : isF a b c d = true := by simpa using h1
  clear h1
  obtain ⟨_, x0, x1, x2, _⟩ := id X1
  go_wp2_with fail
  refine (iIsE_any u v x _).mono ?_
  rintro e w2 ⟨rfl, hb2⟩
  clear x0 x1 x2
  have F2 := F1.next hb2
  have X2 := X1.next hb2
  have U2 := gr_trans U1 hb2
  clear F1 X1 U1
  by_cases h2 : isE u v x = false
  · have k0 := fec_e (a := a) (b := b) (c := c) (d := d) h2
    rw [HK.out] at k0
    subst k0
    go_wp2_with fail
    go_ret2
    exact ⟨ret_tup2 (by simp [if0, ixc]) (by simp [ixc]), by (repeat' (first | with_reducible exact Below.refl _ _ | with_reducible assumption | with_reducible refine gr_alloc ?_ _ | with_reducible refine gr_drew ?_ | with_reducible refine gr_drewN ?_ _ | with_reducible refine gr_trans ?_ (by assumption) | with_reducible refine gr_set ?_ ?_ _ | (simp; done) | omega | (simp; omega)))⟩
  have h2' : isE u v x = true := by simpa using h2
  clear h2
  have k0 := fec_y h1' h2'
  rw [HK.out] at k0
  subst k0
  obtain ⟨_, a0, a1, a2, a3, _⟩ := id F2
  obtain ⟨_, x0, x1, x2, _⟩ := id X2
  go_wp2_with fail
  refine (HFV.out _).mono ?_
  rintro e w3 ⟨rfl, hb3⟩
  go_wp2_with fail
  all_goals (go_ret2; exact ⟨ret_tup2 (by go_light; simp_all [if0, ixc, mx]; try omega) (by go_light; simp_all [ixc, mx]; try omega), by (repeat' (first | with_reducible exact Below.refl _ _ | with_reducible assumption | with_reducible refine gr_alloc ?_ _ | with_reducible refine gr_drew ?_ | with_reducible refine gr_drewN ?_ _ | with_reducible refine gr_trans ?_ (by assumption) | with_reducible refine gr_set ?_ ?_ _ | (simp; done) | omega | (simp; omega)))⟩)

set_option maxRecDepth 100000 in
set_option maxHeartbeats 2000000 in
theorem sIndexE_any (a b c d u v x : Int) (w : World) :
    Calls Tryd.prog 8 #[.agg #[.int .i64 a, .int .i64 b, .int .i64 c, .int .i64 d], .agg #[.int .i64 u, .int .i64 v, .int .i64 x]] w fun e w' => e = .returned (.tuple #[.int .i64 (if0 (ixc (fec a b c d u v x) (vl a b c d v x)) (mx (vl a b c d v x))), .int .i64 (ixc (fec a b c d u v x) (vl a b c d v x))]) ∧ Below w.heap.size w w' := by
  have hf := fun W => sValue_any a b c d v x W
  generalize vl a b c d v x = y at hf ⊢
  have hc := fun k W => sCode1_any k a b c d u v x W
  generalize fec a b c d u v x = k at hc ⊢
  have HFV := hid hf; have HC := hid hc
  clear hf hc
  have F0 := (Arr.new w a b c d 25).alloc (.cells #[.int .i64 u, .int .i64 v, .int .i64 x] 27)
  have X0 := Arr3.new (w.alloc (.cells #[.int .i64 a, .int .i64 b, .int .i64 c, .int .i64 d] 25)) u v x 27
  have U0 := gr_alloc (gr_alloc (Below.refl w.heap.size w) (.cells #[.int .i64 a, .int .i64 b, .int .i64 c, .int .i64 d] 25)) (.cells #[.int .i64 u, .int .i64 v, .int .i64 x] 27)
  simp only [World.size_alloc] at X0
  have T0 := Arr3.new ((w.alloc (.cells #[.int .i64 a, .int .i64 b, .int .i64 c, .int .i64 d] 25)).alloc (.cells #[.int .i64 u, .int .i64 v, .int .i64 x] 27)) u v x 27
  simp only [World.size_alloc] at T0
  go_enter Tryd.func8, Tryd.ntmps8
  go_wp2_with fail
  refine (HC.out _ _ T0).mono ?_
  rintro e w1 ⟨rfl, hb1⟩
  have F1 := (F0.alloc (.cells #[.int .i64 u, .int .i64 v, .int .i64 x] 27)).next hb1
  have X1 := (X0.alloc (.cells #[.int .i64 u, .int .i64 v, .int .i64 x] 27)).next hb1
  have U1 := gr_trans (gr_alloc U0 (.cells #[.int .i64 u, .int .i64 v, .int .i64 x] 27)) hb1
  clear F0 X0 U0 T0
  by_cases hk : ¬ k = 0
  · have hk' : (k == 0) = false := by simpa using hk
    have HK := hid hk
    clear hk
    go_wp2_with fail
    go_ret2
    exact ⟨ret_tup2 (by simp [if0, ixc, HK.out]) (by simp [ixc, HK.out]), by (repeat' (first | with_reducible exact Below.refl _ _ | with_reducible assumption | with_reducible refine gr_alloc ?_ _ | with_reducible refine gr_drew ?_ | with_reducible refine gr_drewN ?_ _ | with_reducible refine gr_trans ?_ (by assumption) | with_reducible refine gr_set ?_ ?_ _ | (simp; done) | omega | (simp; omega)))⟩
  have hk0 : k = 0 := by omega
  subst hk0
  clear hk
  obtain ⟨_, a0, a1, a2, a3, _⟩ := id F1
  obtain ⟨_, x0, x1, x2, _⟩ := id X1
  go_wp2_with fail
  refine (HFV.out _).mono ?_
  rintro e w3 ⟨rfl, hb3⟩
  go_wp2_with fail
  all_goals (go_ret2; exact ⟨ret_tup2 (by go_light; simp_all [if0, ixc, mx]; try omega) (by go_light; simp_all [ixc, mx]; try omega), by (repeat' (first | with_reducible exact Below.refl _ _ | with_reducible assumption | with_reducible refine gr_alloc ?_ _ | with_reducible refine gr_drew ?_ | with_reducible refine gr_drewN ?_ _ | with_reducible refine gr_trans ?_ (by assumption) | with_reducible refine gr_set ?_ ?_ _ | (simp; done) | omega | (simp; omega)))⟩)

set_option maxRecDepth 100000 in
set_option maxHeartbeats 2000000 in
theorem iDiscE_any (a b c d u v x : Int) (w : World) :
    Calls Tryd.prog 13 #[.agg #[.int .i64 a, .int .i64 b, .int .i64 c, .int .i64 d], .agg #[.int .i64 u, .int .i64 v, .int .i64 x]] w fun e w' => e = .returned (.tuple #[.int .i64 (if0 (few 10 a b c d u v x) (dve a b c d v x)), .int .i64 (few 10 a b c d u v x)]) ∧ Below w.heap.size w w' := by
  have hp := fun W => iProducts_any a b c d W
  have hc := fun W => iWithinFE_any 10 a b c d u v x W (by omega) (by omega)
  have hm : few 10 a b c d u v x = 0 → ∀ W, Calls Tryd.prog 61 #[.agg #[.int .i64 (np a c), .int .i64 b, .int .i64 (ng a), .int .i64 (np a d), .int .i64 0, .int .i64 0, .int .i64 (np b d), .int .i64 d, .int .i64 (ng c)], .agg #[.int .i64 u, .int .i64 v, .int .i64 x]] W fun e w' =>
      e = .returned (.agg #[.int .i64 1, .int .i64 (wrap64 (-tr3 (mtf a b c d u v x))), .int .i64 (wrap64 (mi3 (mtf a b c d u v x))), .int .i64 (wrap64 (-de3 (mtf a b c d u v x)))]) ∧ Below W.heap.size W w' := fun h W => iPoly_any (np a c) b (ng a) (np a d) 0 0 (np b d) d (ng c) u v x W (mtf_bd (few_t h).1 (few_t h).2.1)
  have hv : few 10 a b c d u v x = 0 → dsc 1 (wrap64 (-tr3 (mtf a b c d u v x))) (wrap64 (mi3 (mtf a b c d u v x))) (wrap64 (-de3 (mtf a b c d u v x))) = dve a b c d v x := fun h => disc_prog (few_t h).2.1 (few_t h).2.2.1 (few_t h).2.2.2
  generalize wrap64 (-tr3 (mtf a b c d u v x)) = P1 at hm hv
  generalize wrap64 (mi3 (mtf a b c d u v x)) = P2 at hm hv
  generalize wrap64 (-de3 (mtf a b c d u v x)) = P3 at hm hv
  generalize dve a b c d v x = DV at hv ⊢
  have hd := fun W => iDisc0_any 1 P1 P2 P3 W
  generalize dsc 1 P1 P2 P3 = D at hd hv
  generalize np a c = t0 at hp hm
  generalize ng a = t2 at hp hm
  generalize np a d = t3 at hp hm
  generalize np b d = t6 at hp hm
  generalize ng c = t8 at hp hm
  generalize few 10 a b c d u v x = k at hc hm hv ⊢
  have HP := hid hp; have HM := hid hm; have HC := hid hc; have HV := hid hv; have HD := hid hd
  clear hp hm hc hv hd
  have F0 := (Arr.new w a b c d 25).alloc (.cells #[.int .i64 u, .int .i64 v, .int .i64 x] 27)
  have X0 := Arr3.new (w.alloc (.cells #[.int .i64 a, .int .i64 b, .int .i64 c, .int .i64 d] 25)) u v x 27
  have U0 := gr_alloc (gr_alloc (Below.refl w.heap.size w) (.cells #[.int .i64 a, .int .i64 b, .int .i64 c, .int .i64 d] 25)) (.cells #[.int .i64 u, .int .i64 v, .int .i64 x] 27)
  simp only [World.size_alloc] at X0
  go_enter Tryd.func13, Tryd.ntmps13
  go_wp2_with fail
  refine (HC.out _).mono ?_
  rintro e w1 ⟨rfl, hb1⟩
  have F1 := F0.next hb1
  have X1 := X0.next hb1
  have U1 := gr_trans U0 hb1
  clear F0 X0 U0
  by_cases hk : ¬ k = 0
  · have hk' : (k == 0) = false := by simpa using hk
    have HK := hid hk
    clear hk
    go_wp2_with fail
    go_ret2
    exact ⟨ret_tup2 (by simp [if0, HK.out]) rfl, by (repeat' (first | with_reducible exact Below.refl _ _ | with_reducible assumption | with_reducible refine gr_alloc ?_ _ | with_reducible refine gr_drew ?_ | with_reducible refine gr_drewN ?_ _ | with_reducible refine gr_trans ?_ (by assumption) | with_reducible refine gr_set ?_ ?_ _ | (simp; done) | omega | (simp; omega)))⟩
  have hk0 : k = 0 := by omega
  subst hk0
  clear hk
  obtain ⟨_, a0, a1, a2, a3, _⟩ := id F1
  obtain ⟨_, x0, x1, x2, _⟩ := id X1
  go_upto_region 4 with fail
  have hz := U1.size
  go_region_held3 (fun W => W.cell? ⟨w.heap.size + 1, 0, none⟩ = some (.int .i64 u) ∧ W.cell? ⟨w.heap.size + 1, 1, none⟩ = some (.int .i64 v) ∧ W.cell? ⟨w.heap.size + 1, 2, none⟩ = some (.int .i64 x) ∧ W.cell? ⟨w.heap.size, 0, none⟩ = some (.int .i64 a) ∧ W.cell? ⟨w.heap.size, 1, none⟩ = some (.int .i64 b) ∧ W.cell? ⟨w.heap.size, 2, none⟩ = some (.int .i64 c) ∧ W.cell? ⟨w.heap.size, 3, none⟩ = some (.int .i64 d)) (refine cells43 ?_ ?_ <;> (repeat (first | with_reducible assumption | with_reducible exact Arr.box (by assumption) | with_reducible exact Box.new _ _ _ _ _ _ | with_reducible exact Arr.new _ _ _ _ _ _ | with_reducible refine Arr.drew ?_ | with_reducible refine Arr.drewN ?_ _ | with_reducible refine Arr.store4 ?_ | with_reducible refine Arr.alloc ?_ _ | with_reducible refine Box.drew ?_ | with_reducible refine Box.drewN ?_ _ | with_reducible refine Box.alloc ?_ _ | with_reducible refine Arr.next ?_ (by assumption) | with_reducible refine Box.next ?_ (by assumption) | refine Arr.oth ?_ (by first | (simp; done) | omega | (simp; omega)) _ | refine Box.oth ?_ (by first | (simp; done) | omega | (simp; omega)) _ | with_reducible exact Arr3.box (by assumption) | with_reducible exact Box3.new _ _ _ _ _ | with_reducible exact Arr3.new _ _ _ _ _ | with_reducible refine Arr3.drew ?_ | with_reducible refine Arr3.drewN ?_ _ | with_reducible refine Arr3.store3 ?_ | with_reducible refine Arr3.alloc ?_ _ | with_reducible refine Box3.drew ?_ | with_reducible refine Box3.drewN ?_ _ | with_reducible refine Box3.alloc ?_ _ | with_reducible refine Arr3.next ?_ (by assumption) | with_reducible refine Box3.next ?_ (by assumption) | refine Arr3.oth ?_ (by first | (simp; done) | omega | (simp; omega)) _ | refine Box3.oth ?_ (by first | (simp; done) | omega | (simp; omega)) _))) (first | (go_at_call 52; refine (HP.out _).mono ?_; rintro e w3 ⟨rfl, hbw3⟩; have hzw3 := hbw3.size; (try simp at hzw3)) | (go_at_call 61; refine (HM.out (by first | rfl | trivial) _).mono ?_; rintro e w4 ⟨rfl, hbw4⟩; have hzw4 := hbw4.size; (try simp at hzw4)) | (go_at_call 60; refine (HD.out _).mono ?_; rintro e w5 ⟨rfl, hbw5⟩; have hzw5 := hbw5.size; (try simp at hzw5)))
  all_goals (go_wp2_with fail; go_ret2; exact ⟨ret_tup2 (by rw [← HV.out (by first | rfl | trivial)]; simp [if0]) rfl, by (repeat' (first | with_reducible exact Below.refl _ _ | with_reducible assumption | with_reducible refine gr_alloc ?_ _ | with_reducible refine gr_drew ?_ | with_reducible refine gr_drewN ?_ _ | with_reducible refine gr_trans ?_ (by assumption) | with_reducible refine gr_set ?_ ?_ _ | (simp; done) | omega | (simp; omega)))⟩)

set_option maxRecDepth 100000 in
set_option maxHeartbeats 2000000 in
theorem sDiscE_any (a b c d u v x : Int) (w : World) :
    Calls Tryd.prog 14 #[.agg #[.int .i64 a, .int .i64 b, .int .i64 c, .int .i64 d], .agg #[.int .i64 u, .int .i64 v, .int .i64 x]] w fun e w' => e = .returned (.tuple #[.int .i64 (if0 (few 10 a b c d u v x) (dve a b c d v x)), .int .i64 (few 10 a b c d u v x)]) ∧ Below w.heap.size w w' := by
  have hf := fun W => sValue_any a b c d v x W
  have hd := fun W => sDisc0_any a b c d W
  have hc := fun W => sWithin_any 10 a b c d u v x W (by omega) (by omega)
  have hv : few 10 a b c d u v x = 0 → wrap64 (wrap64 (dsc a b c d * vl a b c d v x) * vl a b c d v x) = dve a b c d v x ∧ rng (-1000000000000000) 1000000000000000 (dve a b c d v x) = true := fun h => by
    obtain ⟨h1, h2, h4, h3⟩ := few_t h
    obtain ⟨ha, hb, hc, hd⟩ := is4_t h4
    obtain ⟨_, hv, hx⟩ := is3_t h3
    have hb' := dve_bd h4 h3
    refine ⟨?_, rng_mk hb'.1 hb'.2⟩
    rw [vl_eq (by omega) (by omega) (by omega) (by omega) (by omega) (by omega), dsc_wr, wr_ml]
    have e : wrap64 (dx a b c d) * vx a b c d v x * vx a b c d v x = wrap64 (dx a b c d) * (vx a b c d v x * vx a b c d v x) := Int.mul_assoc _ _ _
    rw [e, wr_ml, ← Int.mul_assoc]
    exact wr_in (by unfold dve at hb'; omega)
  generalize vl a b c d v x = y at hf hv
  generalize dsc a b c d = z at hd hv
  generalize dve a b c d v x = DV at hv ⊢
  generalize few 10 a b c d u v x = k at hc hv ⊢
  have HFV := hid hf; have HC := hid hc; have HV := hid hv; have HD := hid hd
  clear hf hc hv hd
  have F0 := (Arr.new w a b c d 25).alloc (.cells #[.int .i64 u, .int .i64 v, .int .i64 x] 27)
  have X0 := Arr3.new (w.alloc (.cells #[.int .i64 a, .int .i64 b, .int .i64 c, .int .i64 d] 25)) u v x 27
  have U0 := gr_alloc (gr_alloc (Below.refl w.heap.size w) (.cells #[.int .i64 a, .int .i64 b, .int .i64 c, .int .i64 d] 25)) (.cells #[.int .i64 u, .int .i64 v, .int .i64 x] 27)
  simp only [World.size_alloc] at X0
  go_enter Tryd.func14, Tryd.ntmps14
  go_wp2_with fail
  refine (HC.out _).mono ?_
  rintro e w1 ⟨rfl, hb1⟩
  have F1 := F0.next hb1
  have X1 := X0.next hb1
  have U1 := gr_trans U0 hb1
  clear F0 X0 U0
  by_cases hk : ¬ k = 0
  · have hk' : (k == 0) = false := by simpa using hk
    have HK := hid hk
    clear hk
    go_wp2_with fail
    go_ret2
    exact ⟨ret_tup2 (by simp [if0, HK.out]) rfl, by (repeat' (first | with_reducible exact Below.refl _ _ | with_reducible assumption | with_reducible refine gr_alloc ?_ _ | with_reducible refine gr_drew ?_ | with_reducible refine gr_drewN ?_ _ | with_reducible refine gr_trans ?_ (by assumption) | with_reducible refine gr_set ?_ ?_ _ | (simp; done) | omega | (simp; omega)))⟩
  have hk0 : k = 0 := by omega
  subst hk0
  clear hk
  obtain ⟨_, a0, a1, a2, a3, _⟩ := id F1
  obtain ⟨_, x0, x1, x2, _⟩ := id X1
  obtain ⟨hDV, hrg⟩ := HV.out (by first | rfl | trivial)
  have HDV := hid hDV
  clear hDV
  go_wp2_with fail
  refine (HFV.out _).mono ?_
  rintro e w2 ⟨rfl, hb2⟩
  have F2 := F1.next hb2
  clear a0 a1 a2 a3
  obtain ⟨_, a0, a1, a2, a3, _⟩ := id F2
  go_wp2_with fail
  refine (HD.out _).mono ?_
  rintro e w3 ⟨rfl, hb3⟩
  go_wp2_with fail
  rw [HDV.out]
  refine (l01In_any _ _ _ _).mono ?_
  rintro e w4 ⟨rfl, rfl⟩
  go_wp2_with fail
  go_ret2
  exact ⟨ret_tup2 (by simp [if0]) rfl, by (repeat' (first | with_reducible exact Below.refl _ _ | with_reducible assumption | with_reducible refine gr_alloc ?_ _ | with_reducible refine gr_drew ?_ | with_reducible refine gr_drewN ?_ _ | with_reducible refine gr_trans ?_ (by assumption) | with_reducible refine gr_set ?_ ?_ _ | (simp; done) | omega | (simp; omega)))⟩

end Go.Proofs.YtdogkkmdccieiaaDoor
