/- Chapter 3: ChangeQuadratic. -/
import Derived.Test.YtdogkkmdccieiaaDoorQ2
namespace Go.Proofs.YtdogkkmdccieiaaDoor
open Go.RowKit

set_option maxHeartbeats 2000000 in
theorem iChQ_any (a b c p q r s : Int) (w : World) :
    Calls Tryd.prog 32 #[.agg #[.int .i64 a, .int .i64 b, .int .i64 c], .agg #[.int .i64 p, .int .i64 q, .int .i64 r, .int .i64 s]] w fun e w' => e = .returned (.tuple #[.agg #[.int .i64 (if0 (cqc a b c p q r s) (qv a b c p r)), .int .i64 (if0 (cqc a b c p q r s) (qm a b c p q r s)), .int .i64 (if0 (cqc a b c p q r s) (qv a b c q s))], .int .i64 (cqc a b c p q r s)]) ∧ Below w.heap.size w w' := by
  have hc := fun W => iChQ0_any a b c p q r s W
  have hk1 : isQ a b c = true → isF p q r s = true → isQ (qv a b c p r) (qm a b c p q r s) (qv a b c q s) = true → cqc a b c p q r s = 0 := fun h1 h2 h3 => by simp [cqc, h1, h2, h3]
  have hk2 : isQ a b c = true → isF p q r s = true → isQ (qv a b c p r) (qm a b c p q r s) (qv a b c q s) = false → cqc a b c p q r s = 3 := fun h1 h2 h3 => by simp [cqc, h1, h2, h3]
  have hk3 : isQ a b c = true → isF p q r s = false → cqc a b c p q r s = 1 := fun h1 h2 => by simp [cqc, h2]
  have hk4 : isQ a b c = false → cqc a b c p q r s = 1 := fun h1 => by simp [cqc, h1]
  generalize qv a b c p r = x at hc hk1 hk2 ⊢
  generalize qm a b c p q r s = y at hc hk1 hk2 ⊢
  generalize qv a b c q s = z at hc hk1 hk2 ⊢
  generalize cqc a b c p q r s = k at hk1 hk2 hk3 hk4 ⊢
  have HC := hid hc
  have K1 := hid hk1; have K2 := hid hk2; have K3 := hid hk3; have K4 := hid hk4
  clear hc hk1 hk2 hk3 hk4
  go_enter Tryd.func32, Tryd.ntmps32
  go_wp2_with fail
  refine (iIsQ_any a b c _).mono ?_
  rintro e w1 ⟨rfl, hb1⟩
  have A1 := (((Arr3.new w a b c 52).alloc (.cells #[.int .i64 p, .int .i64 q, .int .i64 r, .int .i64 s] 50)).alloc (.cells #[.int .i64 0, .int .i64 0, .int .i64 0] 52)).next hb1
  have B1 := ((Arr.new (w.alloc (.cells #[.int .i64 a, .int .i64 b, .int .i64 c] 52)) p q r s 50).alloc (.cells #[.int .i64 0, .int .i64 0, .int .i64 0] 52)).next hb1
  have R1 := (Arr3.new ((w.alloc (.cells #[.int .i64 a, .int .i64 b, .int .i64 c] 52)).alloc (.cells #[.int .i64 p, .int .i64 q, .int .i64 r, .int .i64 s] 50)) 0 0 0 52).next hb1
  simp only [World.size_alloc] at A1 B1 R1
  by_cases hm : isQ a b c = true
  · obtain ⟨_, b0, b1, b2, b3, _⟩ := id B1
    go_wp2_with fail
    refine (iIsMatrix_any p q r s _).mono ?_
    rintro e w2 ⟨rfl, hb2⟩
    have A2 := A1.next hb2
    have B2 := B1.next hb2
    have R2 := R1.next hb2
    clear b0 b1 b2 b3
    by_cases hn : isF p q r s = true
    · obtain ⟨_, b0, b1, b2, b3, _⟩ := id B2
      obtain ⟨_, a0, a1, a2, _⟩ := id A2
      go_wp2_with fail
      refine (HC.out _).mono ?_
      rintro e w3 ⟨rfl, hb3⟩
      have R3 := R2.next hb3
      go_wp2_with fail
      refine (iIsQ_any _ _ _ _).mono ?_
      rintro e w4 ⟨rfl, hb4⟩
      have R4 := (R3.alloc (.cells #[.int .i64 x, .int .i64 y, .int .i64 z] 52)).next hb4
      have P4 := (Arr3.new w3 x y z 52).next hb4
      obtain ⟨_, r0, r1, r2, f0, f1, f2⟩ := id R4
      by_cases ho : isQ x y z = true
      · obtain ⟨_, p0, p1, p2, _⟩ := id P4
        go_wp2
        refine bodyPost_ret (res_A3 (e := 2) rfl Tryd.underlying52 (by kernel_rfl) rfl (by (repeat (first | with_reducible assumption | with_reducible exact Arr3.box (by assumption) | with_reducible exact Arr3.new _ _ _ _ _ | with_reducible refine Arr3.drew ?_ | with_reducible refine Arr3.drewN ?_ _ | with_reducible refine Arr3.store3 ?_ | with_reducible refine Arr3.alloc ?_ _ | with_reducible refine Arr3.next ?_ (by assumption) | refine Arr3.oth ?_ (by first | (simp; done) | omega | (simp; omega)) _ )))) rfl ?_
        have k0 := K1.out hm hn ho
        exact ⟨ret_q3 (by simp [if0, k0]) (by simp [if0, k0]) (by simp [if0, k0]) (by simp [k0]), by (repeat' (first | with_reducible exact Below.refl _ _ | with_reducible assumption | with_reducible refine gr_alloc ?_ _ | with_reducible refine gr_drew ?_ | with_reducible refine gr_drewN ?_ _ | with_reducible refine gr_trans ?_ (by assumption) | with_reducible refine gr_set ?_ ?_ _ | (simp; done) | omega | (simp; omega)))⟩
      · have ho' : isQ x y z = false := by simpa using ho
        clear ho
        go_wp2
        refine bodyPost_ret (res_A3 (e := 2) rfl Tryd.underlying52 (by kernel_rfl) rfl (by (repeat (first | with_reducible assumption | with_reducible exact Arr3.box (by assumption) | with_reducible exact Arr3.new _ _ _ _ _ | with_reducible refine Arr3.drew ?_ | with_reducible refine Arr3.drewN ?_ _ | with_reducible refine Arr3.store3 ?_ | with_reducible refine Arr3.alloc ?_ _ | with_reducible refine Arr3.next ?_ (by assumption) | refine Arr3.oth ?_ (by first | (simp; done) | omega | (simp; omega)) _ )))) rfl ?_
        have k0 := K2.out hm hn ho'
        exact ⟨ret_q3 (by simp [if0, k0]) (by simp [if0, k0]) (by simp [if0, k0]) (by simp [k0]), by (repeat' (first | with_reducible exact Below.refl _ _ | with_reducible assumption | with_reducible refine gr_alloc ?_ _ | with_reducible refine gr_drew ?_ | with_reducible refine gr_drewN ?_ _ | with_reducible refine gr_trans ?_ (by assumption) | with_reducible refine gr_set ?_ ?_ _ | (simp; done) | omega | (simp; omega)))⟩
    · have hn' : isF p q r s = false := by simpa using hn
      clear hn
      obtain ⟨_, r0, r1, r2, f0, f1, f2⟩ := id R2
      go_wp2
      refine bodyPost_ret (res_A3 (e := 2) rfl Tryd.underlying52 (by kernel_rfl) rfl (by (repeat (first | with_reducible assumption | with_reducible exact Arr3.box (by assumption) | with_reducible exact Arr3.new _ _ _ _ _ | with_reducible refine Arr3.drew ?_ | with_reducible refine Arr3.drewN ?_ _ | with_reducible refine Arr3.store3 ?_ | with_reducible refine Arr3.alloc ?_ _ | with_reducible refine Arr3.next ?_ (by assumption) | refine Arr3.oth ?_ (by first | (simp; done) | omega | (simp; omega)) _ )))) rfl ?_
      have k0 := K3.out hm hn'
      exact ⟨ret_q3 (by simp [if0, k0]) (by simp [if0, k0]) (by simp [if0, k0]) (by simp [k0]), by (repeat' (first | with_reducible exact Below.refl _ _ | with_reducible assumption | with_reducible refine gr_alloc ?_ _ | with_reducible refine gr_drew ?_ | with_reducible refine gr_drewN ?_ _ | with_reducible refine gr_trans ?_ (by assumption) | with_reducible refine gr_set ?_ ?_ _ | (simp; done) | omega | (simp; omega)))⟩
  · have hm' : isQ a b c = false := by simpa using hm
    clear hm
    obtain ⟨_, r0, r1, r2, f0, f1, f2⟩ := id R1
    go_wp2
    refine bodyPost_ret (res_A3 (e := 2) rfl Tryd.underlying52 (by kernel_rfl) rfl (by (repeat (first | with_reducible assumption | with_reducible exact Arr3.box (by assumption) | with_reducible exact Arr3.new _ _ _ _ _ | with_reducible refine Arr3.drew ?_ | with_reducible refine Arr3.drewN ?_ _ | with_reducible refine Arr3.store3 ?_ | with_reducible refine Arr3.alloc ?_ _ | with_reducible refine Arr3.next ?_ (by assumption) | refine Arr3.oth ?_ (by first | (simp; done) | omega | (simp; omega)) _ )))) rfl ?_
    have k0 := K4.out hm'
    exact ⟨ret_q3 (by simp [if0, k0]) (by simp [if0, k0]) (by simp [if0, k0]) (by simp [k0]), by (repeat' (first | with_reducible exact Below.refl _ _ | with_reducible assumption | with_reducible refine gr_alloc ?_ _ | with_reducible refine gr_drew ?_ | with_reducible refine gr_drewN ?_ _ | with_reducible refine gr_trans ?_ (by assumption) | with_reducible refine gr_set ?_ ?_ _ | (simp; done) | omega | (simp; omega)))⟩



end Go.Proofs.YtdogkkmdccieiaaDoor
