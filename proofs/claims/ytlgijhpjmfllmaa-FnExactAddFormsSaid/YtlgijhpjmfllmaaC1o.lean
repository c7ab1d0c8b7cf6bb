/- Chapter 1: sums of forms of the model. -/
import Derived.Test.YtlgijhpjmfllmaaC1n
namespace Go.Proofs.Ytlgijhpjmfllmaa
open Go.RowKit

set_option maxHeartbeats 1000000 in
theorem sAdd_any (a b c d p q r s k : Int) (w : World) :
    Calls Try.prog 47 #[.agg #[.int .i64 a, .int .i64 b, .int .i64 c, .int .i64 d], .agg #[.int .i64 p, .int .i64 q, .int .i64 r, .int .i64 s], .int .i64 k] w fun e w' => e = .returned (.tuple #[.agg #[.int .i64 (if0 (addc a b c d p q r s k) (am a k p)), .int .i64 (if0 (addc a b c d p q r s k) (am b k q)), .int .i64 (if0 (addc a b c d p q r s k) (am c k r)), .int .i64 (if0 (addc a b c d p q r s k) (am d k s))], .int .i64 (addc a b c d p q r s k)]) ∧ Below w.heap.size w w' := by
  go_enter Try.func47, Try.ntmps47
  go_wp2_with fail
  refine (l01Is_any a b c d _).mono ?_
  rintro e w1 ⟨rfl, hb1⟩
  have A1 := (((Arr.new w a b c d 35).alloc (.cells #[.int .i64 p, .int .i64 q, .int .i64 r, .int .i64 s] 35)).alloc (.cells #[.int .i64 0, .int .i64 0, .int .i64 0, .int .i64 0] 35)).next hb1
  have B1 := ((Arr.new (w.alloc (.cells #[.int .i64 a, .int .i64 b, .int .i64 c, .int .i64 d] 35)) p q r s 35).alloc (.cells #[.int .i64 0, .int .i64 0, .int .i64 0, .int .i64 0] 35)).next hb1
  have R1 := (Arr.new ((w.alloc (.cells #[.int .i64 a, .int .i64 b, .int .i64 c, .int .i64 d] 35)).alloc (.cells #[.int .i64 p, .int .i64 q, .int .i64 r, .int .i64 s] 35)) 0 0 0 0 35).next hb1
  simp only [World.size_alloc] at A1 B1 R1
  by_cases hm : isF a b c d = true
  · obtain ⟨_, b0, b1, b2, b3, _⟩ := id B1
    go_wp2_with fail
    refine (l01Is_any p q r s _).mono ?_
    rintro e w2 ⟨rfl, hb2⟩
    have A2 := A1.next hb2
    have B2 := B1.next hb2
    have R2 := R1.next hb2
    by_cases hn : isF p q r s = true
    · by_cases hk : rng (-1000) 1000 k = true
      · obtain ⟨_, b0, b1, b2, b3, _⟩ := id B2
        obtain ⟨_, a0, a1, a2, a3, _⟩ := id A2
        go_wp2_with fail
        refine (l01In_any _ _ _ _).mono ?_
        rintro e w3 ⟨rfl, rfl⟩
        go_wp2
        have hlt := A2.lt
        have hlb := B2.lt
        have hlr := R2.lt
        have O0 := Arr.new w2 0 0 0 0 35
        have A0x := A2.alloc (.cells #[.int .i64 0, .int .i64 0, .int .i64 0, .int .i64 0] 35)
        have B0x := B2.alloc (.cells #[.int .i64 0, .int .i64 0, .int .i64 0, .int .i64 0] 35)
        have R0x := R2.alloc (.cells #[.int .i64 0, .int .i64 0, .int .i64 0, .int .i64 0] 35)
        have U0 : Below w.heap.size w (w2.alloc (.cells #[.int .i64 0, .int .i64 0, .int .i64 0, .int .i64 0] 35)) := by (repeat' (first | with_reducible exact Below.refl _ _ | with_reducible assumption | with_reducible refine gr_alloc ?_ _ | with_reducible refine gr_drew ?_ | with_reducible refine gr_drewN ?_ _ | with_reducible refine gr_trans ?_ (by assumption) | with_reducible refine gr_set ?_ ?_ _ | (simp; done) | omega | (simp; omega)))
        clear a0 a1 a2 a3 b0 b1 b2 b3
        have hsz : w.heap.size ≤ w2.heap.size := by omega
        generalize w2.alloc (.cells #[.int .i64 0, .int .i64 0, .int .i64 0, .int .i64 0] 35) = W0 at O0 A0x B0x R0x U0 ⊢
        refine wp_loop_rounds 5 ?_
        -- round 0
        obtain ⟨_, x0, x1, x2, x3, f0, f1, f2, f3⟩ := id O0
        obtain ⟨_, b0, b1, b2, b3, _⟩ := id B0x
        obtain ⟨_, a0, a1, a2, a3, _⟩ := id A0x
        rw [rounds_succ]; go_wp2
        go_still_tail 11, (by kernel_rfl)
        go_wp2
        have O1 := (O0.set0 (am a k p)).drew
        have A1x := (A0x.oth (p := ⟨w2.heap.size, 0, none⟩) (by simp; omega) (.int .i64 (am a k p))).drew
        have B1x := (B0x.oth (p := ⟨w2.heap.size, 0, none⟩) (by simp; omega) (.int .i64 (am a k p))).drew
        have R1x := (R0x.oth (p := ⟨w2.heap.size, 0, none⟩) (by simp; omega) (.int .i64 (am a k p))).drew
        have U1 := gr_drew (gr_set U0 (p := ⟨w2.heap.size, 0, none⟩) (by simp; omega) (.int .i64 (am a k p)))
        clear x0 x1 x2 x3 f0 f1 f2 f3 a0 a1 a2 a3 b0 b1 b2 b3
        simp only [am, pl, mu] at O1 A1x B1x R1x U1
        generalize (World.setCell W0 ⟨w2.heap.size, 0, none⟩ (.int .i64 (wrap64 (a + wrap64 (k * p))))).drew = W1 at O1 A1x B1x R1x U1 ⊢
        clear O0 A0x B0x R0x U0
        -- round 1
        obtain ⟨_, x0, x1, x2, x3, f0, f1, f2, f3⟩ := id O1
        obtain ⟨_, b0, b1, b2, b3, _⟩ := id B1x
        obtain ⟨_, a0, a1, a2, a3, _⟩ := id A1x
        rw [rounds_succ]; go_wp2
        go_still_tail 11, (by kernel_rfl)
        go_wp2
        have O2 := (O1.set1 (am b k q)).drew
        have A2x := (A1x.oth (p := ⟨w2.heap.size, 1, none⟩) (by simp; omega) (.int .i64 (am b k q))).drew
        have B2x := (B1x.oth (p := ⟨w2.heap.size, 1, none⟩) (by simp; omega) (.int .i64 (am b k q))).drew
        have R2x := (R1x.oth (p := ⟨w2.heap.size, 1, none⟩) (by simp; omega) (.int .i64 (am b k q))).drew
        have U2 := gr_drew (gr_set U1 (p := ⟨w2.heap.size, 1, none⟩) (by simp; omega) (.int .i64 (am b k q)))
        clear x0 x1 x2 x3 f0 f1 f2 f3 a0 a1 a2 a3 b0 b1 b2 b3
        simp only [am, pl, mu] at O2 A2x B2x R2x U2
        generalize (World.setCell W1 ⟨w2.heap.size, 1, none⟩ (.int .i64 (wrap64 (b + wrap64 (k * q))))).drew = W2 at O2 A2x B2x R2x U2 ⊢
        clear O1 A1x B1x R1x U1
        -- round 2
        obtain ⟨_, x0, x1, x2, x3, f0, f1, f2, f3⟩ := id O2
        obtain ⟨_, b0, b1, b2, b3, _⟩ := id B2x
        obtain ⟨_, a0, a1, a2, a3, _⟩ := id A2x
        rw [rounds_succ]; go_wp2
        go_still_tail 11, (by kernel_rfl)
        go_wp2
        have O3 := (O2.set2 (am c k r)).drew
        have A3x := (A2x.oth (p := ⟨w2.heap.size, 2, none⟩) (by simp; omega) (.int .i64 (am c k r))).drew
        have B3x := (B2x.oth (p := ⟨w2.heap.size, 2, none⟩) (by simp; omega) (.int .i64 (am c k r))).drew
        have R3x := (R2x.oth (p := ⟨w2.heap.size, 2, none⟩) (by simp; omega) (.int .i64 (am c k r))).drew
        have U3 := gr_drew (gr_set U2 (p := ⟨w2.heap.size, 2, none⟩) (by simp; omega) (.int .i64 (am c k r)))
        clear x0 x1 x2 x3 f0 f1 f2 f3 a0 a1 a2 a3 b0 b1 b2 b3
        simp only [am, pl, mu] at O3 A3x B3x R3x U3
        generalize (World.setCell W2 ⟨w2.heap.size, 2, none⟩ (.int .i64 (wrap64 (c + wrap64 (k * r))))).drew = W3 at O3 A3x B3x R3x U3 ⊢
        clear O2 A2x B2x R2x U2
        -- round 3
        obtain ⟨_, x0, x1, x2, x3, f0, f1, f2, f3⟩ := id O3
        obtain ⟨_, b0, b1, b2, b3, _⟩ := id B3x
        obtain ⟨_, a0, a1, a2, a3, _⟩ := id A3x
        rw [rounds_succ]; go_wp2
        go_still_tail 11, (by kernel_rfl)
        go_wp2
        have O4 := (O3.set3 (am d k s)).drew
        have A4x := (A3x.oth (p := ⟨w2.heap.size, 3, none⟩) (by simp; omega) (.int .i64 (am d k s))).drew
        have B4x := (B3x.oth (p := ⟨w2.heap.size, 3, none⟩) (by simp; omega) (.int .i64 (am d k s))).drew
        have R4x := (R3x.oth (p := ⟨w2.heap.size, 3, none⟩) (by simp; omega) (.int .i64 (am d k s))).drew
        have U4 := gr_drew (gr_set U3 (p := ⟨w2.heap.size, 3, none⟩) (by simp; omega) (.int .i64 (am d k s)))
        clear x0 x1 x2 x3 f0 f1 f2 f3 a0 a1 a2 a3 b0 b1 b2 b3
        simp only [am, pl, mu] at O4 A4x B4x R4x U4
        generalize (World.setCell W3 ⟨w2.heap.size, 3, none⟩ (.int .i64 (wrap64 (d + wrap64 (k * s))))).drew = W4 at O4 A4x B4x R4x U4 ⊢
        clear O3 A3x B3x R3x U3
        obtain ⟨_, x0, x1, x2, x3, _⟩ := id O4
        rw [rounds_succ]; go_wp2_with fail
        simp only [← am_def] at O4 ⊢
        refine (l01Fits_any _ _ _ _ _).mono ?_
        rintro e w5 ⟨rfl, hb5⟩
        have O5 := O4.next hb5
        have R5 := R4x.next hb5
        obtain ⟨_, x0, x1, x2, x3, _⟩ := id O5
        obtain ⟨_, r0, r1, r2, r3, f0, f1, f2, f3⟩ := id R5
        by_cases ho : isF (am a k p) (am b k q) (am c k r) (am d k s) = true
        · go_wp2
          refine bodyPost_ret (res_A (e := 2) rfl Try.underlying35 (by kernel_rfl) rfl (by (repeat (first | with_reducible assumption | with_reducible exact Arr.box (by assumption) | with_reducible apply Arr.drew | with_reducible apply Arr.drewN | with_reducible refine Arr.store4 ?_ | with_reducible apply Arr.alloc | with_reducible refine Box.drew ?_ | with_reducible refine Box.drewN ?_ _ | with_reducible refine Box.alloc ?_ _ | refine Arr.oth ?_ (by first | (simp; done) | omega | (simp; omega)) _ | refine Box.oth ?_ (by first | (simp; done) | omega | (simp; omega)) _)))) rfl ?_
          have k0 : addc a b c d p q r s k = 0 := by simp [addc, hm, hn, hk, lim, ho]
          exact ⟨ret_form (by simp [if0, k0]) (by simp [if0, k0]) (by simp [if0, k0]) (by simp [if0, k0]) (by simp [k0]), by (repeat' (first | with_reducible exact Below.refl _ _ | with_reducible assumption | with_reducible refine gr_alloc ?_ _ | with_reducible refine gr_drew ?_ | with_reducible refine gr_drewN ?_ _ | with_reducible refine gr_trans ?_ (by assumption) | with_reducible refine gr_set ?_ ?_ _ | (simp; done) | omega | (simp; omega)))⟩
        · have ho' : isF (am a k p) (am b k q) (am c k r) (am d k s) = false := by simpa using ho
          clear ho
          go_wp2
          refine bodyPost_ret (res_A (e := 2) rfl Try.underlying35 (by kernel_rfl) rfl (by (repeat (first | with_reducible assumption | with_reducible exact Arr.box (by assumption) | with_reducible apply Arr.drew | with_reducible apply Arr.drewN | with_reducible refine Arr.store4 ?_ | with_reducible apply Arr.alloc | with_reducible refine Box.drew ?_ | with_reducible refine Box.drewN ?_ _ | with_reducible refine Box.alloc ?_ _ | refine Arr.oth ?_ (by first | (simp; done) | omega | (simp; omega)) _ | refine Box.oth ?_ (by first | (simp; done) | omega | (simp; omega)) _)))) rfl ?_
          have k0 : addc a b c d p q r s k = 3 := by simp [addc, hm, hn, hk, lim, ho']
          exact ⟨ret_form (by simp [if0, k0]) (by simp [if0, k0]) (by simp [if0, k0]) (by simp [if0, k0]) (by simp [k0]), by (repeat' (first | with_reducible exact Below.refl _ _ | with_reducible assumption | with_reducible refine gr_alloc ?_ _ | with_reducible refine gr_drew ?_ | with_reducible refine gr_drewN ?_ _ | with_reducible refine gr_trans ?_ (by assumption) | with_reducible refine gr_set ?_ ?_ _ | (simp; done) | omega | (simp; omega)))⟩
      · have hk' : rng (-1000) 1000 k = false := by simpa using hk
        clear hk
        obtain ⟨_, r0, r1, r2, r3, f0, f1, f2, f3⟩ := id R2
        go_wp2_with fail
        refine (l01In_any _ _ _ _).mono ?_
        rintro e w3 ⟨rfl, rfl⟩
        go_wp2
        refine bodyPost_ret (res_A (e := 2) rfl Try.underlying35 (by kernel_rfl) rfl (by (repeat (first | with_reducible assumption | with_reducible exact Arr.box (by assumption) | with_reducible apply Arr.drew | with_reducible apply Arr.drewN | with_reducible refine Arr.store4 ?_ | with_reducible apply Arr.alloc | with_reducible refine Box.drew ?_ | with_reducible refine Box.drewN ?_ _ | with_reducible refine Box.alloc ?_ _ | refine Arr.oth ?_ (by first | (simp; done) | omega | (simp; omega)) _ | refine Box.oth ?_ (by first | (simp; done) | omega | (simp; omega)) _)))) rfl ?_
        have k0 : addc a b c d p q r s k = 2 := by simp [addc, hm, hn, hk']
        exact ⟨ret_form (by simp [if0, k0]) (by simp [if0, k0]) (by simp [if0, k0]) (by simp [if0, k0]) (by simp [k0]), by (repeat' (first | with_reducible exact Below.refl _ _ | with_reducible assumption | with_reducible refine gr_alloc ?_ _ | with_reducible refine gr_drew ?_ | with_reducible refine gr_drewN ?_ _ | with_reducible refine gr_trans ?_ (by assumption) | with_reducible refine gr_set ?_ ?_ _ | (simp; done) | omega | (simp; omega)))⟩
    · have hn' : isF p q r s = false := by simpa using hn
      clear hn
      obtain ⟨_, r0, r1, r2, r3, f0, f1, f2, f3⟩ := id R2
      go_wp2
      refine bodyPost_ret (res_A (e := 2) rfl Try.underlying35 (by kernel_rfl) rfl (by (repeat (first | with_reducible assumption | with_reducible exact Arr.box (by assumption) | with_reducible apply Arr.drew | with_reducible apply Arr.drewN | with_reducible refine Arr.store4 ?_ | with_reducible apply Arr.alloc | with_reducible refine Box.drew ?_ | with_reducible refine Box.drewN ?_ _ | with_reducible refine Box.alloc ?_ _ | refine Arr.oth ?_ (by first | (simp; done) | omega | (simp; omega)) _ | refine Box.oth ?_ (by first | (simp; done) | omega | (simp; omega)) _)))) rfl ?_
      have k0 : addc a b c d p q r s k = 1 := by simp [addc, hn']
      exact ⟨ret_form (by simp [if0, k0]) (by simp [if0, k0]) (by simp [if0, k0]) (by simp [if0, k0]) (by simp [k0]), by (repeat' (first | with_reducible exact Below.refl _ _ | with_reducible assumption | with_reducible refine gr_alloc ?_ _ | with_reducible refine gr_drew ?_ | with_reducible refine gr_drewN ?_ _ | with_reducible refine gr_trans ?_ (by assumption) | with_reducible refine gr_set ?_ ?_ _ | (simp; done) | omega | (simp; omega)))⟩
  · have hm' : isF a b c d = false := by simpa using hm
    clear hm
    obtain ⟨_, r0, r1, r2, r3, f0, f1, f2, f3⟩ := id R1
    go_wp2
    refine bodyPost_ret (res_A (e := 2) rfl Try.underlying35 (by kernel_rfl) rfl (by (repeat (first | with_reducible assumption | with_reducible exact Arr.box (by assumption) | with_reducible apply Arr.drew | with_reducible apply Arr.drewN | with_reducible refine Arr.store4 ?_ | with_reducible apply Arr.alloc | with_reducible refine Box.drew ?_ | with_reducible refine Box.drewN ?_ _ | with_reducible refine Box.alloc ?_ _ | refine Arr.oth ?_ (by first | (simp; done) | omega | (simp; omega)) _ | refine Box.oth ?_ (by first | (simp; done) | omega | (simp; omega)) _)))) rfl ?_
    have k0 : addc a b c d p q r s k = 1 := by simp [addc, hm']
    exact ⟨ret_form (by simp [if0, k0]) (by simp [if0, k0]) (by simp [if0, k0]) (by simp [if0, k0]) (by simp [k0]), by (repeat' (first | with_reducible exact Below.refl _ _ | with_reducible assumption | with_reducible refine gr_alloc ?_ _ | with_reducible refine gr_drew ?_ | with_reducible refine gr_drewN ?_ _ | with_reducible refine gr_trans ?_ (by assumption) | with_reducible refine gr_set ?_ ?_ _ | (simp; done) | omega | (simp; omega)))⟩
end Go.Proofs.Ytlgijhpjmfllmaa
