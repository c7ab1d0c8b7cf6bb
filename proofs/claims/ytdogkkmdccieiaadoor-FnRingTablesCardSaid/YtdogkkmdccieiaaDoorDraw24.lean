/- Draws of chapter 4 for FnRingTables: an element that may be a unit. -/
import Derived.Test.YtdogkkmdccieiaaDoorDraw22
namespace Go.Proofs.YtdogkkmdccieiaaDoor
open Go.ChangeShapes Go.WideShapes Go.ChangeAt Go.RowKit

/-- What stands in the loop of a unit. -/
structure IvS (jf jx j2 j3 : Nat) (w wr : World) : Prop where
  F : ∃ p q r s, Arr wr jf p q r s
  X : ∃ u v t, Arr3 wr jx u v t
  R : Arr wr j2 0 0 0 0
  T : Arr3 wr j3 0 0 0
  U : Below w.heap.size w wr
theorem IvS.next {jf jx j2 j3 : Nat} {w wr wr' : World} (h : IvS jf jx j2 j3 w wr) (hb : Below wr.heap.size wr wr') : IvS jf jx j2 j3 w wr' := by
  obtain ⟨⟨p, q, r, s, F⟩, ⟨u, v, t, X⟩, R, T, U⟩ := h
  exact ⟨⟨p, q, r, s, F.next hb⟩, ⟨u, v, t, X.next hb⟩, R.next hb, T.next hb, gr_trans U hb⟩

set_option maxRecDepth 100000 in
set_option maxHeartbeats 1000000 in
theorem drawIv_any (a : Option Addr) (len cap : Nat) (zs : List Int) (w : World) (hR : IsRow .u8 w a len cap zs) (hlen : len ≤ 9223372036854775807) :
    Calls Tryd.prog 9 #[.slice a len cap] w (FEOut w) := by
  have R0 := (Arr.new w 0 0 0 0 25).alloc (.cells #[.int .i64 0, .int .i64 0, .int .i64 0] 27)
  have X0 := Arr3.new (w.alloc (.cells #[.int .i64 0, .int .i64 0, .int .i64 0, .int .i64 0] 25)) 0 0 0 27
  have U0 := gr_alloc (gr_alloc (Below.refl w.heap.size w) (.cells #[.int .i64 0, .int .i64 0, .int .i64 0, .int .i64 0] 25)) (.cells #[.int .i64 0, .int .i64 0, .int .i64 0] 27)
  have hR0 := row8_next hR U0
  simp only [World.size_alloc] at X0
  go_enter Tryd.func9, Tryd.ntmps9
  go_wp2_with fail
  refine (from_any a len cap zs _ hR0 hlen).mono ?_
  rintro e w1 ⟨rfl, S1', hb1⟩
  have S1 := hid S1'
  have R1 := R0.next hb1
  have X1 := X0.next hb1
  have U1 := gr_trans U0 hb1
  clear S1' hR0 R0 X0 U0 hb1
  simp only [World.size_alloc] at S1 ⊢
  go_wp2_with fail
  refine (next_any _ a len cap zs _ _ S1.out).mono ?_
  rintro e w2 ⟨x, rfl, hx1, hy1, S2', G2⟩
  have S2 := hid S2'
  have R2 := R1.gk G2 (by omega)
  have X2 := X1.gk G2 (by omega)
  have U2 := Gk.out U1 G2 (by omega)
  clear S2' G2 R1 X1 U1 S1 hx1 hy1
  by_cases hx : x = 0
  · subst hx
    clear hR
    go_wp2_with fail
    refine (small_any _ a len cap zs _ S2.out).mono ?_
    rintro e w3 ⟨p, q, r, s, rfl, S3', G3⟩
    have S3 := hid S3'
    have R3 := R2.gk G3 (by omega)
    have X3 := X2.gk G3 (by omega)
    have U3 := Gk.out U2 G3 (by omega)
    clear S3' G3 R2 X2 U2 S2
    have F4 := (Arr.new w3 p q r s 25).alloc (.cells #[.int .i64 1, .int .i64 (-1)] 2)
    obtain ⟨jf, hjf⟩ : ∃ j, j = w3.heap.size := ⟨_, rfl⟩
    have hX3 := X3.lt
    have hS3 := S3.out.lt
    have hL0 := lit_ex (w3.alloc (.cells #[.int .i64 p, .int .i64 q, .int .i64 r, .int .i64 s] 25)) 2 [1, -1] #[.int .i64 1, .int .i64 (-1)] 2 rfl rfl
    simp only [World.size_alloc, ← hjf] at hL0
    have HL := hid hL0
    clear hL0
    have S4 := hid ((S3.out.alloc (.cells #[.int .i64 p, .int .i64 q, .int .i64 r, .int .i64 s] 25)).alloc (.cells #[.int .i64 1, .int .i64 (-1)] 2))
    have R4 := (R3.alloc (.cells #[.int .i64 p, .int .i64 q, .int .i64 r, .int .i64 s] 25)).alloc (.cells #[.int .i64 1, .int .i64 (-1)] 2)
    have X4 := (X3.alloc (.cells #[.int .i64 p, .int .i64 q, .int .i64 r, .int .i64 s] 25)).alloc (.cells #[.int .i64 1, .int .i64 (-1)] 2)
    have U4 := gr_alloc (gr_alloc U3 (.cells #[.int .i64 p, .int .i64 q, .int .i64 r, .int .i64 s] 25)) (.cells #[.int .i64 1, .int .i64 (-1)] 2)
    rw [← hjf] at F4
    have HJ := hid hjf
    have HX := hid hX3
    have HK := hid hS3
    clear S3 R3 X3 U3 hjf
    go_wp2_with fail
    rw [← HJ.out]
    refine (pick_any _ a len cap zs _ 2 _ S4.out (by omega) (by omega) (by have := HJ.out; simp; omega) (by have := HJ.out; omega) HL.out).mono ?_
    rintro e w5 ⟨x5, rfl, S5', G5⟩
    have S5 := hid S5'
    have R5 := R4.gk G5 (by omega)
    have X5 := X4.gk G5 (by omega)
    have F5 := F4.gk G5 (by have := HJ.out; omega)
    have U5 := Gk.out U4 G5 (by omega)
    clear S5' G5 R4 X4 F4 U4 S4 HL
    have hz5 := X5.lt
    obtain ⟨_, y0, y1, y2, y3, g0, g1, g2, g3⟩ := id F5
    have F6 := F5.set0 x5
    have S6 := hid (S5.out.up (p := ⟨jf, 0, none⟩) (by have := HJ.out; have := HK.out; simp; omega) (.int .i64 x5))
    have R6 := R5.oth (p := ⟨jf, 0, none⟩) (by have := HJ.out; have := HX.out; simp; omega) (.int .i64 x5)
    have X6 := X5.oth (p := ⟨jf, 0, none⟩) (by have := HJ.out; have := HX.out; simp; omega) (.int .i64 x5)
    have U6 := gr_set U5 (p := ⟨jf, 0, none⟩) (by have := HJ.out; have := HX.out; simp; omega) (.int .i64 x5)
    clear F5 S5 R5 X5 U5
    go_upto_region 5 with fail
    clear y0 y1 y2 y3 g0 g1 g2 g3
    generalize w5.setCell ⟨jf, 0, none⟩ (.int .i64 x5) = W6 at F6 S6 R6 X6 U6 ⊢
    have HL := hid (lit_ex W6 2 [1, -1] #[.int .i64 1, .int .i64 (-1)] 2 rfl rfl)
    have hF6 := F6.lt
    have hS6 := S6.out.lt
    have S7 := hid (S6.out.alloc (.cells #[.int .i64 1, .int .i64 (-1)] 2))
    have R7 := R6.alloc (.cells #[.int .i64 1, .int .i64 (-1)] 2)
    have X7 := X6.alloc (.cells #[.int .i64 1, .int .i64 (-1)] 2)
    have F7 := F6.alloc (.cells #[.int .i64 1, .int .i64 (-1)] 2)
    have U7 := gr_alloc U6 (.cells #[.int .i64 1, .int .i64 (-1)] 2)
    clear F6 S6 R6 X6 U6
    go_wp2_with fail
    refine (pick_any _ a len cap zs _ 2 _ S7.out (by omega) (by omega) (by simp) (by omega) HL.out).mono ?_
    rintro e w8 ⟨x8, rfl, S8', G8⟩
    have S8 := hid S8'
    have R8 := R7.gk G8 (by omega)
    have X8 := X7.gk G8 (by omega)
    have F8 := F7.gk G8 (by have := HJ.out; omega)
    have U8 := Gk.out U7 G8 (by omega)
    clear S8' G8 R7 X7 F7 U7 S7 HL hF6 hS6
    obtain ⟨_, y0, y1, y2, y3, g0, g1, g2, g3⟩ := id F8
    have F9 := F8.set3 x8
    have S9 := hid (S8.out.up (p := ⟨jf, 3, none⟩) (by have := HJ.out; have := HK.out; simp; omega) (.int .i64 x8))
    have R9 := R8.oth (p := ⟨jf, 3, none⟩) (by have := HJ.out; have := HX.out; simp; omega) (.int .i64 x8)
    have X9 := X8.oth (p := ⟨jf, 3, none⟩) (by have := HJ.out; have := HX.out; simp; omega) (.int .i64 x8)
    have U9 := gr_set U8 (p := ⟨jf, 3, none⟩) (by have := HJ.out; have := HX.out; simp; omega) (.int .i64 x8)
    clear F8 S8 R8 X8 U8
    go_upto_region 6 with fail
    clear y0 y1 y2 y3 g0 g1 g2 g3
    generalize w8.setCell ⟨jf, 3, none⟩ (.int .i64 x8) = W9 at F9 S9 R9 X9 U9 ⊢
    have N10 := Arr3.new W9 0 0 1 27
    have hF9 := F9.lt
    have hS9 := S9.out.lt
    obtain ⟨jx, hjx⟩ : ∃ j, j = W9.heap.size := ⟨_, rfl⟩
    rw [← hjx] at N10
    have S10 := hid (S9.out.alloc (.cells #[.int .i64 0, .int .i64 0, .int .i64 1] 27))
    have R10 := R9.alloc (.cells #[.int .i64 0, .int .i64 0, .int .i64 1] 27)
    have X10 := X9.alloc (.cells #[.int .i64 0, .int .i64 0, .int .i64 1] 27)
    have F10 := F9.alloc (.cells #[.int .i64 0, .int .i64 0, .int .i64 1] 27)
    have U10 := gr_alloc U9 (.cells #[.int .i64 0, .int .i64 0, .int .i64 1] 27)
    have HJX := hid hjx
    have hfx : jf < jx := by omega
    clear hjx
    clear F9 S9 R9 X9 U9
    go_wp2_with fail
    refine (next_any _ a len cap zs _ _ S10.out).mono ?_
    rintro e w11 ⟨x11, rfl, hx11, hy11, S11', G11⟩
    have F11 := F10.gk G11 (by have := HJ.out; omega)
    have N11 := N10.gk G11 (by have := HJ.out; have := HK.out; omega)
    have R11 := R10.gk G11 (by omega)
    have X11 := X10.gk G11 (by omega)
    have U11 := Gk.out U10 G11 (by omega)
    clear S11' G11 F10 N10 R10 X10 U10 S10 hF9 hS9
    have hfw : w.heap.size + 1 < jf := by have := HJ.out; have := HX.out; omega
    have I11 : IvS jf jx w.heap.size (w.heap.size + 1) w w11 := ⟨⟨_, _, _, _, F11⟩, ⟨_, _, _, N11⟩, R11, X11, U11⟩
    clear F11 N11 R11 X11 U11
    rw [← HJX.out]
    have hb : x11 ≤ 3 := by omega
    clear hy11 hX3 hS3
    go_wp2_with fail
    go_loopw [7] (fun s7 wr => ∃ j : Int, s7 = .int .i64 j ∧ 0 ≤ j ∧ j ≤ 3 ∧ IvS jf jx w.heap.size (w.heap.size + 1) w wr) (fun s7 _ => (intOf s7).toNat)
    case atStart => exact ⟨x11, rfl, by omega, by omega, I11⟩
    case round =>
      clear I11
      obtain ⟨j, rfl, hj0, hj1, I⟩ := hrel
      by_cases hj : 0 < j
      · obtain ⟨p', q', r', s', F⟩ := I.F
        obtain ⟨u, v, t, X⟩ := I.X
        obtain ⟨_, y0, y1, y2, y3, _⟩ := id F
        obtain ⟨_, z0, z1, z2, _⟩ := id X
        have hm := fun W => sMulE_any p' q' r' s' u v t 0 0 1 W
        generalize mec (isF p' q' r' s' && isE u v t && isE 0 0 1) (m0 (np p' r') (np p' s') (np q' s') u v t 0 0 1) (m1 q' 0 s' u v t 0 0 1) (m2 (ng p') 0 (ng r') u v t 0 0 1) = K at hm
        generalize if0 K (m0 (np p' r') (np p' s') (np q' s') u v t 0 0 1) = k0 at hm
        generalize if0 K (m1 q' 0 s' u v t 0 0 1) = k1 at hm
        generalize if0 K (m2 (ng p') 0 (ng r') u v t 0 0 1) = k2 at hm
        have HM := hid hm
        clear hm
        go_wp2_with fail
        refine (HM.out _).mono ?_
        rintro e w13 ⟨rfl, hb13⟩
        have ha := gr_alloc (Below.refl w13.heap.size w13) (.cells #[.int .i64 k0, .int .i64 k1, .int .i64 k2] 27)
        have F14 := (F.next hb13).next ha
        have X14 := (X.next hb13).next ha
        have I14 := (I.next hb13).next ha
        have P14 := Arr3.new w13 k0 k1 k2 27
        have hz13 := (X.next hb13).lt
        clear I F X hb13 ha y0 y1 y2 y3 z0 z1 z2
        go_upto_region 11 with fail
        obtain ⟨jp, hjp⟩ : ∃ j, j = w13.heap.size := ⟨_, rfl⟩
        rw [← hjp] at P14
        rw [← hjp]
        generalize w13.alloc (.cells #[.int .i64 k0, .int .i64 k1, .int .i64 k2] 27) = W14 at F14 X14 I14 P14 ⊢
        clear hjp hz13
        by_cases hK : K = 0
        · have hk : (K == 0) = true := by simpa using hK
          subst hK
          obtain ⟨_, z0, z1, z2, g0, g1, g2⟩ := id X14
          obtain ⟨_, v0, v1, v2, _⟩ := id P14
          go_wp2_with fail
          go_roundw
          case rel =>
            obtain ⟨_, _, R, T, U⟩ := I14
            have := U.size
            exact ⟨j - 1, rfl, by omega, by omega, ⟨_, _, _, _, F14.oth3 (by omega)⟩, ⟨_, _, _, Arr3.store3 X14.box⟩, R.oth3 (by omega), (T.oth (p := ⟨jx, 0, none⟩) (by simp; omega) _).oth (p := ⟨jx, 1, none⟩) (by simp; omega) _ |>.oth (p := ⟨jx, 2, none⟩) (by simp; omega) _, by (repeat' (first | with_reducible exact Below.refl _ _ | with_reducible assumption | with_reducible refine gr_alloc ?_ _ | with_reducible refine gr_drew ?_ | with_reducible refine gr_drewN ?_ _ | with_reducible refine gr_trans ?_ (by assumption) | with_reducible refine gr_set ?_ ?_ _ | (simp; done) | omega | (simp; omega)))⟩
          case measure => simp [intOf]; omega
        · have hk : (K == 0) = false := by simpa using hK
          clear hK
          go_wp2_with fail
          go_roundw
          case rel => exact ⟨j - 1, rfl, by omega, by omega, I14⟩
          case measure => simp [intOf]; omega
      · have hj' : j = 0 := by omega
        subst hj'
        clear hj
        obtain ⟨⟨p', q', r', s', F⟩, ⟨u, v, t, X⟩, R, T, U⟩ := I
        obtain ⟨_, y0, y1, y2, y3, _⟩ := id F
        obtain ⟨_, z0, z1, z2, _⟩ := id X
        obtain ⟨_, r0, r1, r2, r3, f0, f1, f2, f3⟩ := id R
        obtain ⟨_, t0, t1, t2, g0, g1, g2⟩ := id T
        go_wp2_with fail
        go_region
        all_goals (go_wp2_with fail; refine bodyPost_ret (res_FE (e := 2) (e' := 2) rfl Tryd.underlying25 (by kernel_rfl) Tryd.underlying27 (by kernel_rfl) rfl rfl
          (by first | exact ((Arr.store4 R.box).oth3 (by omega)).drew | exact (Arr.store4 (R.oth3 (by omega)).box).drew | exact (Arr.store4 R.drew.box).oth3 (by omega) | exact Arr.store4 (R.drew.oth3 (by omega)).box) (by first | exact (Arr3.store3 (T.oth4 (by omega)).box).drew | exact ((Arr3.store3 T.box).oth4 (by omega)).drew | exact Arr3.store3 (T.drew.oth4 (by omega)).box | exact (Arr3.store3 T.drew.box).oth4 (by omega))) rfl ?_; exact ⟨_, _, _, _, _, _, _, rfl, by (repeat' (first | with_reducible exact Below.refl _ _ | with_reducible assumption | with_reducible refine gr_alloc ?_ _ | with_reducible refine gr_drew ?_ | with_reducible refine gr_drewN ?_ _ | with_reducible refine gr_trans ?_ (by assumption) | with_reducible refine gr_set ?_ ?_ _ | (simp; done) | omega | (simp; omega)))⟩)
  · have hx' : (x == 0) = false := by simpa using hx
    have hR2 := row8_next hR U2
    clear hx hR S2
    go_wp2_with fail
    refine (low_any a len cap zs _ hR2 hlen).mono ?_
    rintro e w3 ⟨p, q, r, s, u, v, t, rfl, hb3⟩
    have R3 := R2.next hb3
    have X3 := X2.next hb3
    have U3 := gr_trans U2 hb3
    clear R2 X2 U2 hb3 hR2
    have hX := X3.lt
    obtain ⟨_, r0, r1, r2, r3, f0, f1, f2, f3⟩ := id R3
    obtain ⟨_, t0, t1, t2, g0, g1, g2⟩ := id X3
    go_wp2_with fail
    refine bodyPost_ret (res_FE (e := 2) (e' := 2) rfl Tryd.underlying25 (by kernel_rfl) Tryd.underlying27 (by kernel_rfl) rfl rfl
      (by first | exact (Arr.store4 R3.box).oth3 (by omega) | exact Arr.store4 (R3.oth3 (by omega)).box) (by first | exact Arr3.store3 (X3.oth4 (by omega)).box | exact (Arr3.store3 X3.box).oth4 (by omega))) rfl ?_
    exact ⟨_, _, _, _, _, _, _, rfl, by (repeat' (first | with_reducible exact Below.refl _ _ | with_reducible assumption | with_reducible refine gr_alloc ?_ _ | with_reducible refine gr_drew ?_ | with_reducible refine gr_drewN ?_ _ | with_reducible refine gr_trans ?_ (by assumption) | with_reducible refine gr_set ?_ ?_ _ | (simp; done) | omega | (simp; omega)))⟩

end Go.Proofs.YtdogkkmdccieiaaDoor
