/- Several texts in one: XDraw6, XDraw7, XC1n. -/
import Derived.Test.YtikmjefbjejbkaaWa1
import Derived.StillTailTactics
import Derived.Test.YtikmjefbjejbkaaBbZ8

/- Draws: matrices. -/
namespace Go.Proofs.Ytikmjefbjejbkaa
open Go.ChangeShapes Go.WideShapes Go.ChangeAt Go.RowKit

set_option maxRecDepth 100000 in
set_option maxHeartbeats 4000000 in
theorem unit_any (k : Nat) (a : Option Addr) (len cap : Nat) (zs : List Int) (w : World) (hS : Src w k a len cap zs) :
    Calls Try.prog 111 #[.pointer (some ⟨k, 0, none⟩)] w (FrmPost k a len cap zs w) := by
  have hl := hS.lt
  have R0 := (Arr.new w 0 0 0 0 44).alloc (.cells #[.int .i64 1, .int .i64 1, .int .i64 (-1)] 2)
  have S0 := hid ((hS.alloc (.cells #[.int .i64 0, .int .i64 0, .int .i64 0, .int .i64 0] 44)).alloc (.cells #[.int .i64 1, .int .i64 1, .int .i64 (-1)] 2))
  have H0 := ((Gk.refl k w).alloc (.cells #[.int .i64 0, .int .i64 0, .int .i64 0, .int .i64 0] 44)).alloc (.cells #[.int .i64 1, .int .i64 1, .int .i64 (-1)] 2)
  have hL := lit_cells (w.alloc (.cells #[.int .i64 0, .int .i64 0, .int .i64 0, .int .i64 0] 44)) 2 [1, 1, -1]
  simp only [World.size_alloc] at hL
  have HL := hid hL
  clear hS hL
  go_enter Try.func111, Try.ntmps111
  go_wp2_with fail
  refine (pick_any k a len cap zs _ 3 _ S0.out (by omega) (by omega) (by simp) (by omega) HL.out).mono ?_
  rintro e w1 ⟨x1, rfl, S1', G1⟩
  have S1 := hid S1'
  have R1 := R0.gk G1 (by omega)
  have H1 := H0.trans G1
  clear S1' G1 R0 H0 S0
  clear HL
  have X2 := Arr.new w1 1 0 0 x1 44
  have hw1 := R1.lt
  obtain ⟨jx, hjx⟩ : ∃ j, j = w1.heap.size := ⟨_, rfl⟩
  have hjr : w.heap.size < jx := by omega
  have hjk : k < jx := by have := S1.out.lt; omega
  rw [← hjx] at X2
  have S2 := hid (S1.out.alloc (.cells #[.int .i64 1, .int .i64 0, .int .i64 0, .int .i64 x1] 44))
  have R2 := R1.alloc (.cells #[.int .i64 1, .int .i64 0, .int .i64 0, .int .i64 x1] 44)
  have H2 := H1.alloc (.cells #[.int .i64 1, .int .i64 0, .int .i64 0, .int .i64 x1] 44)
  clear S1 R1 H1
  have HJ := hid hjx
  clear hjx hw1
  go_wp2_with fail
  rw [← HJ.out]
  refine (next_any k a len cap zs _ _ S2.out).mono ?_
  rintro e w3 ⟨x3, rfl, hx3, hy3, S3', G3⟩
  have S3 := hid S3'
  have X3 := X2.gk G3 (by omega)
  have R3 := R2.gk G3 (by omega)
  have H3 := H2.trans G3
  clear S3' G3 X2 R2 H2 S2
  go_wp2_with fail
  have hb3 : x3 ≤ 100 := by omega
  clear hy3
  go_loopw [4] (fun s4 wr => ∃ (j : Int) (p q r s : Int), s4 = .int .i64 j ∧ 0 ≤ j ∧ j ≤ 100 ∧ Arr wr jx p q r s ∧ Arr wr w.heap.size 0 0 0 0 ∧ Src wr k a len cap zs ∧ Gk k w wr) (fun s4 _ => (intOf s4).toNat)
  case atStart => exact ⟨x3, 1, 0, 0, x1, rfl, by omega, by omega, X3, R3, S3.out, H3⟩
  case round =>
    obtain ⟨j, p, q, r, s, rfl, hj0, hj1, X4, R4, S4', H4⟩ := hrel
    have S4 := hid S4'
    clear S4' X3 R3 S3 H3
    by_cases hj : 0 < j
    · go_wp2_with fail
      refine (part_any k a len cap zs _ _ S4.out).mono ?_
      rintro e w5 ⟨x5, rfl, S5', G5⟩
      have S5 := hid S5'
      have X5 := X4.gk G5 (by omega)
      have R5 := R4.gk G5 (by omega)
      have H5 := H4.trans G5
      clear S5' G5 X4 R4 H4 S4
      go_wp2_with fail
      refine (next_any k a len cap zs _ _ S5.out).mono ?_
      rintro e w6 ⟨x6, rfl, hx6, hy6, S6', G6⟩
      have S6 := hid S6'
      have X6 := X5.gk G6 (by omega)
      have R6 := R5.gk G6 (by omega)
      have H6 := H5.trans G6
      clear S6' G6 X5 R5 H5 S5
      clear hx6 hy6
      obtain ⟨_, y0, y1, y2, y3, g0, g1, g2, g3⟩ := id X6
      by_cases hc : x6 = 0
      · subst hc
        go_wp2_with fail
        refine (sMp_any p q r s 1 x5 0 1 _).mono ?_
        rintro e w7 ⟨rfl, hb7⟩
        have S7 := hid (S6.out.below hb7)
        have X7 := X6.next hb7
        have R7 := R6.next hb7
        have H7 := H6.below hb7
        clear hb7 X6 R6 H6 S6 y0 y1 y2 y3 g0 g1 g2 g3
        obtain ⟨_, y0, y1, y2, y3, g0, g1, g2, g3⟩ := id X7
        go_wp2_with fail
        go_roundw
        case rel => exact ⟨j - 1, _, _, _, _, rfl, by omega, by omega, by (repeat (first | with_reducible assumption | with_reducible exact Arr.box (by assumption) | with_reducible apply Arr.drew | with_reducible apply Arr.drewN | with_reducible refine Arr.store4 ?_ | with_reducible apply Arr.alloc | with_reducible refine Box.drew ?_ | with_reducible refine Box.drewN ?_ _ | with_reducible refine Box.alloc ?_ _ | refine Arr.oth ?_ (by first | (simp; done) | omega | (simp; omega)) _ | refine Box.oth ?_ (by first | (simp; done) | omega | (simp; omega)) _)), by (repeat (first | with_reducible assumption | with_reducible exact Arr.box (by assumption) | with_reducible apply Arr.drew | with_reducible apply Arr.drewN | with_reducible refine Arr.store4 ?_ | with_reducible apply Arr.alloc | with_reducible refine Box.drew ?_ | with_reducible refine Box.drewN ?_ _ | with_reducible refine Box.alloc ?_ _ | refine Arr.oth ?_ (by first | (simp; done) | omega | (simp; omega)) _ | refine Box.oth ?_ (by first | (simp; done) | omega | (simp; omega)) _)), S7.out.up4 (by omega) _ _ _ _, H7.up4 (by omega) _ _ _ _⟩
        case measure => simp [intOf]; omega
      · have hc' : (x6 == 0) = false := by simpa using hc
        clear hc
        go_wp2_with fail
        refine (sMp_any p q r s 1 0 x5 1 _).mono ?_
        rintro e w7 ⟨rfl, hb7⟩
        have S7 := hid (S6.out.below hb7)
        have X7 := X6.next hb7
        have R7 := R6.next hb7
        have H7 := H6.below hb7
        clear hb7 X6 R6 H6 S6 y0 y1 y2 y3 g0 g1 g2 g3
        obtain ⟨_, y0, y1, y2, y3, g0, g1, g2, g3⟩ := id X7
        go_wp2_with fail
        go_roundw
        case rel => exact ⟨j - 1, _, _, _, _, rfl, by omega, by omega, by (repeat (first | with_reducible assumption | with_reducible exact Arr.box (by assumption) | with_reducible apply Arr.drew | with_reducible apply Arr.drewN | with_reducible refine Arr.store4 ?_ | with_reducible apply Arr.alloc | with_reducible refine Box.drew ?_ | with_reducible refine Box.drewN ?_ _ | with_reducible refine Box.alloc ?_ _ | refine Arr.oth ?_ (by first | (simp; done) | omega | (simp; omega)) _ | refine Box.oth ?_ (by first | (simp; done) | omega | (simp; omega)) _)), by (repeat (first | with_reducible assumption | with_reducible exact Arr.box (by assumption) | with_reducible apply Arr.drew | with_reducible apply Arr.drewN | with_reducible refine Arr.store4 ?_ | with_reducible apply Arr.alloc | with_reducible refine Box.drew ?_ | with_reducible refine Box.drewN ?_ _ | with_reducible refine Box.alloc ?_ _ | refine Arr.oth ?_ (by first | (simp; done) | omega | (simp; omega)) _ | refine Box.oth ?_ (by first | (simp; done) | omega | (simp; omega)) _)), S7.out.up4 (by omega) _ _ _ _, H7.up4 (by omega) _ _ _ _⟩
        case measure => simp [intOf]; omega
    · have hj' : j = 0 := by omega
      subst hj'
      clear hj
      go_wp2_with fail
      refine (next_any k a len cap zs _ _ S4.out).mono ?_
      rintro e w5 ⟨x5, rfl, hx5, hy5, S5', G5⟩
      have S5 := hid S5'
      have X5 := X4.gk G5 (by omega)
      have R5 := R4.gk G5 (by omega)
      have H5 := H4.trans G5
      clear S5' G5 X4 R4 H4 S4
      clear hx5 hy5
      obtain ⟨_, y0, y1, y2, y3, g0, g1, g2, g3⟩ := id X5
      by_cases hc : x5 = 0
      · subst hc
        go_wp2_with fail
        refine (sMp_any p q r s 0 1 (-1) 0 _).mono ?_
        rintro e w6 ⟨rfl, hb6⟩
        have S6 := hid (S5.out.below hb6)
        have X6 := X5.next hb6
        have R6 := R5.next hb6
        have H6 := H5.below hb6
        clear hb6 X5 R5 H5 S5 y0 y1 y2 y3 g0 g1 g2 g3
        obtain ⟨_, y0, y1, y2, y3, g0, g1, g2, g3⟩ := id X6
        obtain ⟨_, r0, r1, r2, r3, f0, f1, f2, f3⟩ := id R6
        go_wp2_with fail
        refine bodyPost_ret (res_A1 (e := 2) rfl Try.underlying44 (by kernel_rfl) rfl (by (repeat (first | with_reducible assumption | with_reducible exact Arr.box (by assumption) | with_reducible apply Arr.drew | with_reducible apply Arr.drewN | with_reducible refine Arr.store4 ?_ | with_reducible apply Arr.alloc | with_reducible refine Box.drew ?_ | with_reducible refine Box.drewN ?_ _ | with_reducible refine Box.alloc ?_ _ | refine Arr.oth ?_ (by first | (simp; done) | omega | (simp; omega)) _ | refine Box.oth ?_ (by first | (simp; done) | omega | (simp; omega)) _)))) rfl ?_
        exact ⟨_, _, _, _, rfl, (S6.out.up4 (by omega) _ _ _ _).up4 (by omega) _ _ _ _, (H6.up4 (by omega) _ _ _ _).up4 (by omega) _ _ _ _⟩
      · have hc' : (x5 == 0) = false := by simpa using hc
        clear hc
        obtain ⟨_, r0, r1, r2, r3, f0, f1, f2, f3⟩ := id R5
        go_wp2_with fail
        refine bodyPost_ret (res_A1 (e := 2) rfl Try.underlying44 (by kernel_rfl) rfl (by (repeat (first | with_reducible assumption | with_reducible exact Arr.box (by assumption) | with_reducible apply Arr.drew | with_reducible apply Arr.drewN | with_reducible refine Arr.store4 ?_ | with_reducible apply Arr.alloc | with_reducible refine Box.drew ?_ | with_reducible refine Box.drewN ?_ _ | with_reducible refine Box.alloc ?_ _ | refine Arr.oth ?_ (by first | (simp; done) | omega | (simp; omega)) _ | refine Box.oth ?_ (by first | (simp; done) | omega | (simp; omega)) _)))) rfl ?_
        exact ⟨_, _, _, _, rfl, S5.out.up4 (by omega) _ _ _ _, H5.up4 (by omega) _ _ _ _⟩




end Go.Proofs.Ytikmjefbjejbkaa

/- Draws: a source out of bytes; the draws of chapter 1. -/
namespace Go.Proofs.Ytikmjefbjejbkaa
open Go.ChangeShapes Go.WideShapes Go.ChangeAt Go.RowKit

theorem Src.new {w : World} {k : Nat} {a : Option Addr} {len cap : Nat} {zs : List Int} {h : Int} (hr : IsRow .u8 w a len cap zs) (hk : k = w.heap.size) :
    Src (w.alloc (.cells #[.slice a len cap, .int .i64 0, .int .u64 h] 116)) k a len cap zs := by
  subst hk
  have hb := (Below.refl w.heap.size w).alloc (Nat.le_refl _) (.cells #[.slice a len cap, .int .i64 0, .int .u64 h] 116)
  refine ⟨?_, fun x hx hz => ?_, by simp, by simp [go_sem], ⟨0, by omega, by omega, by simp [go_sem]⟩, ⟨h, by simp [go_sem]⟩, by simp [go_sem], by simp [go_sem], by simp [go_sem]⟩
  · rcases hr with h | ⟨x, h1, h2, h3, h4, h5, h6⟩
    · exact .inl h
    · exact .inr ⟨x, h1, h2, h3, h4, fun i hi => (hb.cell (p := x.add i) (World.block_lt_of_cell? w (x.add i) (h5 i hi))).trans (h5 i hi), h6⟩
  · rcases hr with ⟨h, _⟩ | ⟨y, h1, h2, h3, h4, h5, h6⟩
    · rw [h] at hx; cases hx
    · rw [h1] at hx; cases hx
      have hl : 0 < zs.length := List.length_pos_iff.2 hz
      have := World.block_lt_of_cell? w (x.add 0) (h5 0 hl)
      have hb : (x.add 0).block = x.block := by unfold Addr.add; split <;> rfl
      omega

/-- A source that is new. -/
def FromPost (a : Option Addr) (len cap : Nat) (zs : List Int) (w : World) (e : Ending) (w' : World) : Prop :=
  e = .returned (.pointer (some ⟨w.heap.size, 0, none⟩)) ∧ Src w' w.heap.size a len cap zs ∧ Below w.heap.size w w'

set_option maxRecDepth 100000 in
set_option maxHeartbeats 2000000 in
theorem from_any (a : Option Addr) (len cap : Nat) (zs : List Int) (w : World) (hR : IsRow .u8 w a len cap zs) (hlen : len ≤ 9223372036854775807) :
    Calls Try.prog 61 #[.slice a len cap] w (FromPost a len cap zs w) := by
  have HR := hid hR
  clear hR
  go_enter Try.func61, Try.ntmps61
  go_wp2_with fail
  go_loopw [4] (fun s4 wr => ∃ j : Nat, s4 = .int .i64 j ∧ j ≤ 4096 ∧ Src wr w.heap.size a len cap zs ∧ Below w.heap.size w wr) (fun s4 _ => 4096 - (intOf s4).toNat)
  case atStart => exact ⟨0, rfl, by omega, Src.new HR.out rfl, by (repeat' (first | with_reducible exact Below.refl _ _ | with_reducible assumption | with_reducible refine gr_alloc ?_ _ | with_reducible refine gr_drew ?_ | with_reducible refine gr_drewN ?_ _ | with_reducible refine gr_trans ?_ (by assumption) | with_reducible refine gr_set ?_ ?_ _ | (simp; done) | omega | (simp; omega)))⟩
  case round =>
    obtain ⟨j, rfl, hj, S0, B0⟩ := hrel
    have hl := S0.lt
    by_cases h1 : j < len
    · by_cases h2 : j < 4096
      · rcases S0.row with ⟨_, hl0, _⟩ | ⟨x, rfl, hlc, hcm, hz, hcell, hwz⟩
        · omega
        · have hcj := hcell j (by omega)
          have hbz := byte_bd (zs.getD j 0) (getD_wf hwz j (by omega))
          generalize zs.getD j 0 = z at hcj hbz
          obtain ⟨hz0, hz1⟩ := hbz
          obtain ⟨h, hh⟩ := S0.hash
          have f2 := S0.f2
          have HS := hid S0
          clear hcell hwz hz S0
          unfold maxLen at hcm
          go_upto_region 5 with fail
          go_still_tail 15, (by kernel_rfl)
          go_wp2
          go_roundw
          case rel => exact ⟨j + 1, by go_num, by omega, (HS.out.set2 _).below ((Below.refl _ _).drew), by (repeat' (first | with_reducible exact Below.refl _ _ | with_reducible assumption | with_reducible refine gr_alloc ?_ _ | with_reducible refine gr_drew ?_ | with_reducible refine gr_drewN ?_ _ | with_reducible refine gr_trans ?_ (by assumption) | with_reducible refine gr_set ?_ ?_ _ | (simp; done) | omega | (simp; omega)))⟩
          case measure => simp [intOf]; omega
      · have h2' : decide ((j : Int) < 4096) = false := decide_eq_false (by omega)
        have HS := hid S0
        clear S0
        go_wp2
        go_ret
        exact ⟨rfl, HS.out, B0⟩
    · have HS := hid S0
      clear S0
      go_wp2
      go_ret
      exact ⟨rfl, HS.out, B0⟩

end Go.Proofs.Ytikmjefbjejbkaa

/- Chapter 1: sums of forms, whole. -/
namespace Go.Proofs.Ytikmjefbjejbkaa
open Go.RowKit

/-- The code of a form of the result. -/
def lim (a b c d : Int) : Int := if isF a b c d then 0 else 3
def addc (a b c d p q r s k : Int) : Int := if isF a b c d && isF p q r s then (if rng (-1000) 1000 k then lim (am a k p) (am b k q) (am c k r) (am d k s) else 2) else 1
theorem am_def (x k y : Int) : am x k y = wrap64 (x + wrap64 (k * y)) := rfl

set_option maxHeartbeats 400000 in
theorem iWithin_any (a b c d : Int) (w : World) :
    Calls Try.prog 62 #[.agg #[.int .i64 a, .int .i64 b, .int .i64 c, .int .i64 d]] w fun e w' => e = .returned (.tuple #[.agg #[.int .i64 (if0 (lim a b c d) a), .int .i64 (if0 (lim a b c d) b), .int .i64 (if0 (lim a b c d) c), .int .i64 (if0 (lim a b c d) d)], .int .i64 (lim a b c d)]) ∧ Below w.heap.size w w' := by
  go_enter Try.func62, Try.ntmps62
  go_wp2_with fail
  refine (iIsForm_any a b c d _).mono ?_
  rintro e w1 ⟨rfl, hb1⟩
  obtain ⟨_, c0, c1, c2, c3, _⟩ := ((Arr.new w a b c d 26).alloc (.cells #[.int .i64 0, .int .i64 0, .int .i64 0, .int .i64 0] 26)).next hb1
  have R1 := (Arr.new (w.alloc (.cells #[.int .i64 a, .int .i64 b, .int .i64 c, .int .i64 d] 26)) 0 0 0 0 26).next hb1
  simp only [World.size_alloc] at R1
  obtain ⟨_, r0, r1, r2, r3, f0, f1, f2, f3⟩ := id R1
  go_wp2
  all_goals (refine bodyPost_ret (res_A (e := 2) rfl Try.underlying26 (by kernel_rfl) rfl (by (repeat (first | with_reducible assumption | with_reducible exact Arr.box (by assumption) | with_reducible apply Arr.drew | with_reducible apply Arr.drewN | with_reducible refine Arr.store4 ?_ | with_reducible apply Arr.alloc | with_reducible refine Box.drew ?_ | with_reducible refine Box.drewN ?_ _ | with_reducible refine Box.alloc ?_ _ | refine Arr.oth ?_ (by first | (simp; done) | omega | (simp; omega)) _ | refine Box.oth ?_ (by first | (simp; done) | omega | (simp; omega)) _)))) rfl ?_; exact ⟨ret_form (by go_light; simp_all [if0, lim]) (by go_light; simp_all [if0, lim]) (by go_light; simp_all [if0, lim]) (by go_light; simp_all [if0, lim]) (by go_light; simp_all [lim]), by (repeat' (first | with_reducible exact Below.refl _ _ | with_reducible assumption | with_reducible refine gr_alloc ?_ _ | with_reducible refine gr_drew ?_ | with_reducible refine gr_drewN ?_ _ | with_reducible refine gr_trans ?_ (by assumption) | with_reducible refine gr_set ?_ ?_ _ | (simp; done) | omega | (simp; omega)))⟩)

set_option maxHeartbeats 400000 in
theorem l01Fits_any (a b c d : Int) (w : World) :
    Calls Try.prog 64 #[.agg #[.int .i64 a, .int .i64 b, .int .i64 c, .int .i64 d]] w fun e w' => e = .returned (.bool (isF a b c d)) ∧ Below w.heap.size w w' := by
  go_enter Try.func64, Try.ntmps64
  go_wp2_with fail
  refine (l01Is_any a b c d _).mono ?_
  rintro e w1 ⟨rfl, hb1⟩
  go_wp2
  go_ret
  exact ⟨rfl, by (repeat' (first | with_reducible exact Below.refl _ _ | with_reducible assumption | with_reducible refine gr_alloc ?_ _ | with_reducible refine gr_drew ?_ | with_reducible refine gr_drewN ?_ _ | with_reducible refine gr_trans ?_ (by assumption) | with_reducible refine gr_set ?_ ?_ _ | (simp; done) | omega | (simp; omega)))⟩



end Go.Proofs.Ytikmjefbjejbkaa
