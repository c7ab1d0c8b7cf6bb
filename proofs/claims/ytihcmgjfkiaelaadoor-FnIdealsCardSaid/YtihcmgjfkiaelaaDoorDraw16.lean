/- Draws: forms of chapter 9, that mostly are irreducible. -/
import Derived.Test.YtihcmgjfkiaelaaDoorZ15
import Derived.Deep.DeepCutAuto
namespace Go.Proofs.YtihcmgjfkiaelaaDoor
open Go.ChangeShapes Go.WideShapes Go.ChangeAt Go.RowKit

theorem fb_isF {p q r s : Int} (h : FB 5 p q r s) : isF p q r s = true := by
  unfold FB at h
  simp only [isF, Bool.and_eq_true]
  exact ⟨⟨⟨rng_mk (by omega) (by omega), rng_mk (by omega) (by omega)⟩, rng_mk (by omega) (by omega)⟩, rng_mk (by omega) (by omega)⟩

set_option maxRecDepth 100000 in
set_option maxHeartbeats 4000000 in
theorem l09Draw_any (k : Nat) (a : Option Addr) (len cap : Nat) (zs : List Int) (w : World) (hS : Src w k a len cap zs) :
    Calls Tryd.prog 41 #[.pointer (some ⟨k, 0, none⟩)] w (FrmPost k a len cap zs w) := by
  have hl := hS.lt
  have R0 := Arr.new w 0 0 0 0 25
  have S0 := hid (hS.alloc (.cells #[.int .i64 0, .int .i64 0, .int .i64 0, .int .i64 0] 25))
  have H0 := (Gk.refl k w).alloc (.cells #[.int .i64 0, .int .i64 0, .int .i64 0, .int .i64 0] 25)
  clear hS
  go_enter Tryd.func41, Tryd.ntmps41
  go_wp2_with fail
  refine (smallB k a len cap zs _ S0.out).mono ?_
  rintro e w1 ⟨p1, q1, r1, s1, rfl, hb1, S1', G1⟩
  have HB1 := hid hb1
  have R1 := R0.gk G1 (by omega)
  have H1 := H0.trans G1
  have hS1 := S1'.lt
  have hR1 := R1.lt
  have X2 := Arr.new w1 p1 q1 r1 s1 25
  have S2 := hid (S1'.alloc (.cells #[.int .i64 p1, .int .i64 q1, .int .i64 r1, .int .i64 s1] 25))
  have R2 := R1.alloc (.cells #[.int .i64 p1, .int .i64 q1, .int .i64 r1, .int .i64 s1] 25)
  have H2 := H1.alloc (.cells #[.int .i64 p1, .int .i64 q1, .int .i64 r1, .int .i64 s1] 25)
  clear S1' G1 R0 H0 S0 hb1 R1 H1
  obtain ⟨j, hj⟩ : ∃ j, j = w1.heap.size := ⟨_, rfl⟩
  rw [← hj] at X2 hS1 hR1
  go_upto_block 0 with fail
  rw [← hj]
  generalize w1.alloc (.cells #[.int .i64 p1, .int .i64 q1, .int .i64 r1, .int .i64 s1] 25) = W2 at X2 S2 R2 H2 ⊢
  clear hj
  go_cut [] (fun wx => ∃ p q r s : Int, Arr wx j p q r s ∧ Arr wx w.heap.size 0 0 0 0 ∧ Src wx k a len cap zs ∧ Gk k w wx)
  case first =>
    go_wp2_with fail
    go_loopw [4] (fun s4 wr => ∃ (i : Nat) (p q r s : Int), s4 = .int .i64 ((i : Int)) ∧ i ≤ 8 ∧ Hid (FB 5 p q r s) ∧ Arr wr j p q r s ∧ Arr wr w.heap.size 0 0 0 0 ∧ Hid (Src wr k a len cap zs) ∧ Gk k w wr) (fun s4 _ => 8 - (intOf s4).toNat)
    case atStart => exact ⟨0, p1, q1, r1, s1, rfl, by omega, HB1, X2, R2, S2, H2⟩
    case round =>
      obtain ⟨i, p, q, r, s, rfl, hi, HB, X3, R3, S3, H3⟩ := hrel
      clear X2 R2 S2 H2
      by_cases h8 : i < 8
      · have hlt : decide ((i : Int) < 8) = true := by simp; omega
        have HI := hid (fun W => l05Irreducible_any p q r s W (fb_isF HB.out))
        generalize irb p q r s = ib at HI
        obtain ⟨_, x0, x1, x2, x3, _⟩ := id X3
        go_wp2_with fail
        refine (HI.out _).mono ?_
        rintro e w4 ⟨rfl, hb4⟩
        have X4 := X3.next hb4
        have R4 := R3.next hb4
        have S4 := hid (S3.out.below hb4)
        have H4 := H3.below hb4
        clear X3 R3 S3 H3 hb4 HI x0 x1 x2 x3
        cases ib with
        | true =>
          go_wp2_with fail
          go_meet
          exact ⟨_, _, _, _, X4, R4, S4.out, H4⟩
        | false =>
          go_wp2_with fail
          refine (smallB k a len cap zs _ S4.out).mono ?_
          rintro e w5 ⟨p', q', r', s', rfl, hb5, S5', G5⟩
          have X5 := X4.gk G5 (by omega)
          have R5 := R4.gk G5 (by omega)
          have H5 := H4.trans G5
          have S5 := hid S5'
          have HB5 := hid hb5
          clear X4 R4 S4 H4 G5 S5' hb5
          obtain ⟨_, x0, x1, x2, x3, f0, f1, f2, f3⟩ := id X5
          go_wp2_with fail
          go_roundw
          case rel => exact ⟨i + 1, p', q', r', s', by go_num, by omega, HB5, Arr.store4 X5.box, R5.oth4 (i := j) (by omega), hid (S5.out.up4 hS1 _ _ _ _), H5.up4 (by omega) _ _ _ _⟩
          case measure => simp [intOf]; omega
      · have hlt : decide ((i : Int) < 8) = false := by simp; omega
        go_wp2_with fail
        go_meet
        exact ⟨_, _, _, _, X3, R3, S3.out, H3⟩
  case rest =>
    obtain ⟨p, q, r, s, X3, R3, S3', H3⟩ := hcut
    have S3 := hid S3'
    have hX3 := X3.lt
    clear S3' X2 R2 S2 H2 HB1
    go_wp2_with fail
    refine (next_any k a len cap zs _ _ S3.out).mono ?_
    rintro e w4 ⟨x, rfl, _, _, S4', G4⟩
    have S4 := hid S4'
    have X4 := X3.gk G4 (by omega)
    have R4 := R3.gk G4 (by omega)
    have H4 := H3.trans G4
    have hR4 := R4.lt
    have hS4 := S4'.lt
    clear S4' G4 X3 R3 H3 S3 hX3
    by_cases h0 : x = 0
    · subst h0
      go_wp2_with fail
      refine (spoil_any k a len cap zs _ S4.out).mono ?_
      rintro e w5 ⟨p', q', r', s', rfl, S5', G5⟩
      have S5 := hid S5'
      have R5 := R4.gk G5 (by omega)
      have H5 := H4.trans G5
      clear S5' G5 X4 R4 H4 S4
      obtain ⟨_, r0, r1, r2, r3, f0, f1, f2, f3⟩ := id R5
      go_wp2_with fail
      refine bodyPost_ret (res_A1 (e := 2) rfl Tryd.underlying25 (by kernel_rfl) rfl (by (repeat (first | with_reducible assumption | with_reducible exact Arr.box (by assumption) | with_reducible apply Arr.drew | with_reducible apply Arr.drewN | with_reducible refine Arr.store4 ?_ | with_reducible apply Arr.alloc | with_reducible refine Box.drew ?_ | with_reducible refine Box.drewN ?_ _ | with_reducible refine Box.alloc ?_ _ | refine Arr.oth ?_ (by first | (simp; done) | omega | (simp; omega)) _ | refine Box.oth ?_ (by first | (simp; done) | omega | (simp; omega)) _)))) rfl ?_
      exact ⟨_, _, _, _, rfl, S5.out.up4 hl _ _ _ _, H5.up4 (Nat.le_refl _) _ _ _ _⟩
    have e0 : (x == 0) = false := by simpa using h0
    by_cases h1 : x = 1
    · subst h1
      have HL := hid (lit_cells w4 2 [2, 3, 5, 6, 7, 10, 12])
      have S5 := hid (S4.out.alloc (.cells #[.int .i64 2, .int .i64 3, .int .i64 5, .int .i64 6, .int .i64 7, .int .i64 10, .int .i64 12] 2))
      have R5 := R4.alloc (.cells #[.int .i64 2, .int .i64 3, .int .i64 5, .int .i64 6, .int .i64 7, .int .i64 10, .int .i64 12] 2)
      have H5 := H4.alloc (.cells #[.int .i64 2, .int .i64 3, .int .i64 5, .int .i64 6, .int .i64 7, .int .i64 10, .int .i64 12] 2)
      clear e0 h0 X4 R4 H4 S4
      go_wp2_with fail
      refine (pick_any k a len cap zs _ 7 _ S5.out (by omega) (by omega) (by simp) (by omega) HL.out).mono ?_
      rintro e w6 ⟨y, rfl, S6', G6⟩
      have S6 := hid S6'
      have R6 := R5.gk G6 (by omega)
      have H6 := H5.trans G6
      clear S6' G6 R5 H5 S5 HL
      obtain ⟨_, r0, r1, r2, r3, f0, f1, f2, f3⟩ := id R6
      go_wp2_with fail
      refine bodyPost_ret (res_A1 (e := 2) rfl Tryd.underlying25 (by kernel_rfl) rfl (by (repeat (first | with_reducible assumption | with_reducible exact Arr.box (by assumption) | with_reducible apply Arr.drew | with_reducible apply Arr.drewN | with_reducible refine Arr.store4 ?_ | with_reducible apply Arr.alloc | with_reducible refine Box.drew ?_ | with_reducible refine Box.drewN ?_ _ | with_reducible refine Box.alloc ?_ _ | refine Arr.oth ?_ (by first | (simp; done) | omega | (simp; omega)) _ | refine Box.oth ?_ (by first | (simp; done) | omega | (simp; omega)) _)))) rfl ?_
      exact ⟨_, _, _, _, rfl, S6.out.up4 hl _ _ _ _, H6.up4 (Nat.le_refl _) _ _ _ _⟩
    have e1 : (x == 1) = false := by simpa using h1
    by_cases h2 : x = 2
    · subst h2
      clear e0 h0 e1 h1
      go_wp2_with fail
      refine (part_any k a len cap zs _ _ S4.out).mono ?_
      rintro e w6 ⟨y, rfl, S6', G6⟩
      have S6 := hid S6'
      have R6 := R4.gk G6 (by omega)
      have H6 := H4.trans G6
      clear S6' G6 X4 R4 H4 S4
      obtain ⟨_, r0, r1, r2, r3, f0, f1, f2, f3⟩ := id R6
      go_wp2_with fail
      refine bodyPost_ret (res_A1 (e := 2) rfl Tryd.underlying25 (by kernel_rfl) rfl (by (repeat (first | with_reducible assumption | with_reducible exact Arr.box (by assumption) | with_reducible apply Arr.drew | with_reducible apply Arr.drewN | with_reducible refine Arr.store4 ?_ | with_reducible apply Arr.alloc | with_reducible refine Box.drew ?_ | with_reducible refine Box.drewN ?_ _ | with_reducible refine Box.alloc ?_ _ | refine Arr.oth ?_ (by first | (simp; done) | omega | (simp; omega)) _ | refine Box.oth ?_ (by first | (simp; done) | omega | (simp; omega)) _)))) rfl ?_
      exact ⟨_, _, _, _, rfl, S6.out.up4 hl _ _ _ _, H6.up4 (Nat.le_refl _) _ _ _ _⟩
    have e2 : (x == 2) = false := by simpa using h2
    clear h0 h1 h2
    obtain ⟨_, x0, x1, x2, x3, _⟩ := id X4
    go_wp2_with fail
    refine (bad_any k a len cap zs _ _ _ _ _ S4.out).mono ?_
    rintro e w6 ⟨p', q', r', s', rfl, S6', G6⟩
    have S6 := hid S6'
    have R6 := R4.gk G6 (by omega)
    have H6 := H4.trans G6
    clear S6' G6 X4 R4 H4 S4 x0 x1 x2 x3
    obtain ⟨_, r0, r1, r2, r3, f0, f1, f2, f3⟩ := id R6
    go_wp2_with fail
    refine bodyPost_ret (res_A1 (e := 2) rfl Tryd.underlying25 (by kernel_rfl) rfl (by (repeat (first | with_reducible assumption | with_reducible exact Arr.box (by assumption) | with_reducible apply Arr.drew | with_reducible apply Arr.drewN | with_reducible refine Arr.store4 ?_ | with_reducible apply Arr.alloc | with_reducible refine Box.drew ?_ | with_reducible refine Box.drewN ?_ _ | with_reducible refine Box.alloc ?_ _ | refine Arr.oth ?_ (by first | (simp; done) | omega | (simp; omega)) _ | refine Box.oth ?_ (by first | (simp; done) | omega | (simp; omega)) _)))) rfl ?_
    exact ⟨_, _, _, _, rfl, S6.out.up4 hl _ _ _ _, H6.up4 (Nat.le_refl _) _ _ _ _⟩

set_option maxRecDepth 100000 in
set_option maxHeartbeats 4000000 in
theorem drawCo_any (a : Option Addr) (len cap : Nat) (zs : List Int) (w : World) (hR : IsRow .u8 w a len cap zs) (hlen : len ≤ 9223372036854775807) :
    Calls Tryd.prog 36 #[.slice a len cap] w (WithOut w) := by
  have R0 := Arr.new w 0 0 0 0 25
  have U0 := gr_alloc (Below.refl w.heap.size w) (.cells #[.int .i64 0, .int .i64 0, .int .i64 0, .int .i64 0] 25)
  have hR0 := row8_next hR U0
  clear hR
  go_enter Tryd.func36, Tryd.ntmps36
  go_wp2_with fail
  refine (from_any a len cap zs _ hR0 hlen).mono ?_
  rintro e w1 ⟨rfl, S1', hb1⟩
  have S1 := hid S1'
  have R1 := R0.next hb1
  have U1 := gr_trans U0 hb1
  clear S1' hR0 R0 U0 hb1
  simp only [World.size_alloc] at S1 ⊢
  generalize hk : w.heap.size + 1 = k at S1 ⊢
  go_wp2_with fail
  refine (l09Draw_any _ a len cap zs _ S1.out).mono ?_
  rintro e w2 ⟨p, q, r, s, rfl, S2', G2⟩
  have R2 := R1.gk G2 (by omega)
  have U2 := Gk.out U1 G2 (by omega)
  have hk2 := S2'.lt
  have hR2 := R2.lt
  have X3 := Arr.new w2 p q r s 25
  have S3 := hid (S2'.alloc (.cells #[.int .i64 p, .int .i64 q, .int .i64 r, .int .i64 s] 25))
  have R3 := R2.alloc (.cells #[.int .i64 p, .int .i64 q, .int .i64 r, .int .i64 s] 25)
  have U3 := gr_alloc U2 (.cells #[.int .i64 p, .int .i64 q, .int .i64 r, .int .i64 s] 25)
  clear S1 R1 U1 G2 S2' R2 U2
  obtain ⟨j, hj⟩ : ∃ j, j = w2.heap.size := ⟨_, rfl⟩
  rw [← hj] at X3 hk2 hR2
  go_wp2_with fail
  rw [← hj]
  generalize w2.alloc (.cells #[.int .i64 p, .int .i64 q, .int .i64 r, .int .i64 s] 25) = W3 at X3 S3 R3 U3 ⊢
  clear hj
  have hl3 := X3.lt
  have hk3 := S3.out.lt
  obtain ⟨_, x0, x1, x2, x3, _⟩ := id X3
  obtain ⟨_, r0, r1, r2, r3, f0, f1, f2, f3⟩ := id R3
  go_cut [3] (fun s3 wx => ∃ n : Int, s3 = .int .i64 n ∧ Arr wx w.heap.size p q r s ∧ Below w.heap.size w wx)
  case first =>
    go_region_with ((go_at_call 67; refine (pick_any k a len cap zs W3.heap.size 6 _ ?_ (by omega) (by omega) (by first | (simp; done) | (simp; omega)) (by omega) ?_).mono ?_; (exact S3.out.below (by (repeat' (first | with_reducible exact Below.refl _ _ | with_reducible assumption | with_reducible refine gr_alloc ?_ _ | with_reducible refine gr_drew ?_ | with_reducible refine gr_drewN ?_ _ | with_reducible refine gr_trans ?_ (by assumption) | with_reducible refine gr_set ?_ ?_ _ | (simp; done) | omega | (simp; omega))))); (exact lit_bx (T := 2) (cs := #[.int .i64 2, .int .i64 10, .int .i64 50, .int .i64 97, .int .i64 1, .int .i64 98]) (by (repeat (first | with_reducible assumption | with_reducible exact Bx.new _ _ _ | with_reducible refine Bx.drew ?_ | with_reducible refine Bx.drewN ?_ _ | with_reducible refine Bx.alloc ?_ _ | with_reducible refine Bx.next ?_ (by assumption)))) [2, 10, 50, 97, 1, 98] 6 rfl rfl); (rintro e z ⟨x, rfl, Sz, Gz⟩; have Xz := Arr.gk (X3.next (by (repeat' (first | with_reducible exact Below.refl _ _ | with_reducible assumption | with_reducible refine gr_alloc ?_ _ | with_reducible refine gr_drew ?_ | with_reducible refine gr_drewN ?_ _ | with_reducible refine gr_trans ?_ (by assumption) | with_reducible refine gr_set ?_ ?_ _ | (simp; done) | omega | (simp; omega))))) Gz (by omega); have Rz := Arr.gk (R3.next (by (repeat' (first | with_reducible exact Below.refl _ _ | with_reducible assumption | with_reducible refine gr_alloc ?_ _ | with_reducible refine gr_drew ?_ | with_reducible refine gr_drewN ?_ _ | with_reducible refine gr_trans ?_ (by assumption) | with_reducible refine gr_set ?_ ?_ _ | (simp; done) | omega | (simp; omega))))) Gz (by omega); have Uz := Gk.out (gr_trans U3 (by (repeat' (first | with_reducible exact Below.refl _ _ | with_reducible assumption | with_reducible refine gr_alloc ?_ _ | with_reducible refine gr_drew ?_ | with_reducible refine gr_drewN ?_ _ | with_reducible refine gr_trans ?_ (by assumption) | with_reducible refine gr_set ?_ ?_ _ | (simp; done) | omega | (simp; omega))))) Gz (by omega); obtain ⟨_, y0, y1, y2, y3, _⟩ := id Xz; obtain ⟨_, q0, q1, q2, q3, e0, e1, e2, e3⟩ := id Rz)))
    all_goals
      go_wp2
      go_meet
      exact ⟨_, rfl, by (repeat (first | with_reducible assumption | with_reducible exact Arr.box (by assumption) | with_reducible exact Box.new _ _ _ _ _ _ | with_reducible exact Arr.new _ _ _ _ _ _ | with_reducible refine Arr.drew ?_ | with_reducible refine Arr.drewN ?_ _ | with_reducible refine Arr.store4 ?_ | with_reducible refine Arr.alloc ?_ _ | with_reducible refine Box.drew ?_ | with_reducible refine Box.drewN ?_ _ | with_reducible refine Box.alloc ?_ _ | with_reducible refine Arr.next ?_ (by assumption) | with_reducible refine Box.next ?_ (by assumption) | refine Arr.oth ?_ (by first | (simp; done) | omega | (simp; omega)) _ | refine Box.oth ?_ (by first | (simp; done) | omega | (simp; omega)) _ | with_reducible exact Arr3.box (by assumption) | with_reducible exact Box3.new _ _ _ _ _ | with_reducible exact Arr3.new _ _ _ _ _ | with_reducible refine Arr3.drew ?_ | with_reducible refine Arr3.drewN ?_ _ | with_reducible refine Arr3.store3 ?_ | with_reducible refine Arr3.alloc ?_ _ | with_reducible refine Box3.drew ?_ | with_reducible refine Box3.drewN ?_ _ | with_reducible refine Box3.alloc ?_ _ | with_reducible refine Arr3.next ?_ (by assumption) | with_reducible refine Box3.next ?_ (by assumption) | refine Arr3.oth ?_ (by first | (simp; done) | omega | (simp; omega)) _ | refine Box3.oth ?_ (by first | (simp; done) | omega | (simp; omega)) _)), by (repeat' (first | with_reducible exact Below.refl _ _ | with_reducible assumption | with_reducible refine gr_alloc ?_ _ | with_reducible refine gr_drew ?_ | with_reducible refine gr_drewN ?_ _ | with_reducible refine gr_trans ?_ (by assumption) | with_reducible refine gr_set ?_ ?_ _ | (simp; done) | omega | (simp; omega)))⟩
  case rest =>
    obtain ⟨n, rfl, R4, U4⟩ := hcut
    clear X3 S3 R3 U3 x0 x1 x2 x3 r0 r1 r2 r3 f0 f1 f2 f3
    go_wp2_with fail
    refine bodyPost_ret (res_AN (e := 2) rfl Tryd.underlying25 (by kernel_rfl) rfl rfl R4) rfl ?_
    exact ⟨_, _, _, _, _, rfl, U4⟩


end Go.Proofs.YtihcmgjfkiaelaaDoor
