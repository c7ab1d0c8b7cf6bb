/- Draws: forms. -/
import Derived.Test.YtambbhldhhlfgaaDraw3
namespace Go.Proofs.Ytambbhldhhlfgaa
open Go.ChangeShapes Go.WideShapes Go.ChangeAt Go.RowKit

set_option maxRecDepth 100000 in
set_option maxHeartbeats 4000000 in
theorem draw_any (k : Nat) (a : Option Addr) (len cap : Nat) (zs : List Int) (w : World) (hS : Src w k a len cap zs) :
    Calls Try.prog 104 #[.pointer (some ⟨k, 0, none⟩)] w (FrmPost k a len cap zs w) := by
  have hl := hS.lt
  have R0 := Arr.new w 0 0 0 0 25
  have S0 := hid (hS.alloc (.cells #[.int .i64 0, .int .i64 0, .int .i64 0, .int .i64 0] 25))
  have H0 := (Gk.refl k w).alloc (.cells #[.int .i64 0, .int .i64 0, .int .i64 0, .int .i64 0] 25)
  clear hS
  go_enter Try.func104, Try.ntmps104
  go_wp2_with fail
  refine (next_any k a len cap zs _ _ S0.out).mono ?_
  rintro e w1 ⟨x1, rfl, hx1, hy1, S1', G1⟩
  have S1 := hid S1'
  have R1 := R0.gk G1 (by omega)
  have H1 := H0.trans G1
  clear S1' G1 R0 H0 S0
  clear hx1
  have hsp : x1 = 0 ∨ x1 = 1 ∨ x1 = 2 ∨ x1 = 3 ∨ x1 = 4 ∨ (x1 ≠ 0 ∧ x1 ≠ 1 ∧ x1 ≠ 2 ∧ x1 ≠ 3 ∧ x1 ≠ 4) := by omega
  clear hy1
  rcases hsp with rfl | rfl | rfl | rfl | rfl | ⟨n0, n1, n2, n3, n4⟩
  · go_wp2_with fail
    refine (small_any k a len cap zs _ S1.out).mono ?_
    rintro e w2 ⟨p2, q2, r2, s2, rfl, S2', G2⟩
    have S2 := hid S2'
    have R2 := R1.gk G2 (by omega)
    have H2 := H1.trans G2
    clear S2' G2 R1 H1 S1
    obtain ⟨_, r0, r1, r2, r3, f0, f1, f2, f3⟩ := id R2
    go_wp2_with fail
    refine bodyPost_ret (res_A1 (e := 2) rfl Try.underlying25 (by kernel_rfl) rfl (by (repeat (first | with_reducible assumption | with_reducible exact Arr.box (by assumption) | with_reducible apply Arr.drew | with_reducible apply Arr.drewN | with_reducible refine Arr.store4 ?_ | with_reducible apply Arr.alloc | with_reducible refine Box.drew ?_ | with_reducible refine Box.drewN ?_ _ | with_reducible refine Box.alloc ?_ _ | refine Arr.oth ?_ (by first | (simp; done) | omega | (simp; omega)) _ | refine Box.oth ?_ (by first | (simp; done) | omega | (simp; omega)) _)))) rfl ?_
    exact ⟨_, _, _, _, rfl, S2.out.up4 hl _ _ _ _, H2.up4 (Nat.le_refl _) _ _ _ _⟩
  · go_wp2_with fail
    refine (small_any k a len cap zs _ S1.out).mono ?_
    rintro e w2 ⟨p2, q2, r2, s2, rfl, S2', G2⟩
    have S2 := hid S2'
    have R2 := R1.gk G2 (by omega)
    have H2 := H1.trans G2
    clear S2' G2 R1 H1 S1
    obtain ⟨_, r0, r1, r2, r3, f0, f1, f2, f3⟩ := id R2
    go_wp2_with fail
    refine bodyPost_ret (res_A1 (e := 2) rfl Try.underlying25 (by kernel_rfl) rfl (by (repeat (first | with_reducible assumption | with_reducible exact Arr.box (by assumption) | with_reducible apply Arr.drew | with_reducible apply Arr.drewN | with_reducible refine Arr.store4 ?_ | with_reducible apply Arr.alloc | with_reducible refine Box.drew ?_ | with_reducible refine Box.drewN ?_ _ | with_reducible refine Box.alloc ?_ _ | refine Arr.oth ?_ (by first | (simp; done) | omega | (simp; omega)) _ | refine Box.oth ?_ (by first | (simp; done) | omega | (simp; omega)) _)))) rfl ?_
    exact ⟨_, _, _, _, rfl, S2.out.up4 hl _ _ _ _, H2.up4 (Nat.le_refl _) _ _ _ _⟩
  · go_wp2_with fail
    refine (small_any k a len cap zs _ S1.out).mono ?_
    rintro e w2 ⟨p2, q2, r2, s2, rfl, S2', G2⟩
    have S2 := hid S2'
    have R2 := R1.gk G2 (by omega)
    have H2 := H1.trans G2
    clear S2' G2 R1 H1 S1
    obtain ⟨_, r0, r1, r2, r3, f0, f1, f2, f3⟩ := id R2
    go_wp2_with fail
    refine bodyPost_ret (res_A1 (e := 2) rfl Try.underlying25 (by kernel_rfl) rfl (by (repeat (first | with_reducible assumption | with_reducible exact Arr.box (by assumption) | with_reducible apply Arr.drew | with_reducible apply Arr.drewN | with_reducible refine Arr.store4 ?_ | with_reducible apply Arr.alloc | with_reducible refine Box.drew ?_ | with_reducible refine Box.drewN ?_ _ | with_reducible refine Box.alloc ?_ _ | refine Arr.oth ?_ (by first | (simp; done) | omega | (simp; omega)) _ | refine Box.oth ?_ (by first | (simp; done) | omega | (simp; omega)) _)))) rfl ?_
    exact ⟨_, _, _, _, rfl, S2.out.up4 hl _ _ _ _, H2.up4 (Nat.le_refl _) _ _ _ _⟩
  · go_wp2_with fail
    refine (part_any k a len cap zs _ _ S1.out).mono ?_
    rintro e w2 ⟨x2, rfl, S2', G2⟩
    have S2 := hid S2'
    have R2 := R1.gk G2 (by omega)
    have H2 := H1.trans G2
    clear S2' G2 R1 H1 S1
    go_wp2_with fail
    refine (part_any k a len cap zs _ _ S2.out).mono ?_
    rintro e w3 ⟨x3, rfl, S3', G3⟩
    have S3 := hid S3'
    have R3 := R2.gk G3 (by omega)
    have H3 := H2.trans G3
    clear S3' G3 R2 H2 S2
    go_wp2_with fail
    refine (part_any k a len cap zs _ _ S3.out).mono ?_
    rintro e w4 ⟨x4, rfl, S4', G4⟩
    have S4 := hid S4'
    have R4 := R3.gk G4 (by omega)
    have H4 := H3.trans G4
    clear S4' G4 R3 H3 S3
    go_wp2_with fail
    refine (part_any k a len cap zs _ _ S4.out).mono ?_
    rintro e w5 ⟨x5, rfl, S5', G5⟩
    have S5 := hid S5'
    have R5 := R4.gk G5 (by omega)
    have H5 := H4.trans G5
    clear S5' G5 R4 H4 S4
    go_wp2_with fail
    refine (part_any k a len cap zs _ _ S5.out).mono ?_
    rintro e w6 ⟨x6, rfl, S6', G6⟩
    have S6 := hid S6'
    have R6 := R5.gk G6 (by omega)
    have H6 := H5.trans G6
    clear S6' G6 R5 H5 S5
    obtain ⟨_, r0, r1, r2, r3, f0, f1, f2, f3⟩ := id R6
    go_wp2_with fail
    refine bodyPost_ret (res_A1 (e := 2) rfl Try.underlying25 (by kernel_rfl) rfl (by (repeat (first | with_reducible assumption | with_reducible exact Arr.box (by assumption) | with_reducible apply Arr.drew | with_reducible apply Arr.drewN | with_reducible refine Arr.store4 ?_ | with_reducible apply Arr.alloc | with_reducible refine Box.drew ?_ | with_reducible refine Box.drewN ?_ _ | with_reducible refine Box.alloc ?_ _ | refine Arr.oth ?_ (by first | (simp; done) | omega | (simp; omega)) _ | refine Box.oth ?_ (by first | (simp; done) | omega | (simp; omega)) _)))) rfl ?_
    exact ⟨_, _, _, _, rfl, S6.out.up4 hl _ _ _ _, H6.up4 (Nat.le_refl _) _ _ _ _⟩
  · go_wp2_with fail
    refine (part_any k a len cap zs _ _ S1.out).mono ?_
    rintro e w2 ⟨x2, rfl, S2', G2⟩
    have S2 := hid S2'
    have R2 := R1.gk G2 (by omega)
    have H2 := H1.trans G2
    clear S2' G2 R1 H1 S1
    go_wp2_with fail
    refine (part_any k a len cap zs _ _ S2.out).mono ?_
    rintro e w3 ⟨x3, rfl, S3', G3⟩
    have S3 := hid S3'
    have R3 := R2.gk G3 (by omega)
    have H3 := H2.trans G3
    clear S3' G3 R2 H2 S2
    go_wp2_with fail
    refine (part_any k a len cap zs _ _ S3.out).mono ?_
    rintro e w4 ⟨x4, rfl, S4', G4⟩
    have S4 := hid S4'
    have R4 := R3.gk G4 (by omega)
    have H4 := H3.trans G4
    clear S4' G4 R3 H3 S3
    go_wp2_with fail
    refine (part_any k a len cap zs _ _ S4.out).mono ?_
    rintro e w5 ⟨x5, rfl, S5', G5⟩
    have S5 := hid S5'
    have R5 := R4.gk G5 (by omega)
    have H5 := H4.trans G5
    clear S5' G5 R4 H4 S4
    obtain ⟨_, r0, r1, r2, r3, f0, f1, f2, f3⟩ := id R5
    go_wp2_with fail
    refine bodyPost_ret (res_A1 (e := 2) rfl Try.underlying25 (by kernel_rfl) rfl (by (repeat (first | with_reducible assumption | with_reducible exact Arr.box (by assumption) | with_reducible apply Arr.drew | with_reducible apply Arr.drewN | with_reducible refine Arr.store4 ?_ | with_reducible apply Arr.alloc | with_reducible refine Box.drew ?_ | with_reducible refine Box.drewN ?_ _ | with_reducible refine Box.alloc ?_ _ | refine Arr.oth ?_ (by first | (simp; done) | omega | (simp; omega)) _ | refine Box.oth ?_ (by first | (simp; done) | omega | (simp; omega)) _)))) rfl ?_
    exact ⟨_, _, _, _, rfl, S5.out.up4 hl _ _ _ _, H5.up4 (Nat.le_refl _) _ _ _ _⟩
  · have n0' : (x1 == 0) = false := by simpa using n0
    have n1' : (x1 == 1) = false := by simpa using n1
    have n2' : (x1 == 2) = false := by simpa using n2
    have n3' : (x1 == 3) = false := by simpa using n3
    have n4' : (x1 == 4) = false := by simpa using n4
    clear n0 n1 n2 n3 n4
    have hwl := R1.lt
    have hL := lit_cells w1 2 [10, 100, 1000]
    have HL := hid hL
    clear hL
    have S2 := hid (S1.out.alloc (.cells #[.int .i64 10, .int .i64 100, .int .i64 1000] 2))
    have R2 := R1.alloc (.cells #[.int .i64 10, .int .i64 100, .int .i64 1000] 2)
    have H2 := H1.alloc (.cells #[.int .i64 10, .int .i64 100, .int .i64 1000] 2)
    clear S1 R1 H1
    go_wp2_with fail
    refine (pick_any k a len cap zs _ 3 _ S2.out (by omega) (by omega) (by simp) (by omega) HL.out).mono ?_
    rintro e w3 ⟨x3, rfl, S3', G3⟩
    have S3 := hid S3'
    have R3 := R2.gk G3 (by omega)
    have H3 := H2.trans G3
    clear S3' G3 R2 H2 S2
    clear HL
    go_wp2_with fail
    refine (drawOf_any k a len cap zs _ _ S3.out).mono ?_
    rintro e w4 ⟨p4, q4, r4, s4, rfl, S4', G4⟩
    have S4 := hid S4'
    have R4 := R3.gk G4 (by omega)
    have H4 := H3.trans G4
    clear S4' G4 R3 H3 S3
    obtain ⟨_, r0, r1, r2, r3, f0, f1, f2, f3⟩ := id R4
    go_wp2_with fail
    refine bodyPost_ret (res_A1 (e := 2) rfl Try.underlying25 (by kernel_rfl) rfl (by (repeat (first | with_reducible assumption | with_reducible exact Arr.box (by assumption) | with_reducible apply Arr.drew | with_reducible apply Arr.drewN | with_reducible refine Arr.store4 ?_ | with_reducible apply Arr.alloc | with_reducible refine Box.drew ?_ | with_reducible refine Box.drewN ?_ _ | with_reducible refine Box.alloc ?_ _ | refine Arr.oth ?_ (by first | (simp; done) | omega | (simp; omega)) _ | refine Box.oth ?_ (by first | (simp; done) | omega | (simp; omega)) _)))) rfl ?_
    exact ⟨_, _, _, _, rfl, S4.out.up4 hl _ _ _ _, H4.up4 (Nat.le_refl _) _ _ _ _⟩


end Go.Proofs.Ytambbhldhhlfgaa
