/- Several texts in one: XDraw3, XDraw4, XDraw5. -/
import Derived.Test.YtehbkmohfipmgaaBtZ15
import Derived.Deep.DeepCutAuto

/- Draws: forms and matrices. -/
namespace Go.Proofs.Ytehbkmohfipmgaa
open Go.ChangeShapes Go.WideShapes Go.ChangeAt Go.RowKit

theorem lit_cells (w : World) (t : TypeId) (l : List Int) : ∀ i, i < l.length → ∃ x : Int, (w.alloc (.cells (l.map (Value.int .i64)).toArray t)).cell? ⟨w.heap.size, i, none⟩ = some (.int .i64 x) := fun i hi =>
  ⟨l[i], by simp [go_sem, hi]⟩
theorem Src.up4 {w : World} {k : Nat} {a : Option Addr} {len cap : Nat} {zs : List Int} (h : Src w k a len cap zs) {j : Nat} (hj : k < j) (x y z u : Value) : Src ((((w.setCell ⟨j, 0, none⟩ x).setCell ⟨j, 1, none⟩ y).setCell ⟨j, 2, none⟩ z).setCell ⟨j, 3, none⟩ u) k a len cap zs :=
  (((h.up (p := ⟨j, 0, none⟩) hj _).up (p := ⟨j, 1, none⟩) hj _).up (p := ⟨j, 2, none⟩) hj _).up (p := ⟨j, 3, none⟩) hj _
theorem Gk.up4 {k : Nat} {u v : World} (h : Gk k u v) {j : Nat} (hj : u.heap.size ≤ j) (x y z t : Value) : Gk k u ((((v.setCell ⟨j, 0, none⟩ x).setCell ⟨j, 1, none⟩ y).setCell ⟨j, 2, none⟩ z).setCell ⟨j, 3, none⟩ t) :=
  (((h.up (p := ⟨j, 0, none⟩) hj _).up (p := ⟨j, 1, none⟩) hj _).up (p := ⟨j, 2, none⟩) hj _).up (p := ⟨j, 3, none⟩) hj _

set_option maxHeartbeats 2000000 in
theorem small_any (k : Nat) (a : Option Addr) (len cap : Nat) (zs : List Int) (w : World) (hS : Src w k a len cap zs) :
    Calls Try.prog 92 #[.pointer (some ⟨k, 0, none⟩)] w (FrmPost k a len cap zs w) := by
  have hl := hS.lt
  have R0 := (Arr.new w 0 0 0 0 42).alloc (.cells #[.int .i64 1, .int .i64 2, .int .i64 3, .int .i64 5] 2)
  have S0 := hid ((hS.alloc (.cells #[.int .i64 0, .int .i64 0, .int .i64 0, .int .i64 0] 42)).alloc (.cells #[.int .i64 1, .int .i64 2, .int .i64 3, .int .i64 5] 2))
  have H0 := ((Gk.refl k w).alloc (.cells #[.int .i64 0, .int .i64 0, .int .i64 0, .int .i64 0] 42)).alloc (.cells #[.int .i64 1, .int .i64 2, .int .i64 3, .int .i64 5] 2)
  have hL := lit_cells (w.alloc (.cells #[.int .i64 0, .int .i64 0, .int .i64 0, .int .i64 0] 42)) 2 [1, 2, 3, 5]
  simp only [World.size_alloc] at hL
  have HL := hid hL
  clear hS hL
  go_enter Try.func92, Try.ntmps92
  go_wp2_with fail
  refine (pick_any k a len cap zs _ 4 _ S0.out (by omega) (by omega) (by simp) (by omega) HL.out).mono ?_
  rintro e w1 ⟨x1, rfl, S1', G1⟩
  have S1 := hid S1'
  have R1 := R0.gk G1 (by omega)
  have H1 := H0.trans G1
  clear S1' G1 R0 H0 S0
  clear HL
  go_wp2_with fail
  refine (drawOf_any k a len cap zs _ _ S1.out).mono ?_
  rintro e w2 ⟨p2, q2, r2, s2, rfl, S2', G2⟩
  have S2 := hid S2'
  have R2 := R1.gk G2 (by omega)
  have H2 := H1.trans G2
  clear S2' G2 R1 H1 S1
  have H2s := H2.size
  have R2l := R2.lt
  have S2l := S2.out.lt
  have X3 := Arr.new w2 p2 q2 r2 s2 42
  obtain ⟨jx, hjx⟩ : ∃ j, j = w2.heap.size := ⟨_, rfl⟩
  have S3 := hid (S2.out.alloc (.cells #[.int .i64 p2, .int .i64 q2, .int .i64 r2, .int .i64 s2] 42))
  have R3 := R2.alloc (.cells #[.int .i64 p2, .int .i64 q2, .int .i64 r2, .int .i64 s2] 42)
  have H3 := H2.alloc (.cells #[.int .i64 p2, .int .i64 q2, .int .i64 r2, .int .i64 s2] 42)
  clear S2 R2 H2
  have hR3 := R3.lt
  simp only [World.size_alloc, ← hjx] at hR3 X3
  have hR3' : w.heap.size < jx := by have := H2s; have := R2l; omega
  have HJ := hid hjx
  clear hjx
  go_upto_if 11 with (fail)
  rw [← HJ.out]
  generalize w2.alloc (.cells #[.int .i64 p2, .int .i64 q2, .int .i64 r2, .int .i64 s2] 42) = W3 at S3 R3 H3 X3 hR3 ⊢
  go_cut [] (fun wx => ∃ p q r s : Int, Arr wx jx p q r s ∧ Arr wx w.heap.size 0 0 0 0 ∧ Src wx k a len cap zs ∧ Gk k w wx)
  case first =>
    by_cases hp : p2 = 0
    · have hXl := X3.lt
      have hL := lit_cells W3 2 [1, 1, 0]
      have HL := hid hL
      have SA := hid (S3.out.alloc (.cells #[.int .i64 1, .int .i64 1, .int .i64 0] 2))
      have RA := R3.alloc (.cells #[.int .i64 1, .int .i64 1, .int .i64 0] 2)
      have XA := X3.alloc (.cells #[.int .i64 1, .int .i64 1, .int .i64 0] 2)
      have HA := H3.alloc (.cells #[.int .i64 1, .int .i64 1, .int .i64 0] 2)
      have hpt : (p2 == 0) = true := by simpa using hp
      clear hL hp
      go_wp2_with fail
      refine (pick_any k a len cap zs _ 3 _ SA.out (by omega) (by omega) (by simp) (by omega) HL.out).mono ?_
      rintro e wb ⟨y, rfl, SB, GB⟩
      have RB := RA.gk GB (by omega)
      have XB := XA.gk GB (by omega)
      have HB := HA.trans GB
      have SB' := hid SB
      clear SB GB RA XA HA SA HL
      obtain ⟨_, y0, y1, y2, y3, g0, g1, g2, g3⟩ := id XB
      go_wp2_with fail
      go_meet
      exact ⟨_, _, _, _, XB.set0 y, RB.oth (by simp; omega) _, SB'.out.up (by simp; omega) _, HB.up (by simp; omega) _⟩
    · have hpf : (p2 == 0) = false := by simpa using hp
      clear hp
      go_wp2_with fail
      go_meet
      exact ⟨_, _, _, _, X3, R3, S3.out, H3⟩
  case rest =>
    obtain ⟨p, q, r, s, X4, R4, S4', H4⟩ := hcut
    have S4 := hid S4'
    have hR4 := X4.lt
    clear S4' X3 R3 H3 S3 hR3
    obtain ⟨_, y0, y1, y2, y3, g0, g1, g2, g3⟩ := id X4
    go_upto_if 18 with (fail)
    clear y0 y1 y2 y3 g0 g1 g2 g3
    go_cut [] (fun wx => ∃ p q r s : Int, Arr wx jx p q r s ∧ Arr wx w.heap.size 0 0 0 0 ∧ Src wx k a len cap zs ∧ Gk k w wx)
    case first =>
      by_cases hp : s = 0
      · have hXl := X4.lt
        have hL := lit_cells wc 2 [1, -1, 0]
        have HL := hid hL
        have SA := hid (S4.out.alloc (.cells #[.int .i64 1, .int .i64 (-1), .int .i64 0] 2))
        have RA := R4.alloc (.cells #[.int .i64 1, .int .i64 (-1), .int .i64 0] 2)
        have XA := X4.alloc (.cells #[.int .i64 1, .int .i64 (-1), .int .i64 0] 2)
        have HA := H4.alloc (.cells #[.int .i64 1, .int .i64 (-1), .int .i64 0] 2)
        have hpt : (s == 0) = true := by simpa using hp
        clear hL hp
        go_wp2_with fail
        refine (pick_any k a len cap zs _ 3 _ SA.out (by omega) (by omega) (by simp) (by omega) HL.out).mono ?_
        rintro e wb ⟨y, rfl, SB, GB⟩
        have RB := RA.gk GB (by omega)
        have XB := XA.gk GB (by omega)
        have HB := HA.trans GB
        have SB' := hid SB
        clear SB GB RA XA HA SA HL
        obtain ⟨_, y0, y1, y2, y3, g0, g1, g2, g3⟩ := id XB
        go_wp2_with fail
        go_meet
        exact ⟨_, _, _, _, XB.set3 y, RB.oth (by simp; omega) _, SB'.out.up (by simp; omega) _, HB.up (by simp; omega) _⟩
      · have hpf : (s == 0) = false := by simpa using hp
        clear hp
        go_wp2_with fail
        go_meet
        exact ⟨_, _, _, _, X4, R4, S4.out, H4⟩
    case rest =>
      obtain ⟨p', q', r', s', X5, R5, S5', H5⟩ := hcut
      have S5 := hid S5'
      clear S5' X4 R4 H4 S4 hR4
      obtain ⟨_, y0, y1, y2, y3, _⟩ := id X5
      obtain ⟨_, r0, r1, r2, r3, f0, f1, f2, f3⟩ := id R5
      go_wp2_with fail
      refine bodyPost_ret (res_A1 (e := 2) rfl Try.underlying42 (by kernel_rfl) rfl (by (repeat (first | with_reducible assumption | with_reducible exact Arr.box (by assumption) | with_reducible apply Arr.drew | with_reducible apply Arr.drewN | with_reducible refine Arr.store4 ?_ | with_reducible apply Arr.alloc | with_reducible refine Box.drew ?_ | with_reducible refine Box.drewN ?_ _ | with_reducible refine Box.alloc ?_ _ | refine Arr.oth ?_ (by first | (simp; done) | omega | (simp; omega)) _ | refine Box.oth ?_ (by first | (simp; done) | omega | (simp; omega)) _)))) rfl ?_
      exact ⟨_, _, _, _, rfl, S5.out.up4 hl _ _ _ _, H5.up4 (Nat.le_refl _) _ _ _ _⟩

end Go.Proofs.Ytehbkmohfipmgaa

/- Draws: forms. -/
namespace Go.Proofs.Ytehbkmohfipmgaa
open Go.ChangeShapes Go.WideShapes Go.ChangeAt Go.RowKit

set_option maxRecDepth 100000 in
set_option maxHeartbeats 4000000 in
theorem draw_any (k : Nat) (a : Option Addr) (len cap : Nat) (zs : List Int) (w : World) (hS : Src w k a len cap zs) :
    Calls Try.prog 90 #[.pointer (some ⟨k, 0, none⟩)] w (FrmPost k a len cap zs w) := by
  have hl := hS.lt
  have R0 := Arr.new w 0 0 0 0 42
  have S0 := hid (hS.alloc (.cells #[.int .i64 0, .int .i64 0, .int .i64 0, .int .i64 0] 42))
  have H0 := (Gk.refl k w).alloc (.cells #[.int .i64 0, .int .i64 0, .int .i64 0, .int .i64 0] 42)
  clear hS
  go_enter Try.func90, Try.ntmps90
  go_wp2_with fail
  refine (next_any k a len cap zs _ _ S0.out).mono ?_
  rintro e w1 ⟨x1, rfl, hx1, hy1, S1', G1⟩
  have S1 := hid S1'
  have R1 := R0.gk G1 (by omega)
  have H1 := H0.trans G1
  clear S1' G1 R0 H0 S0
  clear hx1
  have hsp : x1 = 0 ∨ x1 = 1 ∨ x1 = 2 ∨ x1 = 3 ∨ x1 = 4 ∨ (x1 ≠ 0 ∧ x1 ≠ 1 ∧ x1 ≠ 2 ∧ x1 ≠ 3 ∧ x1 ≠ 4) := by omega
  clear hy1
  rcases hsp with rfl | rfl | rfl | rfl | rfl | ⟨n0, n1, n2, n3, n4⟩
  · go_wp2_with fail
    refine (small_any k a len cap zs _ S1.out).mono ?_
    rintro e w2 ⟨p2, q2, r2, s2, rfl, S2', G2⟩
    have S2 := hid S2'
    have R2 := R1.gk G2 (by omega)
    have H2 := H1.trans G2
    clear S2' G2 R1 H1 S1
    obtain ⟨_, r0, r1, r2, r3, f0, f1, f2, f3⟩ := id R2
    go_wp2_with fail
    refine bodyPost_ret (res_A1 (e := 2) rfl Try.underlying42 (by kernel_rfl) rfl (by (repeat (first | with_reducible assumption | with_reducible exact Arr.box (by assumption) | with_reducible apply Arr.drew | with_reducible apply Arr.drewN | with_reducible refine Arr.store4 ?_ | with_reducible apply Arr.alloc | with_reducible refine Box.drew ?_ | with_reducible refine Box.drewN ?_ _ | with_reducible refine Box.alloc ?_ _ | refine Arr.oth ?_ (by first | (simp; done) | omega | (simp; omega)) _ | refine Box.oth ?_ (by first | (simp; done) | omega | (simp; omega)) _)))) rfl ?_
    exact ⟨_, _, _, _, rfl, S2.out.up4 hl _ _ _ _, H2.up4 (Nat.le_refl _) _ _ _ _⟩
  · go_wp2_with fail
    refine (small_any k a len cap zs _ S1.out).mono ?_
    rintro e w2 ⟨p2, q2, r2, s2, rfl, S2', G2⟩
    have S2 := hid S2'
    have R2 := R1.gk G2 (by omega)
    have H2 := H1.trans G2
    clear S2' G2 R1 H1 S1
    obtain ⟨_, r0, r1, r2, r3, f0, f1, f2, f3⟩ := id R2
    go_wp2_with fail
    refine bodyPost_ret (res_A1 (e := 2) rfl Try.underlying42 (by kernel_rfl) rfl (by (repeat (first | with_reducible assumption | with_reducible exact Arr.box (by assumption) | with_reducible apply Arr.drew | with_reducible apply Arr.drewN | with_reducible refine Arr.store4 ?_ | with_reducible apply Arr.alloc | with_reducible refine Box.drew ?_ | with_reducible refine Box.drewN ?_ _ | with_reducible refine Box.alloc ?_ _ | refine Arr.oth ?_ (by first | (simp; done) | omega | (simp; omega)) _ | refine Box.oth ?_ (by first | (simp; done) | omega | (simp; omega)) _)))) rfl ?_
    exact ⟨_, _, _, _, rfl, S2.out.up4 hl _ _ _ _, H2.up4 (Nat.le_refl _) _ _ _ _⟩
  · go_wp2_with fail
    refine (small_any k a len cap zs _ S1.out).mono ?_
    rintro e w2 ⟨p2, q2, r2, s2, rfl, S2', G2⟩
    have S2 := hid S2'
    have R2 := R1.gk G2 (by omega)
    have H2 := H1.trans G2
    clear S2' G2 R1 H1 S1
    obtain ⟨_, r0, r1, r2, r3, f0, f1, f2, f3⟩ := id R2
    go_wp2_with fail
    refine bodyPost_ret (res_A1 (e := 2) rfl Try.underlying42 (by kernel_rfl) rfl (by (repeat (first | with_reducible assumption | with_reducible exact Arr.box (by assumption) | with_reducible apply Arr.drew | with_reducible apply Arr.drewN | with_reducible refine Arr.store4 ?_ | with_reducible apply Arr.alloc | with_reducible refine Box.drew ?_ | with_reducible refine Box.drewN ?_ _ | with_reducible refine Box.alloc ?_ _ | refine Arr.oth ?_ (by first | (simp; done) | omega | (simp; omega)) _ | refine Box.oth ?_ (by first | (simp; done) | omega | (simp; omega)) _)))) rfl ?_
    exact ⟨_, _, _, _, rfl, S2.out.up4 hl _ _ _ _, H2.up4 (Nat.le_refl _) _ _ _ _⟩
  · go_wp2_with fail
    refine (part_any k a len cap zs _ _ S1.out).mono ?_
    rintro e w2 ⟨x2, rfl, S2', G2⟩
    have S2 := hid S2'
    have R2 := R1.gk G2 (by omega)
    have H2 := H1.trans G2
    clear S2' G2 R1 H1 S1
    go_wp2_with fail
    refine (part_any k a len cap zs _ _ S2.out).mono ?_
    rintro e w3 ⟨x3, rfl, S3', G3⟩
    have S3 := hid S3'
    have R3 := R2.gk G3 (by omega)
    have H3 := H2.trans G3
    clear S3' G3 R2 H2 S2
    go_wp2_with fail
    refine (part_any k a len cap zs _ _ S3.out).mono ?_
    rintro e w4 ⟨x4, rfl, S4', G4⟩
    have S4 := hid S4'
    have R4 := R3.gk G4 (by omega)
    have H4 := H3.trans G4
    clear S4' G4 R3 H3 S3
    go_wp2_with fail
    refine (part_any k a len cap zs _ _ S4.out).mono ?_
    rintro e w5 ⟨x5, rfl, S5', G5⟩
    have S5 := hid S5'
    have R5 := R4.gk G5 (by omega)
    have H5 := H4.trans G5
    clear S5' G5 R4 H4 S4
    go_wp2_with fail
    refine (part_any k a len cap zs _ _ S5.out).mono ?_
    rintro e w6 ⟨x6, rfl, S6', G6⟩
    have S6 := hid S6'
    have R6 := R5.gk G6 (by omega)
    have H6 := H5.trans G6
    clear S6' G6 R5 H5 S5
    obtain ⟨_, r0, r1, r2, r3, f0, f1, f2, f3⟩ := id R6
    go_wp2_with fail
    refine bodyPost_ret (res_A1 (e := 2) rfl Try.underlying42 (by kernel_rfl) rfl (by (repeat (first | with_reducible assumption | with_reducible exact Arr.box (by assumption) | with_reducible apply Arr.drew | with_reducible apply Arr.drewN | with_reducible refine Arr.store4 ?_ | with_reducible apply Arr.alloc | with_reducible refine Box.drew ?_ | with_reducible refine Box.drewN ?_ _ | with_reducible refine Box.alloc ?_ _ | refine Arr.oth ?_ (by first | (simp; done) | omega | (simp; omega)) _ | refine Box.oth ?_ (by first | (simp; done) | omega | (simp; omega)) _)))) rfl ?_
    exact ⟨_, _, _, _, rfl, S6.out.up4 hl _ _ _ _, H6.up4 (Nat.le_refl _) _ _ _ _⟩
  · go_wp2_with fail
    refine (part_any k a len cap zs _ _ S1.out).mono ?_
    rintro e w2 ⟨x2, rfl, S2', G2⟩
    have S2 := hid S2'
    have R2 := R1.gk G2 (by omega)
    have H2 := H1.trans G2
    clear S2' G2 R1 H1 S1
    go_wp2_with fail
    refine (part_any k a len cap zs _ _ S2.out).mono ?_
    rintro e w3 ⟨x3, rfl, S3', G3⟩
    have S3 := hid S3'
    have R3 := R2.gk G3 (by omega)
    have H3 := H2.trans G3
    clear S3' G3 R2 H2 S2
    go_wp2_with fail
    refine (part_any k a len cap zs _ _ S3.out).mono ?_
    rintro e w4 ⟨x4, rfl, S4', G4⟩
    have S4 := hid S4'
    have R4 := R3.gk G4 (by omega)
    have H4 := H3.trans G4
    clear S4' G4 R3 H3 S3
    go_wp2_with fail
    refine (part_any k a len cap zs _ _ S4.out).mono ?_
    rintro e w5 ⟨x5, rfl, S5', G5⟩
    have S5 := hid S5'
    have R5 := R4.gk G5 (by omega)
    have H5 := H4.trans G5
    clear S5' G5 R4 H4 S4
    obtain ⟨_, r0, r1, r2, r3, f0, f1, f2, f3⟩ := id R5
    go_wp2_with fail
    refine bodyPost_ret (res_A1 (e := 2) rfl Try.underlying42 (by kernel_rfl) rfl (by (repeat (first | with_reducible assumption | with_reducible exact Arr.box (by assumption) | with_reducible apply Arr.drew | with_reducible apply Arr.drewN | with_reducible refine Arr.store4 ?_ | with_reducible apply Arr.alloc | with_reducible refine Box.drew ?_ | with_reducible refine Box.drewN ?_ _ | with_reducible refine Box.alloc ?_ _ | refine Arr.oth ?_ (by first | (simp; done) | omega | (simp; omega)) _ | refine Box.oth ?_ (by first | (simp; done) | omega | (simp; omega)) _)))) rfl ?_
    exact ⟨_, _, _, _, rfl, S5.out.up4 hl _ _ _ _, H5.up4 (Nat.le_refl _) _ _ _ _⟩
  · have n0' : (x1 == 0) = false := by simpa using n0
    have n1' : (x1 == 1) = false := by simpa using n1
    have n2' : (x1 == 2) = false := by simpa using n2
    have n3' : (x1 == 3) = false := by simpa using n3
    have n4' : (x1 == 4) = false := by simpa using n4
    clear n0 n1 n2 n3 n4
    have hwl := R1.lt
    have hL := lit_cells w1 2 [10, 100, 1000]
    have HL := hid hL
    clear hL
    have S2 := hid (S1.out.alloc (.cells #[.int .i64 10, .int .i64 100, .int .i64 1000] 2))
    have R2 := R1.alloc (.cells #[.int .i64 10, .int .i64 100, .int .i64 1000] 2)
    have H2 := H1.alloc (.cells #[.int .i64 10, .int .i64 100, .int .i64 1000] 2)
    clear S1 R1 H1
    go_wp2_with fail
    refine (pick_any k a len cap zs _ 3 _ S2.out (by omega) (by omega) (by simp) (by omega) HL.out).mono ?_
    rintro e w3 ⟨x3, rfl, S3', G3⟩
    have S3 := hid S3'
    have R3 := R2.gk G3 (by omega)
    have H3 := H2.trans G3
    clear S3' G3 R2 H2 S2
    clear HL
    go_wp2_with fail
    refine (drawOf_any k a len cap zs _ _ S3.out).mono ?_
    rintro e w4 ⟨p4, q4, r4, s4, rfl, S4', G4⟩
    have S4 := hid S4'
    have R4 := R3.gk G4 (by omega)
    have H4 := H3.trans G4
    clear S4' G4 R3 H3 S3
    obtain ⟨_, r0, r1, r2, r3, f0, f1, f2, f3⟩ := id R4
    go_wp2_with fail
    refine bodyPost_ret (res_A1 (e := 2) rfl Try.underlying42 (by kernel_rfl) rfl (by (repeat (first | with_reducible assumption | with_reducible exact Arr.box (by assumption) | with_reducible apply Arr.drew | with_reducible apply Arr.drewN | with_reducible refine Arr.store4 ?_ | with_reducible apply Arr.alloc | with_reducible refine Box.drew ?_ | with_reducible refine Box.drewN ?_ _ | with_reducible refine Box.alloc ?_ _ | refine Arr.oth ?_ (by first | (simp; done) | omega | (simp; omega)) _ | refine Box.oth ?_ (by first | (simp; done) | omega | (simp; omega)) _)))) rfl ?_
    exact ⟨_, _, _, _, rfl, S4.out.up4 hl _ _ _ _, H4.up4 (Nat.le_refl _) _ _ _ _⟩


end Go.Proofs.Ytehbkmohfipmgaa

/- Draws: forms and matrices. -/
namespace Go.Proofs.Ytehbkmohfipmgaa
open Go.ChangeShapes Go.WideShapes Go.ChangeAt Go.RowKit

set_option maxRecDepth 100000 in
set_option maxHeartbeats 4000000 in
theorem bad_any (k : Nat) (a : Option Addr) (len cap : Nat) (zs : List Int) (c0 c1 c2 c3 : Int) (w : World) (hS : Src w k a len cap zs) :
    Calls Try.prog 89 #[.pointer (some ⟨k, 0, none⟩), .agg #[.int .i64 c0, .int .i64 c1, .int .i64 c2, .int .i64 c3]] w (FrmPost k a len cap zs w) := by
  have hl := hS.lt
  have X0 := (Arr.new w c0 c1 c2 c3 42).alloc (.cells #[.int .i64 0, .int .i64 0, .int .i64 0, .int .i64 0] 42)
  have R0 := Arr.new (w.alloc (.cells #[.int .i64 c0, .int .i64 c1, .int .i64 c2, .int .i64 c3] 42)) 0 0 0 0 42
  simp only [World.size_alloc] at R0
  have S0 := hid ((hS.alloc (.cells #[.int .i64 c0, .int .i64 c1, .int .i64 c2, .int .i64 c3] 42)).alloc (.cells #[.int .i64 0, .int .i64 0, .int .i64 0, .int .i64 0] 42))
  have H0 := ((Gk.refl k w).alloc (.cells #[.int .i64 c0, .int .i64 c1, .int .i64 c2, .int .i64 c3] 42)).alloc (.cells #[.int .i64 0, .int .i64 0, .int .i64 0, .int .i64 0] 42)
  clear hS
  go_enter Try.func89, Try.ntmps89
  go_wp2_with fail
  refine (next_any k a len cap zs _ _ S0.out).mono ?_
  rintro e w1 ⟨x1, rfl, hx1, hy1, S1', G1⟩
  have S1 := hid S1'
  have X1 := X0.gk G1 (by omega)
  have R1 := R0.gk G1 (by omega)
  have H1 := H0.trans G1
  clear S1' G1 X0 R0 H0 S0
  clear hx1 hy1
  by_cases hx : x1 = 0
  · subst hx
    go_wp2_with fail
    refine (next_any k a len cap zs _ _ S1.out).mono ?_
    rintro e w2 ⟨x2, rfl, hx2, hy2, S2', G2⟩
    have S2 := hid S2'
    have X2 := X1.gk G2 (by omega)
    have R2 := R1.gk G2 (by omega)
    have H2 := H1.trans G2
    clear S2' G2 X1 R1 H1 S1
    have hwl := R2.lt
    have hL := lit_cells w2 2 [1001, -1001, 1099511627776, -4611686018427387904]
    have HL := hid hL
    clear hL
    have S3 := hid (S2.out.alloc (.cells #[.int .i64 1001, .int .i64 (-1001), .int .i64 1099511627776, .int .i64 (-4611686018427387904)] 2))
    have X3 := X2.alloc (.cells #[.int .i64 1001, .int .i64 (-1001), .int .i64 1099511627776, .int .i64 (-4611686018427387904)] 2)
    have R3 := R2.alloc (.cells #[.int .i64 1001, .int .i64 (-1001), .int .i64 1099511627776, .int .i64 (-4611686018427387904)] 2)
    have H3 := H2.alloc (.cells #[.int .i64 1001, .int .i64 (-1001), .int .i64 1099511627776, .int .i64 (-4611686018427387904)] 2)
    clear S2 X2 R2 H2
    go_wp2_with fail
    refine (pick_any k a len cap zs _ 4 _ S3.out (by omega) (by omega) (by simp) (by omega) HL.out).mono ?_
    rintro e w4 ⟨x4, rfl, S4', G4⟩
    have S4 := hid S4'
    have X4 := X3.gk G4 (by omega)
    have R4 := R3.gk G4 (by omega)
    have H4 := H3.trans G4
    clear S4' G4 X3 R3 H3 S3
    clear HL
    have hxs : x2 = 0 ∨ x2 = 1 ∨ x2 = 2 ∨ x2 = 3 := by omega
    clear hx2 hy2
    obtain ⟨_, y0, y1, y2, y3, g0, g1, g2, g3⟩ := id X4
    rcases hxs with rfl | rfl | rfl | rfl
    · have XE := hid (X4.set0 x4)
      have RE := R4.oth (p := ⟨w.heap.size, 0, none⟩) (by simp) (.int .i64 x4)
      have SE := S4.out.up (p := ⟨w.heap.size, 0, none⟩) hl (.int .i64 x4)
      have HE := H4.up (p := ⟨w.heap.size, 0, none⟩) (Nat.le_refl _) (.int .i64 x4)
      obtain ⟨_, r0, r1, r2, r3, f0, f1, f2, f3⟩ := id R4
      go_wp2_with fail
      refine bodyPost_ret (res_A1 (e := 2) rfl Try.underlying42 (by kernel_rfl) rfl (by (repeat (first | with_reducible assumption | with_reducible exact Arr.box (by assumption) | with_reducible apply Arr.drew | with_reducible apply Arr.drewN | with_reducible refine Arr.store4 ?_ | with_reducible apply Arr.alloc | with_reducible refine Box.drew ?_ | with_reducible refine Box.drewN ?_ _ | with_reducible refine Box.alloc ?_ _ | refine Arr.oth ?_ (by first | (simp; done) | omega | (simp; omega)) _ | refine Box.oth ?_ (by first | (simp; done) | omega | (simp; omega)) _)))) rfl ?_
      exact ⟨_, _, _, _, rfl, SE.up4 (by omega) _ _ _ _, HE.up4 (by omega) _ _ _ _⟩
    · have XE := hid (X4.set1 x4)
      have RE := R4.oth (p := ⟨w.heap.size, 1, none⟩) (by simp) (.int .i64 x4)
      have SE := S4.out.up (p := ⟨w.heap.size, 1, none⟩) hl (.int .i64 x4)
      have HE := H4.up (p := ⟨w.heap.size, 1, none⟩) (Nat.le_refl _) (.int .i64 x4)
      obtain ⟨_, r0, r1, r2, r3, f0, f1, f2, f3⟩ := id R4
      go_wp2_with fail
      refine bodyPost_ret (res_A1 (e := 2) rfl Try.underlying42 (by kernel_rfl) rfl (by (repeat (first | with_reducible assumption | with_reducible exact Arr.box (by assumption) | with_reducible apply Arr.drew | with_reducible apply Arr.drewN | with_reducible refine Arr.store4 ?_ | with_reducible apply Arr.alloc | with_reducible refine Box.drew ?_ | with_reducible refine Box.drewN ?_ _ | with_reducible refine Box.alloc ?_ _ | refine Arr.oth ?_ (by first | (simp; done) | omega | (simp; omega)) _ | refine Box.oth ?_ (by first | (simp; done) | omega | (simp; omega)) _)))) rfl ?_
      exact ⟨_, _, _, _, rfl, SE.up4 (by omega) _ _ _ _, HE.up4 (by omega) _ _ _ _⟩
    · have XE := hid (X4.set2 x4)
      have RE := R4.oth (p := ⟨w.heap.size, 2, none⟩) (by simp) (.int .i64 x4)
      have SE := S4.out.up (p := ⟨w.heap.size, 2, none⟩) hl (.int .i64 x4)
      have HE := H4.up (p := ⟨w.heap.size, 2, none⟩) (Nat.le_refl _) (.int .i64 x4)
      obtain ⟨_, r0, r1, r2, r3, f0, f1, f2, f3⟩ := id R4
      go_wp2_with fail
      refine bodyPost_ret (res_A1 (e := 2) rfl Try.underlying42 (by kernel_rfl) rfl (by (repeat (first | with_reducible assumption | with_reducible exact Arr.box (by assumption) | with_reducible apply Arr.drew | with_reducible apply Arr.drewN | with_reducible refine Arr.store4 ?_ | with_reducible apply Arr.alloc | with_reducible refine Box.drew ?_ | with_reducible refine Box.drewN ?_ _ | with_reducible refine Box.alloc ?_ _ | refine Arr.oth ?_ (by first | (simp; done) | omega | (simp; omega)) _ | refine Box.oth ?_ (by first | (simp; done) | omega | (simp; omega)) _)))) rfl ?_
      exact ⟨_, _, _, _, rfl, SE.up4 (by omega) _ _ _ _, HE.up4 (by omega) _ _ _ _⟩
    · have XE := hid (X4.set3 x4)
      have RE := R4.oth (p := ⟨w.heap.size, 3, none⟩) (by simp) (.int .i64 x4)
      have SE := S4.out.up (p := ⟨w.heap.size, 3, none⟩) hl (.int .i64 x4)
      have HE := H4.up (p := ⟨w.heap.size, 3, none⟩) (Nat.le_refl _) (.int .i64 x4)
      obtain ⟨_, r0, r1, r2, r3, f0, f1, f2, f3⟩ := id R4
      go_wp2_with fail
      refine bodyPost_ret (res_A1 (e := 2) rfl Try.underlying42 (by kernel_rfl) rfl (by (repeat (first | with_reducible assumption | with_reducible exact Arr.box (by assumption) | with_reducible apply Arr.drew | with_reducible apply Arr.drewN | with_reducible refine Arr.store4 ?_ | with_reducible apply Arr.alloc | with_reducible refine Box.drew ?_ | with_reducible refine Box.drewN ?_ _ | with_reducible refine Box.alloc ?_ _ | refine Arr.oth ?_ (by first | (simp; done) | omega | (simp; omega)) _ | refine Box.oth ?_ (by first | (simp; done) | omega | (simp; omega)) _)))) rfl ?_
      exact ⟨_, _, _, _, rfl, SE.up4 (by omega) _ _ _ _, HE.up4 (by omega) _ _ _ _⟩
  · have hx' : (x1 == 0) = false := by simpa using hx
    clear hx
    obtain ⟨_, y0, y1, y2, y3, _⟩ := id X1
    obtain ⟨_, r0, r1, r2, r3, f0, f1, f2, f3⟩ := id R1
    go_wp2_with fail
    refine bodyPost_ret (res_A1 (e := 2) rfl Try.underlying42 (by kernel_rfl) rfl (by (repeat (first | with_reducible assumption | with_reducible exact Arr.box (by assumption) | with_reducible apply Arr.drew | with_reducible apply Arr.drewN | with_reducible refine Arr.store4 ?_ | with_reducible apply Arr.alloc | with_reducible refine Box.drew ?_ | with_reducible refine Box.drewN ?_ _ | with_reducible refine Box.alloc ?_ _ | refine Arr.oth ?_ (by first | (simp; done) | omega | (simp; omega)) _ | refine Box.oth ?_ (by first | (simp; done) | omega | (simp; omega)) _)))) rfl ?_
    exact ⟨_, _, _, _, rfl, S1.out.up4 (by omega) _ _ _ _, H1.up4 (by omega) _ _ _ _⟩

set_option maxRecDepth 100000 in
set_option maxHeartbeats 4000000 in
theorem spoil_any (k : Nat) (a : Option Addr) (len cap : Nat) (zs : List Int) (w : World) (hS : Src w k a len cap zs) :
    Calls Try.prog 84 #[.pointer (some ⟨k, 0, none⟩)] w (FrmPost k a len cap zs w) := by
  have hl := hS.lt
  have R0 := Arr.new w 0 0 0 0 42
  have S0 := hid (hS.alloc (.cells #[.int .i64 0, .int .i64 0, .int .i64 0, .int .i64 0] 42))
  have H0 := (Gk.refl k w).alloc (.cells #[.int .i64 0, .int .i64 0, .int .i64 0, .int .i64 0] 42)
  clear hS
  go_enter Try.func84, Try.ntmps84
  go_wp2_with fail
  refine (draw_any k a len cap zs _ S0.out).mono ?_
  rintro e w1 ⟨p1, q1, r1, s1, rfl, S1', G1⟩
  have S1 := hid S1'
  have R1 := R0.gk G1 (by omega)
  have H1 := H0.trans G1
  clear S1' G1 R0 H0 S0
  go_wp2_with fail
  refine (bad_any k a len cap zs _ _ _ _ _ S1.out).mono ?_
  rintro e w2 ⟨p2, q2, r2, s2, rfl, S2', G2⟩
  have S2 := hid S2'
  have R2 := R1.gk G2 (by omega)
  have H2 := H1.trans G2
  clear S2' G2 R1 H1 S1
  obtain ⟨_, r0, r1, r2, r3, f0, f1, f2, f3⟩ := id R2
  go_wp2_with fail
  refine bodyPost_ret (res_A1 (e := 2) rfl Try.underlying42 (by kernel_rfl) rfl (by (repeat (first | with_reducible assumption | with_reducible exact Arr.box (by assumption) | with_reducible apply Arr.drew | with_reducible apply Arr.drewN | with_reducible refine Arr.store4 ?_ | with_reducible apply Arr.alloc | with_reducible refine Box.drew ?_ | with_reducible refine Box.drewN ?_ _ | with_reducible refine Box.alloc ?_ _ | refine Arr.oth ?_ (by first | (simp; done) | omega | (simp; omega)) _ | refine Box.oth ?_ (by first | (simp; done) | omega | (simp; omega)) _)))) rfl ?_
  exact ⟨_, _, _, _, rfl, S2.out.up4 hl _ _ _ _, H2.up4 (Nat.le_refl _) _ _ _ _⟩


end Go.Proofs.Ytehbkmohfipmgaa
