/- Several texts in one: XDraw12, XAp, XRm. -/
import Derived.Test.YthheongdgcfngaaDoorDraw5
import Derived.StillTailTactics
import Derived.Deep.RegionHeld3
import Derived.Test.YthheongdgcfngaaDoorZ6
import Derived.Deep.AppendLies
import Derived.Test.YthheongdgcfngaaDoorZ8
import Derived.Test.YthheongdgcfngaaDoorZ4

/- Draws of chapter 5: rational roots, whether irreducible, the factor form (over XDraw5; what XDraw7, 8 and 10 hold, without the matrices). -/
namespace Go.Proofs.YthheongdgcfngaaDoor
open Go.ChangeShapes Go.WideShapes Go.ChangeAt Go.RowKit

theorem Src.new {w : World} {k : Nat} {a : Option Addr} {len cap : Nat} {zs : List Int} {h : Int} (hr : IsRow .u8 w a len cap zs) (hk : k = w.heap.size) :
    Src (w.alloc (.cells #[.slice a len cap, .int .i64 0, .int .u64 h] 112)) k a len cap zs := by
  subst hk
  have hb := (Below.refl w.heap.size w).alloc (Nat.le_refl _) (.cells #[.slice a len cap, .int .i64 0, .int .u64 h] 112)
  refine ⟨?_, fun x hx hz => ?_, by simp, by simp [go_sem], ⟨0, by omega, by omega, by simp [go_sem]⟩, ⟨h, by simp [go_sem]⟩, by simp [go_sem], by simp [go_sem], by simp [go_sem]⟩
  · rcases hr with h | ⟨x, h1, h2, h3, h4, h5, h6⟩
    · exact .inl h
    · exact .inr ⟨x, h1, h2, h3, h4, fun i hi => (hb.cell (p := x.add i) (World.block_lt_of_cell? w (x.add i) (h5 i hi))).trans (h5 i hi), h6⟩
  · rcases hr with ⟨h, _⟩ | ⟨y, h1, h2, h3, h4, h5, h6⟩
    · rw [h] at hx; cases hx
    · rw [h1] at hx; cases hx
      have hl : 0 < zs.length := List.length_pos_iff.2 hz
      have := World.block_lt_of_cell? w (x.add 0) (h5 0 hl)
      have hb : (x.add 0).block = x.block := by unfold Addr.add; split <;> rfl
      omega

/-- A source that is new. -/
def FromPost (a : Option Addr) (len cap : Nat) (zs : List Int) (w : World) (e : Ending) (w' : World) : Prop :=
  e = .returned (.pointer (some ⟨w.heap.size, 0, none⟩)) ∧ Src w' w.heap.size a len cap zs ∧ Below w.heap.size w w'

set_option maxRecDepth 100000 in
set_option maxHeartbeats 2000000 in
theorem from_any (a : Option Addr) (len cap : Nat) (zs : List Int) (w : World) (hR : IsRow .u8 w a len cap zs) (hlen : len ≤ 9223372036854775807) :
    Calls Tryd.prog 49 #[.slice a len cap] w (FromPost a len cap zs w) := by
  have HR := hid hR
  clear hR
  go_enter Tryd.func49, Tryd.ntmps49
  go_wp2_with fail
  go_loopw [4] (fun s4 wr => ∃ j : Nat, s4 = .int .i64 j ∧ j ≤ 4096 ∧ Src wr w.heap.size a len cap zs ∧ Below w.heap.size w wr) (fun s4 _ => 4096 - (intOf s4).toNat)
  case atStart => exact ⟨0, rfl, by omega, Src.new HR.out rfl, by (repeat' (first | with_reducible exact Below.refl _ _ | with_reducible assumption | with_reducible refine gr_alloc ?_ _ | with_reducible refine gr_drew ?_ | with_reducible refine gr_drewN ?_ _ | with_reducible refine gr_trans ?_ (by assumption) | with_reducible refine gr_set ?_ ?_ _ | (simp; done) | omega | (simp; omega)))⟩
  case round =>
    obtain ⟨j, rfl, hj, S0, B0⟩ := hrel
    have hl := S0.lt
    by_cases h1 : j < len
    · by_cases h2 : j < 4096
      · rcases S0.row with ⟨_, hl0, _⟩ | ⟨x, rfl, hlc, hcm, hz, hcell, hwz⟩
        · omega
        · have hcj := hcell j (by omega)
          have hbz := byte_bd (zs.getD j 0) (getD_wf hwz j (by omega))
          generalize zs.getD j 0 = z at hcj hbz
          obtain ⟨hz0, hz1⟩ := hbz
          obtain ⟨h, hh⟩ := S0.hash
          have f2 := S0.f2
          have HS := hid S0
          clear hcell hwz hz S0
          unfold maxLen at hcm
          go_upto_region 5 with fail
          go_still_tail 15, (by kernel_rfl)
          go_wp2
          go_roundw
          case rel => exact ⟨j + 1, by go_num, by omega, (HS.out.set2 _).below ((Below.refl _ _).drew), by (repeat' (first | with_reducible exact Below.refl _ _ | with_reducible assumption | with_reducible refine gr_alloc ?_ _ | with_reducible refine gr_drew ?_ | with_reducible refine gr_drewN ?_ _ | with_reducible refine gr_trans ?_ (by assumption) | with_reducible refine gr_set ?_ ?_ _ | (simp; done) | omega | (simp; omega)))⟩
          case measure => simp [intOf]; omega
      · have h2' : decide ((j : Int) < 4096) = false := decide_eq_false (by omega)
        have HS := hid S0
        clear S0
        go_wp2
        go_ret
        exact ⟨rfl, HS.out, B0⟩
    · have HS := hid S0
      clear S0
      go_wp2
      go_ret
      exact ⟨rfl, HS.out, B0⟩
def FrmOut (w : World) (e : Ending) (w' : World) : Prop := ∃ p q r s : Int, e = .returned (.agg #[.int .i64 p, .int .i64 q, .int .i64 r, .int .i64 s]) ∧ Below w.heap.size w w'
def TwoOut (w : World) (e : Ending) (w' : World) : Prop := ∃ p q r s p' q' r' s' : Int, e = .returned (.tuple #[.agg #[.int .i64 p, .int .i64 q, .int .i64 r, .int .i64 s], .agg #[.int .i64 p', .int .i64 q', .int .i64 r', .int .i64 s']]) ∧ Below w.heap.size w w'
theorem res_AA {P : Program} {fn : Func} {p p' : Tmp} {ty e ty' e' : TypeId} {tmps : Array Value} {w : World} {b b' : Nat} {x0 x1 x2 x3 y0 y1 y2 y3 : Int} (h : fn.results = #[.cell p ty, .cell p' ty']) (hu : P.underlying ty = some (.array 4 e)) (hi : (P.info? ty).map (·.size) = some 4)
    (hu' : P.underlying ty' = some (.array 4 e')) (hi' : (P.info? ty').map (·.size) = some 4) (hp : tmps.getD p undef = .pointer (some ⟨b, 0, none⟩)) (hp' : tmps.getD p' undef = .pointer (some ⟨b', 0, none⟩)) (hA : Arr w b x0 x1 x2 x3) (hB : Arr w b' y0 y1 y2 y3) :
    (results fn tmps).run P w = .ok (.tuple #[.agg #[.int .i64 x0, .int .i64 x1, .int .i64 x2, .int .i64 x3], .agg #[.int .i64 y0, .int .i64 y1, .int .i64 y2, .int .i64 y3]]) w := by
  have hq : tmps[p]?.getD undef = .pointer (some ⟨b, 0, none⟩) := by simpa using hp
  have hq' : tmps[p']?.getD undef = .pointer (some ⟨b', 0, none⟩) := by simpa using hp'
  simp [results, h, hq, hq', asAddr, loadVar4 w b ty e _ _ _ _ hu hi hA.c0 hA.c1 hA.c2 hA.c3, loadVar4 w b' ty' e' _ _ _ _ hu' hi' hB.c0 hB.c1 hB.c2 hB.c3]
theorem Arr.oth4 {w : World} {j i : Nat} {a b c d : Int} (h : Arr w j a b c d) (hne : j ≠ i) {x y z u : Value} : Arr ((((w.setCell ⟨i, 0, none⟩ x).setCell ⟨i, 1, none⟩ y).setCell ⟨i, 2, none⟩ z).setCell ⟨i, 3, none⟩ u) j a b c d :=
  (((h.oth (p := ⟨i, 0, none⟩) hne _).oth (p := ⟨i, 1, none⟩) hne _).oth (p := ⟨i, 2, none⟩) hne _).oth (p := ⟨i, 3, none⟩) hne _
theorem row8_next {w w' : World} {a : Option Addr} {len cap : Nat} {zs : List Int} (h : IsRow .u8 w a len cap zs) (hb : Below w.heap.size w w') : IsRow .u8 w' a len cap zs := by
  rcases h with h | ⟨x, h1, h2, h3, h4, h5, h6⟩
  · exact .inl h
  · exact .inr ⟨x, h1, h2, h3, h4, fun i hi => (hb.cell (p := x.add i) (World.block_lt_of_cell? w (x.add i) (h5 i hi))).trans (h5 i hi), h6⟩

theorem below_set6 {B : Nat} {w w' : World} (h : Below B w w') {p : Addr} (hp : B ≤ p.block) (u : Value) : Below B w (w'.setCell p u) := h.setCell hp u

set_option maxRecDepth 100000 in
set_option maxHeartbeats 4000000 in
theorem multiple_any (a : Option Addr) (len cap : Nat) (zs : List Int) (w : World) (hR : IsRow .u8 w a len cap zs) (hlen : len ≤ 9223372036854775807) :
    Calls Tryd.prog 60 #[.slice a len cap] w (FrmOut w) := by
  have R0 := Arr.new w 0 0 0 0 25
  have U0 := gr_alloc (Below.refl w.heap.size w) (.cells #[.int .i64 0, .int .i64 0, .int .i64 0, .int .i64 0] 25)
  have hR0 := row8_next hR U0
  clear hR
  go_enter Tryd.func60, Tryd.ntmps60
  go_wp2_with fail
  refine (from_any a len cap zs _ hR0 hlen).mono ?_
  rintro e w1 ⟨rfl, S1', hb1⟩
  have S1 := hid S1'
  have R1 := R0.next hb1
  have U1 := gr_trans U0 hb1
  clear S1' hR0 R0 U0 hb1
  simp only [World.size_alloc] at S1 ⊢
  generalize hk : w.heap.size + 1 = k at S1 ⊢
  go_wp2_with fail
  refine (draw_any _ a len cap zs _ S1.out).mono ?_
  rintro e w2 ⟨p, q, r, s, rfl, S2', G2⟩
  have R2 := R1.gk G2 (by omega)
  have U2 := Gk.out U1 G2 (by omega)
  clear S1 R1 U1 G2
  have hwl := R2.lt
  have hL := lit_cells w2 2 [0, 1, 2, 6, 15]
  have HL := hid hL
  clear hL
  have S3 := hid (S2'.alloc (.cells #[.int .i64 0, .int .i64 1, .int .i64 2, .int .i64 6, .int .i64 15] 2))
  have R3 := R2.alloc (.cells #[.int .i64 0, .int .i64 1, .int .i64 2, .int .i64 6, .int .i64 15] 2)
  have U3 := gr_alloc U2 (.cells #[.int .i64 0, .int .i64 1, .int .i64 2, .int .i64 6, .int .i64 15] 2)
  have hk2 := S2'.lt
  clear S2' R2 U2
  go_wp2_with fail
  refine (pick_any k a len cap zs _ 5 _ S3.out (by omega) (by omega) (by simp) (by omega) HL.out).mono ?_
  rintro e w4 ⟨x4, rfl, S4', G4⟩
  have R4 := R3.gk G4 (by omega)
  have U4 := Gk.out U3 G4 (by omega)
  have hk4 := S4'.lt
  have hR4 := R4.lt
  have X5 := Arr.new w4 p q r s 25
  have S5 := hid (S4'.alloc (.cells #[.int .i64 p, .int .i64 q, .int .i64 r, .int .i64 s] 25))
  have R5 := R4.alloc (.cells #[.int .i64 p, .int .i64 q, .int .i64 r, .int .i64 s] 25)
  have U5 := gr_alloc U4 (.cells #[.int .i64 p, .int .i64 q, .int .i64 r, .int .i64 s] 25)
  clear S3 R3 U3 G4 S4' R4 U4 HL hwl hk2
  obtain ⟨j, hj⟩ : ∃ j, j = w4.heap.size := ⟨_, rfl⟩
  rw [← hj] at X5 hk4 hR4
  go_wp2_with fail
  rw [← hj]
  generalize w4.alloc (.cells #[.int .i64 p, .int .i64 q, .int .i64 r, .int .i64 s] 25) = W5 at X5 S5 R5 U5 ⊢
  clear hj
  go_loopw [6] (fun s6 wr => ∃ (i : Nat), s6 = .int .i64 i ∧ i ≤ 4 ∧ Box wr j ∧ Arr wr w.heap.size 0 0 0 0 ∧ Hid (Src wr k a len cap zs) ∧ Below w.heap.size w wr) (fun s6 _ => 4 - (intOf s6).toNat)
  case atStart => exact ⟨0, rfl, by omega, X5.box, R5, S5, U5⟩
  case round =>
    obtain ⟨i, rfl, hi, ⟨y0, y1, y2, y3, X6⟩, R6, S6, U6⟩ := hrel
    clear X5 R5 S5 U5
    have hi' : i = 0 ∨ i = 1 ∨ i = 2 ∨ i = 3 ∨ i = 4 := by omega
    have hbel : w.heap.size ≤ j := by omega
    obtain ⟨_, c0, c1, c2, c3, g0, g1, g2, g3⟩ := id X6
    rcases hi' with rfl | rfl | rfl | rfl | rfl
    · go_wp2_with (go_at_call 53; refine (l01In_any _ _ _ _).mono ?_; rintro e w7 ⟨rfl, rfl⟩)
      · go_roundw
        case rel => exact ⟨1, rfl, by omega, Arr.box (X6.set0 _), R6.oth (by simp; omega) _, hid (S6.out.up (by simp; omega) _), below_set6 U6 hbel _⟩
        case measure => simp [intOf]
      · go_roundw
        case rel => exact ⟨1, rfl, by omega, X6.box, R6, S6, U6⟩
        case measure => simp [intOf]
    · go_wp2_with (go_at_call 53; refine (l01In_any _ _ _ _).mono ?_; rintro e w7 ⟨rfl, rfl⟩)
      · go_roundw
        case rel => exact ⟨2, rfl, by omega, Arr.box (X6.set1 _), R6.oth (by simp; omega) _, hid (S6.out.up (by simp; omega) _), below_set6 U6 hbel _⟩
        case measure => simp [intOf]
      · go_roundw
        case rel => exact ⟨2, rfl, by omega, X6.box, R6, S6, U6⟩
        case measure => simp [intOf]
    · go_wp2_with (go_at_call 53; refine (l01In_any _ _ _ _).mono ?_; rintro e w7 ⟨rfl, rfl⟩)
      · go_roundw
        case rel => exact ⟨3, rfl, by omega, Arr.box (X6.set2 _), R6.oth (by simp; omega) _, hid (S6.out.up (by simp; omega) _), below_set6 U6 hbel _⟩
        case measure => simp [intOf]
      · go_roundw
        case rel => exact ⟨3, rfl, by omega, X6.box, R6, S6, U6⟩
        case measure => simp [intOf]
    · go_wp2_with (go_at_call 53; refine (l01In_any _ _ _ _).mono ?_; rintro e w7 ⟨rfl, rfl⟩)
      · go_roundw
        case rel => exact ⟨4, rfl, by omega, Arr.box (X6.set3 _), R6.oth (by simp; omega) _, hid (S6.out.up (by simp; omega) _), below_set6 U6 hbel _⟩
        case measure => simp [intOf]
      · go_roundw
        case rel => exact ⟨4, rfl, by omega, X6.box, R6, S6, U6⟩
        case measure => simp [intOf]
    · go_wp2_with fail
      refine (bad_any k a len cap zs y0 y1 y2 y3 _ S6.out).mono ?_
      rintro e w7 ⟨p7, q7, r7, s7, rfl, S7, G7⟩
      have R7 := R6.gk G7 (by omega)
      have U7 := Gk.out U6 G7 (by omega)
      obtain ⟨_, r0, r1, r2, r3, f0, f1, f2, f3⟩ := id R7
      go_wp2_with fail
      refine bodyPost_ret (res_A1 (e := 2) rfl Tryd.underlying25 (by kernel_rfl) rfl (by (repeat (first | with_reducible assumption | with_reducible exact Arr.box (by assumption) | with_reducible exact Box.new _ _ _ _ _ _ | with_reducible exact Arr.new _ _ _ _ _ _ | with_reducible refine Arr.drew ?_ | with_reducible refine Arr.drewN ?_ _ | with_reducible refine Arr.store4 ?_ | with_reducible refine Arr.alloc ?_ _ | with_reducible refine Box.drew ?_ | with_reducible refine Box.drewN ?_ _ | with_reducible refine Box.alloc ?_ _ | with_reducible refine Arr.next ?_ (by assumption) | with_reducible refine Box.next ?_ (by assumption) | refine Arr.oth ?_ (by first | (simp; done) | omega | (simp; omega)) _ | refine Box.oth ?_ (by first | (simp; done) | omega | (simp; omega)) _)))) rfl ?_
      exact ⟨_, _, _, _, rfl, by (repeat' (first | with_reducible exact Below.refl _ _ | with_reducible assumption | with_reducible refine gr_alloc ?_ _ | with_reducible refine gr_drew ?_ | with_reducible refine gr_drewN ?_ _ | with_reducible refine gr_trans ?_ (by assumption) | with_reducible refine gr_set ?_ ?_ _ | (simp; done) | omega | (simp; omega)))⟩

set_option maxHeartbeats 1000000 in
theorem drawRR_any (a : Option Addr) (len cap : Nat) (zs : List Int) (w : World) (hR : IsRow .u8 w a len cap zs) (hlen : len ≤ 9223372036854775807) :
    Calls Tryd.prog 28 #[.slice a len cap] w (FrmOut w) := by
  have R0 := Arr.new w 0 0 0 0 25
  have U0 := gr_alloc (Below.refl w.heap.size w) (.cells #[.int .i64 0, .int .i64 0, .int .i64 0, .int .i64 0] 25)
  have hR0 := row8_next hR U0
  clear hR
  go_enter Tryd.func28, Tryd.ntmps28
  go_wp2_with fail
  refine (from_any a len cap zs _ hR0 hlen).mono ?_
  rintro e w1 ⟨rfl, S1', hb1⟩
  have S1 := hid S1'
  have R1 := R0.next hb1
  have U1 := gr_trans U0 hb1
  clear S1' hR0 R0 U0 hb1
  simp only [World.size_alloc] at S1 ⊢
  go_wp2_with fail
  refine (spoil_any _ a len cap zs _ S1.out).mono ?_
  rintro e w2 ⟨p, q, r, s, rfl, S2, G2⟩
  have R2 := R1.gk G2 (by omega)
  have U2 := Gk.out U1 G2 (by omega)
  clear S1 S2 R1 U1 G2
  obtain ⟨_, r0, r1, r2, r3, f0, f1, f2, f3⟩ := id R2
  go_wp2_with fail
  refine bodyPost_ret (res_A1 (e := 2) rfl Tryd.underlying25 (by kernel_rfl) rfl (by (repeat (first | with_reducible assumption | with_reducible exact Arr.box (by assumption) | with_reducible exact Box.new _ _ _ _ _ _ | with_reducible exact Arr.new _ _ _ _ _ _ | with_reducible refine Arr.drew ?_ | with_reducible refine Arr.drewN ?_ _ | with_reducible refine Arr.store4 ?_ | with_reducible refine Arr.alloc ?_ _ | with_reducible refine Box.drew ?_ | with_reducible refine Box.drewN ?_ _ | with_reducible refine Box.alloc ?_ _ | with_reducible refine Arr.next ?_ (by assumption) | with_reducible refine Box.next ?_ (by assumption) | refine Arr.oth ?_ (by first | (simp; done) | omega | (simp; omega)) _ | refine Box.oth ?_ (by first | (simp; done) | omega | (simp; omega)) _ | with_reducible exact Arr3.box (by assumption) | with_reducible exact Box3.new _ _ _ _ _ | with_reducible exact Arr3.new _ _ _ _ _ | with_reducible refine Arr3.drew ?_ | with_reducible refine Arr3.drewN ?_ _ | with_reducible refine Arr3.store3 ?_ | with_reducible refine Arr3.alloc ?_ _ | with_reducible refine Box3.drew ?_ | with_reducible refine Box3.drewN ?_ _ | with_reducible refine Box3.alloc ?_ _ | with_reducible refine Arr3.next ?_ (by assumption) | with_reducible refine Box3.next ?_ (by assumption) | refine Arr3.oth ?_ (by first | (simp; done) | omega | (simp; omega)) _ | refine Box3.oth ?_ (by first | (simp; done) | omega | (simp; omega)) _)))) rfl ?_
  exact ⟨_, _, _, _, rfl, by (repeat' (first | with_reducible exact Below.refl _ _ | with_reducible assumption | with_reducible refine gr_alloc ?_ _ | with_reducible refine gr_drew ?_ | with_reducible refine gr_drewN ?_ _ | with_reducible refine gr_trans ?_ (by assumption) | with_reducible refine gr_set ?_ ?_ _ | (simp; done) | omega | (simp; omega)))⟩

set_option maxHeartbeats 1000000 in
theorem drawIr_any (a : Option Addr) (len cap : Nat) (zs : List Int) (w : World) (hR : IsRow .u8 w a len cap zs) (hlen : len ≤ 9223372036854775807) :
    Calls Tryd.prog 33 #[.slice a len cap] w (FrmOut w) := by
  have R0 := Arr.new w 0 0 0 0 25
  have U0 := gr_alloc (Below.refl w.heap.size w) (.cells #[.int .i64 0, .int .i64 0, .int .i64 0, .int .i64 0] 25)
  have hR0 := row8_next hR U0
  clear hR
  go_enter Tryd.func33, Tryd.ntmps33
  go_wp2_with fail
  refine (from_any a len cap zs _ hR0 hlen).mono ?_
  rintro e w1 ⟨rfl, S1', hb1⟩
  have S1 := hid S1'
  have R1 := R0.next hb1
  have U1 := gr_trans U0 hb1
  clear S1' hR0 R0 U0 hb1
  simp only [World.size_alloc] at S1 ⊢
  go_wp2_with fail
  refine (spoil_any _ a len cap zs _ S1.out).mono ?_
  rintro e w2 ⟨p, q, r, s, rfl, S2, G2⟩
  have R2 := R1.gk G2 (by omega)
  have U2 := Gk.out U1 G2 (by omega)
  clear S1 S2 R1 U1 G2
  obtain ⟨_, r0, r1, r2, r3, f0, f1, f2, f3⟩ := id R2
  go_wp2_with fail
  refine bodyPost_ret (res_A1 (e := 2) rfl Tryd.underlying25 (by kernel_rfl) rfl (by (repeat (first | with_reducible assumption | with_reducible exact Arr.box (by assumption) | with_reducible exact Box.new _ _ _ _ _ _ | with_reducible exact Arr.new _ _ _ _ _ _ | with_reducible refine Arr.drew ?_ | with_reducible refine Arr.drewN ?_ _ | with_reducible refine Arr.store4 ?_ | with_reducible refine Arr.alloc ?_ _ | with_reducible refine Box.drew ?_ | with_reducible refine Box.drewN ?_ _ | with_reducible refine Box.alloc ?_ _ | with_reducible refine Arr.next ?_ (by assumption) | with_reducible refine Box.next ?_ (by assumption) | refine Arr.oth ?_ (by first | (simp; done) | omega | (simp; omega)) _ | refine Box.oth ?_ (by first | (simp; done) | omega | (simp; omega)) _ | with_reducible exact Arr3.box (by assumption) | with_reducible exact Box3.new _ _ _ _ _ | with_reducible exact Arr3.new _ _ _ _ _ | with_reducible refine Arr3.drew ?_ | with_reducible refine Arr3.drewN ?_ _ | with_reducible refine Arr3.store3 ?_ | with_reducible refine Arr3.alloc ?_ _ | with_reducible refine Box3.drew ?_ | with_reducible refine Box3.drewN ?_ _ | with_reducible refine Box3.alloc ?_ _ | with_reducible refine Arr3.next ?_ (by assumption) | with_reducible refine Box3.next ?_ (by assumption) | refine Arr3.oth ?_ (by first | (simp; done) | omega | (simp; omega)) _ | refine Box3.oth ?_ (by first | (simp; done) | omega | (simp; omega)) _)))) rfl ?_
  exact ⟨_, _, _, _, rfl, by (repeat' (first | with_reducible exact Below.refl _ _ | with_reducible assumption | with_reducible refine gr_alloc ?_ _ | with_reducible refine gr_drew ?_ | with_reducible refine gr_drewN ?_ _ | with_reducible refine gr_trans ?_ (by assumption) | with_reducible refine gr_set ?_ ?_ _ | (simp; done) | omega | (simp; omega)))⟩

set_option maxHeartbeats 1000000 in
theorem drawFF_any (a : Option Addr) (len cap : Nat) (zs : List Int) (w : World) (hR : IsRow .u8 w a len cap zs) (hlen : len ≤ 9223372036854775807) :
    Calls Tryd.prog 25 #[.slice a len cap] w (FrmOut w) := by
  have R0 := Arr.new w 0 0 0 0 25
  have U0 := gr_alloc (Below.refl w.heap.size w) (.cells #[.int .i64 0, .int .i64 0, .int .i64 0, .int .i64 0] 25)
  have hR0 := row8_next hR U0
  clear hR
  go_enter Tryd.func25, Tryd.ntmps25
  go_wp2_with fail
  refine (multiple_any a len cap zs _ hR0 hlen).mono ?_
  rintro e w1 ⟨p, q, r, s, rfl, hb1⟩
  have R1 := R0.next hb1
  have U1 := gr_trans U0 hb1
  clear R0 U0
  obtain ⟨_, r0, r1, r2, r3, f0, f1, f2, f3⟩ := id R1
  go_wp2_with fail
  refine bodyPost_ret (res_A1 (e := 2) rfl Tryd.underlying25 (by kernel_rfl) rfl (by (repeat (first | with_reducible assumption | with_reducible exact Arr.box (by assumption) | with_reducible exact Box.new _ _ _ _ _ _ | with_reducible exact Arr.new _ _ _ _ _ _ | with_reducible refine Arr.drew ?_ | with_reducible refine Arr.drewN ?_ _ | with_reducible refine Arr.store4 ?_ | with_reducible refine Arr.alloc ?_ _ | with_reducible refine Box.drew ?_ | with_reducible refine Box.drewN ?_ _ | with_reducible refine Box.alloc ?_ _ | with_reducible refine Arr.next ?_ (by assumption) | with_reducible refine Box.next ?_ (by assumption) | refine Arr.oth ?_ (by first | (simp; done) | omega | (simp; omega)) _ | refine Box.oth ?_ (by first | (simp; done) | omega | (simp; omega)) _)))) rfl ?_
  exact ⟨_, _, _, _, rfl, by (repeat' (first | with_reducible exact Below.refl _ _ | with_reducible assumption | with_reducible refine gr_alloc ?_ _ | with_reducible refine gr_drew ?_ | with_reducible refine gr_drewN ?_ _ | with_reducible refine gr_trans ?_ (by assumption) | with_reducible refine gr_set ?_ ?_ _ | (simp; done) | omega | (simp; omega)))⟩

end Go.Proofs.YthheongdgcfngaaDoor

/- Appends to rows of the call's own, with all that they ask. -/
namespace Go.Proofs.YthheongdgcfngaaDoor
open Go.RowKit

/-- append(out, z), out a row of integers of the call's own: z lies in the newest block. -/
theorem app_i64 {ops : Array Oper} {rest : List Oper} {o : Oper} {a : Act} {Q : Exit → Act → World → Prop} {w : World} {T : TypeId} (hgd : o.guard = none) (s x : Operand)
    (ho : o.op = .call { callee := .builtin .append, args := #[s, x], argTypes := #[35, 35] }) (base : Nat) {v : Value} {n : Nat} {xs : List Value} (hs : a.eval s = v) (hown : w.ownsRow base 2 1 v n xs)
    {z : Int} (hx : a.eval x = .slice (some ⟨w.heap.size, 0, none⟩) 1 1) (hn : n ≤ 1000000000) (hbase : base ≤ w.heap.size)
    (h : ∀ v' w', w'.ownsRow base 2 1 v' (n + 1) (xs ++ [.int .i64 z]) → (w.alloc (.cells #[.int .i64 z] T)).grownBy w' v.ownBlock → wpList Tryd.prog ops Q rest (a.put o.dst v') w') : wpList Tryd.prog ops Q (o :: rest) a (w.alloc (.cells #[.int .i64 z] T)) := by
  obtain ⟨i0, hi, hi0, hi1, hi2⟩ := info_parts info_l64
  refine wpList_append_own _ hgd s x 35 ho base 2 i0 (.int .i64 0) 1 8 Tryd.underlying35 hi hi0 hi1 hi2 rfl (by decide) v n xs hs (hown.alloc _) ⟨w.heap.size, 0, none⟩ 1 1 [.int .i64 z] hx rfl ?_ ?_ ?_ ?_ ?_ (fun v' w' h1 h2 _ => h v' w' h1 h2)
  · intro j u hj
    match j, hj with
    | 0, hj => simp at hj; subst hj; simp [Addr.add, go_sem]
  · intro u hu; simp at hu; subst hu; rfl
  · unfold maxLen; omega
  · omega
  · simp; omega

/-- .. the newest block told by its number. -/
theorem app_i64n {ops : Array Oper} {rest : List Oper} {o : Oper} {a : Act} {Q : Exit → Act → World → Prop} {w : World} {T : TypeId} (hgd : o.guard = none) (s x : Operand)
    (ho : o.op = .call { callee := .builtin .append, args := #[s, x], argTypes := #[35, 35] }) (base N : Nat) {v : Value} {n : Nat} {xs : List Value} (hs : a.eval s = v) (hown : w.ownsRow base 2 1 v n xs)
    {z : Int} (hx : a.eval x = .slice (some ⟨N, 0, none⟩) 1 1) (hN : N = w.heap.size) (hn : n ≤ 1000000000) (hbase : base ≤ w.heap.size)
    (h : ∀ v' w', w'.ownsRow base 2 1 v' (n + 1) (xs ++ [.int .i64 z]) → (w.alloc (.cells #[.int .i64 z] T)).grownBy w' v.ownBlock → wpList Tryd.prog ops Q rest (a.put o.dst v') w') : wpList Tryd.prog ops Q (o :: rest) a (w.alloc (.cells #[.int .i64 z] T)) := by
  subst hN
  exact app_i64 hgd s x ho base hs hown hx hn hbase h

/-- .. in a region that draws its order. -/
theorem step_i64 {ops : Array Oper} {o : Oper} {a : Act} {K : Act → World → Prop} {Q : Exit → Act → World → Prop} {E : Prop} {w : World} {T : TypeId} (hgd : o.guard = none) (s x : Operand)
    (ho : o.op = .call { callee := .builtin .append, args := #[s, x], argTypes := #[35, 35] }) (base : Nat) (v : Value) {n : Nat} {xs : List Value} (hs : a.eval s = v) (hown : w.ownsRow base 2 1 v n xs)
    (z : Int) (hx : a.eval x = .slice (some ⟨w.heap.size, 0, none⟩) 1 1) (hn : n ≤ 1000000000) (hbase : base ≤ w.heap.size)
    (h : ∀ g cap w', w'.ownsRow base 2 1 (.slice (some ⟨g, 0, none⟩) (n + 1) cap) (n + 1) (xs ++ [.int .i64 z]) → (w.alloc (.cells #[.int .i64 z] T)).grownBy w' v.ownBlock → K (a.put o.dst (.slice (some ⟨g, 0, none⟩) (n + 1) cap)) w') :
    if Region.wanted o (yielded ops a.tmps) = true then Oper.wp Tryd.prog o a (w.alloc (.cells #[.int .i64 z] T)) K Q else E := by
  obtain ⟨i0, hi, hi0, hi1, hi2⟩ := info_parts info_l64
  refine step_append_lies _ hgd s x 35 ho base 2 i0 (.int .i64 0) 1 8 Tryd.underlying35 hi hi0 hi1 hi2 rfl (by decide) v n xs hs (hown.alloc _) ⟨w.heap.size, 0, none⟩ 1 1 [.int .i64 z] hx rfl ?_ ?_ (by decide) ?_ ?_ ?_ _ rfl (fun g cap w' h1 h2 _ _ => h g cap w' h1 h2)
  · intro j u hj
    match j, hj with
    | 0, hj => simp at hj; subst hj; simp [Addr.add, go_sem]
  · intro u hu; simp at hu; subst hu; rfl
  · unfold maxLen; omega
  · omega
  · simp; omega


end Go.Proofs.YthheongdgcfngaaDoor

/- Chapter 5: multiplicities modulo a prime, both sides' the same. Mathematics; no Go function in sight. -/
namespace Go.Proofs.YthheongdgcfngaaDoor
open Go.RowKit

theorem mul0_d (n m : Int) : mul0 n m = decide (m ∣ n) := by
  unfold mul0
  split
  · rename_i h; subst h; rw [Bool.eq_iff_iff]; simp [Int.zero_dvd]
  · rw [Bool.eq_iff_iff]; simp [Int.dvd_iff_tmod_eq_zero]
theorem wr_0 : wrap64 0 = 0 := wr_in (by omega)
theorem wr_1 : wrap64 1 = 1 := wr_in (by omega)
theorem wr_wr (x : Int) : wrap64 (wrap64 x) = wrap64 x := by simpa using wr_al x 0
theorem nv0 (a b c d x : Int) : nva [a, b, c, d] x 1 = wrap64 (a * x * x * x + b * x * x + c * x + d) := by
  simp only [nva, List.foldl, nst, pl, mu, wr_al, wr_ar, wr_ml, wr_mr]
  congr 1; grind
theorem dv0 (a b c d x : Int) : dvd [a, b, c, d] x 1 = [wrap64 a, wrap64 (b + x * a), wrap64 (c + x * (b + x * a))] := by
  simp only [dvd, show ¬ ((1 : Int) = 0) by decide, if_false, List.dropLast, List.foldl, dst, pl, mu, Int.tdiv_one, wr_wr, wr_ar, wr_mr, List.nil_append, List.cons_append]
  congr 1
  · congr 1; grind
  · congr 1
    · apply congrArg; grind
    · congr 1; apply congrArg; grind
theorem dv1 (a b c x : Int) : dvd [a, b, c] x 1 = [wrap64 a, wrap64 (b + x * a)] := by
  simp only [dvd, show ¬ ((1 : Int) = 0) by decide, if_false, List.dropLast, List.foldl, dst, pl, mu, Int.tdiv_one, wr_wr, wr_ar, wr_mr, List.nil_append, List.cons_append]
  congr 1
  · congr 1; grind
  · congr 1; apply congrArg; grind
theorem dv2 (a b x : Int) : dvd [a, b] x 1 = [wrap64 a] := by
  simp only [dvd, show ¬ ((1 : Int) = 0) by decide, if_false, List.dropLast, List.foldl, dst, pl, mu, Int.tdiv_one, wr_wr, wr_ar, List.nil_append]
  congr 1; congr 1; grind
theorem nv1 (a b c x : Int) : nva [a, b, c] x 1 = wrap64 (a * x * x + b * x + c) := by
  simp only [nva, List.foldl, nst, pl, mu, wr_al, wr_ar, wr_ml, wr_mr]
  congr 1; grind
theorem nv2 (a b x : Int) : nva [a, b] x 1 = wrap64 (a * x + b) := by
  simp only [nva, List.foldl, nst, pl, mu, wr_al, wr_ar, wr_ml, wr_mr]
  congr 1; grind
theorem nv3 (a x : Int) : nva [a] x 1 = wrap64 a := by
  simp only [nva, List.foldl, nst, pl, mu, wr_al, wr_ar]
  congr 1; grind
/-- The three lower numbers of the form moved to a point x, 1: the value, the slope, half the second slope. -/
def g3 (a b c d x : Int) : Int := a * x * x * x + b * x * x + c * x + d
def g2 (a b c x : Int) : Int := 3 * a * x * x + 2 * b * x + c
def g1 (a b x : Int) : Int := 3 * a * x + b
/-- The multiplicity out of these. -/
def mm3 (p u v t : Int) : Nat := if ¬ p ∣ t then 0 else if ¬ p ∣ v then 1 else if ¬ p ∣ u then 2 else 3
theorem lvs {a b c d x : Int} (ha : -1000 ≤ a ∧ a ≤ 1000) (hb : -1000 ≤ b ∧ b ≤ 1000) (hc : -1000 ≤ c ∧ c ≤ 1000) (hd : -1000 ≤ d ∧ d ≤ 1000) (hx : -96 ≤ x ∧ x ≤ 96) :
    nva [a, b, c, d] x 1 = g3 a b c d x ∧ nva (dvd [a, b, c, d] x 1) x 1 = g2 a b c x ∧ nva (dvd (dvd [a, b, c, d] x 1) x 1) x 1 = g1 a b x ∧ nva (dvd (dvd (dvd [a, b, c, d] x 1) x 1) x 1) x 1 = a := by
  have h1 := mulb hx ha
  have h2 := mulb hx (y := b + x * a) (B := 97000) (by omega)
  have h3 := mulb hx (y := c + x * (b + x * a)) (B := 10000000) (by omega)
  have e0 : dvd [a, b, c, d] x 1 = [a, b + x * a, c + x * (b + x * a)] := by
    rw [dv0, wr_in (by omega), wr_in (by omega), wr_in (by omega)]
  have e1 : dvd [a, b + x * a, c + x * (b + x * a)] x 1 = [a, b + x * a + x * a] := by
    rw [dv1, wr_in (by omega), wr_in (by omega)]
  have e2 : dvd [a, b + x * a + x * a] x 1 = [a] := by
    rw [dv2, wr_in (by omega)]
  have p1 : a * x * x * x + b * x * x + c * x + d = d + x * (c + x * (b + x * a)) := by grind
  have q2 := mulb hx (y := b + x * a + x * a) (B := 200000) (by omega)
  have p2 : a * x * x + (b + x * a) * x + (c + x * (b + x * a)) = (c + x * (b + x * a)) + x * (b + x * a + x * a) := by grind
  have p3 : a * x + (b + x * a + x * a) = x * a + (b + x * a + x * a) := by grind
  refine ⟨?_, ?_, ?_, ?_⟩
  · rw [nv0, wr_in (by rw [p1]; omega)]; rfl
  · rw [e0, nv1, wr_in (by rw [p2]; omega)]; unfold g2; grind
  · rw [e0, e1, nv2, wr_in (by rw [p3]; omega)]; unfold g1; grind
  · rw [e0, e1, e2, nv3, wr_in (by omega)]
theorem lvs0 {a b c d : Int} (ha : -1000 ≤ a ∧ a ≤ 1000) (hb : -1000 ≤ b ∧ b ≤ 1000) (hc : -1000 ≤ c ∧ c ≤ 1000) (hd : -1000 ≤ d ∧ d ≤ 1000) :
    nva [a, b, c, d] 1 0 = a ∧ nva (dvd [a, b, c, d] 1 0) 1 0 = -b ∧ nva (dvd (dvd [a, b, c, d] 1 0) 1 0) 1 0 = c ∧ nva (dvd (dvd (dvd [a, b, c, d] 1 0) 1 0) 1 0) 1 0 = -d := by
  have e0 : dvd [a, b, c, d] 1 0 = [-b, -c, -d] := by
    simp only [dvd, if_true, List.drop, List.map]
    rw [wr_in (by omega), wr_in (by omega), wr_in (by omega)]
  have e1 : dvd [-b, -c, -d] 1 0 = [c, d] := by
    simp only [dvd, if_true, List.drop, List.map, Int.neg_neg]
    rw [wr_in (by omega), wr_in (by omega)]
  have e2 : dvd [c, d] 1 0 = [-d] := by
    simp only [dvd, if_true, List.drop, List.map]
    rw [wr_in (by omega)]
  have n4 : ∀ u v s t : Int, nva [u, v, s, t] 1 0 = wrap64 u := fun u v s t => by
    simp only [nva, List.foldl, nst, pl, mu, Int.mul_one, Int.mul_zero, Int.zero_add, Int.add_zero, wr_wr, wr_0]
  have n3 : ∀ u v s : Int, nva [u, v, s] 1 0 = wrap64 u := fun u v s => by
    simp only [nva, List.foldl, nst, pl, mu, Int.mul_one, Int.mul_zero, Int.zero_add, Int.add_zero, wr_wr, wr_0]
  have n2 : ∀ u v : Int, nva [u, v] 1 0 = wrap64 u := fun u v => by
    simp only [nva, List.foldl, nst, pl, mu, Int.mul_one, Int.mul_zero, Int.zero_add, Int.add_zero, wr_wr, wr_0]
  have n1 : ∀ u : Int, nva [u] 1 0 = wrap64 u := fun u => by
    simp only [nva, List.foldl, nst, pl, mu, Int.mul_one, Int.mul_zero, Int.zero_add, wr_wr, wr_0]
  refine ⟨?_, ?_, ?_, ?_⟩
  · rw [n4, wr_in (by omega)]
  · rw [e0, n3, wr_in (by omega)]
  · rw [e0, e1, n2, wr_in (by omega)]
  · rw [e0, e1, e2, n1, wr_in (by omega)]
/-- Not all four numbers are multiples. -/
theorem cnt_dvd {p a b c d : Int} : p ∣ cnt a b c d ↔ p ∣ a ∧ p ∣ b ∧ p ∣ c ∧ p ∣ d := by
  simp only [cnt, Int.dvd_coe_gcd_iff]
  constructor
  · rintro ⟨⟨h1, h2⟩, h3, h4⟩; exact ⟨h1, h2, h3, h4⟩
  · rintro ⟨h1, h2, h3, h4⟩; exact ⟨⟨h1, h2⟩, h3, h4⟩
theorem g_null {p a b c d x : Int} (h3 : p ∣ g3 a b c d x) (h2 : p ∣ g2 a b c x) (h1 : p ∣ g1 a b x) (h0 : p ∣ a) : p ∣ a ∧ p ∣ b ∧ p ∣ c ∧ p ∣ d := by
  have hb : p ∣ b := by
    have e : b = g1 a b x - a * (3 * x) := by unfold g1; grind
    rw [e]; exact Int.dvd_sub h1 (Int.dvd_mul_of_dvd_left h0)
  have hc : p ∣ c := by
    have e : c = g2 a b c x - (a * (3 * x * x) + b * (2 * x)) := by unfold g2; grind
    rw [e]; exact Int.dvd_sub h2 (Int.dvd_add (Int.dvd_mul_of_dvd_left h0) (Int.dvd_mul_of_dvd_left hb))
  have hd : p ∣ d := by
    have e : d = g3 a b c d x - (a * (x * x * x) + b * (x * x) + c * x) := by unfold g3; grind
    rw [e]; exact Int.dvd_sub h3 (Int.dvd_add (Int.dvd_add (Int.dvd_mul_of_dvd_left h0) (Int.dvd_mul_of_dvd_left hb)) (Int.dvd_mul_of_dvd_left hc))
  exact ⟨h0, hb, hc, hd⟩
theorem mlt_of {m x y : Int} {L : List Int} {u v t z : Int} (h0 : nva L x y = t) (h1 : nva (dvd L x y) x y = v) (h2 : nva (dvd (dvd L x y) x y) x y = u) (h3 : nva (dvd (dvd (dvd L x y) x y) x y) x y = z) (hz : ¬ (m ∣ t ∧ m ∣ v ∧ m ∣ u ∧ m ∣ z)) :
    mlt m x y 4 L = mm3 m u v t ∧ stp m x y 4 L = true := by
  simp only [mlt, stp, h0, h1, h2, h3, mul0_d, mm3]
  by_cases a : m ∣ t
  · by_cases b : m ∣ v
    · by_cases c : m ∣ u
      · have d : ¬ m ∣ z := fun d => hz ⟨a, b, c, d⟩
        simp [a, b, c, d]
      · simp [a, b, c]
    · simp [a, b]
  · simp [a]
/-- The multiplicity at a point, as the model has it. -/
def mmu (p a b c d x y : Int) : Nat := if y = 0 then mm3 p c b a else mm3 p (g1 a b x) (g2 a b c x) (g3 a b c d x)
theorem mm3_neg {p u v t : Int} : mm3 p u (-v) t = mm3 p u v t := by simp [mm3, Int.dvd_neg]
theorem mlt_1 {p a b c d x : Int} (ha : -1000 ≤ a ∧ a ≤ 1000) (hb : -1000 ≤ b ∧ b ≤ 1000) (hc : -1000 ≤ c ∧ c ≤ 1000) (hd : -1000 ≤ d ∧ d ≤ 1000) (hx : -96 ≤ x ∧ x ≤ 96) (hn : mul0 (cnt a b c d) p = false) :
    mlt p x 1 4 [a, b, c, d] = mmu p a b c d x 1 ∧ stp p x 1 4 [a, b, c, d] = true := by
  obtain ⟨e0, e1, e2, e3⟩ := lvs ha hb hc hd hx
  have h := mlt_of (m := p) e0 e1 e2 e3 (fun ⟨q3, q2, q1, q0⟩ => by
    rw [mul0_d] at hn
    exact absurd (cnt_dvd.2 (g_null q3 q2 q1 q0)) (by simpa using hn))
  simpa [mmu] using h
theorem mlt_0 {p a b c d : Int} (ha : -1000 ≤ a ∧ a ≤ 1000) (hb : -1000 ≤ b ∧ b ≤ 1000) (hc : -1000 ≤ c ∧ c ≤ 1000) (hd : -1000 ≤ d ∧ d ≤ 1000) (hn : mul0 (cnt a b c d) p = false) :
    mlt p 1 0 4 [a, b, c, d] = mmu p a b c d 1 0 ∧ stp p 1 0 4 [a, b, c, d] = true := by
  obtain ⟨e0, e1, e2, e3⟩ := lvs0 ha hb hc hd
  have h := mlt_of (m := p) e0 e1 e2 e3 (fun ⟨q3, q2, q1, q0⟩ => by
    rw [mul0_d] at hn
    exact absurd (cnt_dvd.2 ⟨q3, Int.dvd_neg.1 q2, q1, Int.dvd_neg.1 q0⟩) (by simpa using hn))
  simpa [mmu, mm3_neg] using h


end Go.Proofs.YthheongdgcfngaaDoor
