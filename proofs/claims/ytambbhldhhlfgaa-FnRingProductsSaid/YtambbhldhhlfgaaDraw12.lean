/- Draws of chapter 5: rational roots, whether irreducible, the factor form (over XDraw5; what XDraw7, 8 and 10 hold, without the matrices). -/
import Derived.Test.YtambbhldhhlfgaaDraw5
import Derived.StillTailTactics
import Derived.Deep.RegionHeld3
namespace Go.Proofs.Ytambbhldhhlfgaa
open Go.ChangeShapes Go.WideShapes Go.ChangeAt Go.RowKit

theorem Src.new {w : World} {k : Nat} {a : Option Addr} {len cap : Nat} {zs : List Int} {h : Int} (hr : IsRow .u8 w a len cap zs) (hk : k = w.heap.size) :
    Src (w.alloc (.cells #[.slice a len cap, .int .i64 0, .int .u64 h] 105)) k a len cap zs := by
  subst hk
  have hb := (Below.refl w.heap.size w).alloc (Nat.le_refl _) (.cells #[.slice a len cap, .int .i64 0, .int .u64 h] 105)
  refine ⟨?_, fun x hx hz => ?_, by simp, by simp [go_sem], ⟨0, by omega, by omega, by simp [go_sem]⟩, ⟨h, by simp [go_sem]⟩, by simp [go_sem], by simp [go_sem], by simp [go_sem]⟩
  · rcases hr with h | ⟨x, h1, h2, h3, h4, h5, h6⟩
    · exact .inl h
    · exact .inr ⟨x, h1, h2, h3, h4, fun i hi => (hb.cell (p := x.add i) (World.block_lt_of_cell? w (x.add i) (h5 i hi))).trans (h5 i hi), h6⟩
  · rcases hr with ⟨h, _⟩ | ⟨y, h1, h2, h3, h4, h5, h6⟩
    · rw [h] at hx; cases hx
    · rw [h1] at hx; cases hx
      have hl : 0 < zs.length := List.length_pos_iff.2 hz
      have := World.block_lt_of_cell? w (x.add 0) (h5 0 hl)
      have hb : (x.add 0).block = x.block := by unfold Addr.add; split <;> rfl
      omega

/-- A source that is new. -/
def FromPost (a : Option Addr) (len cap : Nat) (zs : List Int) (w : World) (e : Ending) (w' : World) : Prop :=
  e = .returned (.pointer (some ⟨w.heap.size, 0, none⟩)) ∧ Src w' w.heap.size a len cap zs ∧ Below w.heap.size w w'

set_option maxRecDepth 100000 in
set_option maxHeartbeats 2000000 in
theorem from_any (a : Option Addr) (len cap : Nat) (zs : List Int) (w : World) (hR : IsRow .u8 w a len cap zs) (hlen : len ≤ 9223372036854775807) :
    Calls Try.prog 46 #[.slice a len cap] w (FromPost a len cap zs w) := by
  have HR := hid hR
  clear hR
  go_enter Try.func46, Try.ntmps46
  go_wp2_with fail
  go_loopw [4] (fun s4 wr => ∃ j : Nat, s4 = .int .i64 j ∧ j ≤ 4096 ∧ Src wr w.heap.size a len cap zs ∧ Below w.heap.size w wr) (fun s4 _ => 4096 - (intOf s4).toNat)
  case atStart => exact ⟨0, rfl, by omega, Src.new HR.out rfl, by (repeat' (first | with_reducible exact Below.refl _ _ | with_reducible assumption | with_reducible refine gr_alloc ?_ _ | with_reducible refine gr_drew ?_ | with_reducible refine gr_drewN ?_ _ | with_reducible refine gr_trans ?_ (by assumption) | with_reducible refine gr_set ?_ ?_ _ | (simp; done) | omega | (simp; omega)))⟩
  case round =>
    obtain ⟨j, rfl, hj, S0, B0⟩ := hrel
    have hl := S0.lt
    by_cases h1 : j < len
    · by_cases h2 : j < 4096
      · rcases S0.row with ⟨_, hl0, _⟩ | ⟨x, rfl, hlc, hcm, hz, hcell, hwz⟩
        · omega
        · have hcj := hcell j (by omega)
          have hbz := byte_bd (zs.getD j 0) (getD_wf hwz j (by omega))
          generalize zs.getD j 0 = z at hcj hbz
          obtain ⟨hz0, hz1⟩ := hbz
          obtain ⟨h, hh⟩ := S0.hash
          have f2 := S0.f2
          have HS := hid S0
          clear hcell hwz hz S0
          unfold maxLen at hcm
          go_upto_region 5 with fail
          go_still_tail 15, (by kernel_rfl)
          go_wp2
          go_roundw
          case rel => exact ⟨j + 1, by go_num, by omega, (HS.out.set2 _).below ((Below.refl _ _).drew), by (repeat' (first | with_reducible exact Below.refl _ _ | with_reducible assumption | with_reducible refine gr_alloc ?_ _ | with_reducible refine gr_drew ?_ | with_reducible refine gr_drewN ?_ _ | with_reducible refine gr_trans ?_ (by assumption) | with_reducible refine gr_set ?_ ?_ _ | (simp; done) | omega | (simp; omega)))⟩
          case measure => simp [intOf]; omega
      · have h2' : decide ((j : Int) < 4096) = false := decide_eq_false (by omega)
        have HS := hid S0
        clear S0
        go_wp2
        go_ret
        exact ⟨rfl, HS.out, B0⟩
    · have HS := hid S0
      clear S0
      go_wp2
      go_ret
      exact ⟨rfl, HS.out, B0⟩
def FrmOut (w : World) (e : Ending) (w' : World) : Prop := ∃ p q r s : Int, e = .returned (.agg #[.int .i64 p, .int .i64 q, .int .i64 r, .int .i64 s]) ∧ Below w.heap.size w w'
def TwoOut (w : World) (e : Ending) (w' : World) : Prop := ∃ p q r s p' q' r' s' : Int, e = .returned (.tuple #[.agg #[.int .i64 p, .int .i64 q, .int .i64 r, .int .i64 s], .agg #[.int .i64 p', .int .i64 q', .int .i64 r', .int .i64 s']]) ∧ Below w.heap.size w w'
theorem res_AA {P : Program} {fn : Func} {p p' : Tmp} {ty e ty' e' : TypeId} {tmps : Array Value} {w : World} {b b' : Nat} {x0 x1 x2 x3 y0 y1 y2 y3 : Int} (h : fn.results = #[.cell p ty, .cell p' ty']) (hu : P.underlying ty = some (.array 4 e)) (hi : (P.info? ty).map (·.size) = some 4)
    (hu' : P.underlying ty' = some (.array 4 e')) (hi' : (P.info? ty').map (·.size) = some 4) (hp : tmps.getD p undef = .pointer (some ⟨b, 0, none⟩)) (hp' : tmps.getD p' undef = .pointer (some ⟨b', 0, none⟩)) (hA : Arr w b x0 x1 x2 x3) (hB : Arr w b' y0 y1 y2 y3) :
    (results fn tmps).run P w = .ok (.tuple #[.agg #[.int .i64 x0, .int .i64 x1, .int .i64 x2, .int .i64 x3], .agg #[.int .i64 y0, .int .i64 y1, .int .i64 y2, .int .i64 y3]]) w := by
  have hq : tmps[p]?.getD undef = .pointer (some ⟨b, 0, none⟩) := by simpa using hp
  have hq' : tmps[p']?.getD undef = .pointer (some ⟨b', 0, none⟩) := by simpa using hp'
  simp [results, h, hq, hq', asAddr, loadVar4 w b ty e _ _ _ _ hu hi hA.c0 hA.c1 hA.c2 hA.c3, loadVar4 w b' ty' e' _ _ _ _ hu' hi' hB.c0 hB.c1 hB.c2 hB.c3]
theorem Arr.oth4 {w : World} {j i : Nat} {a b c d : Int} (h : Arr w j a b c d) (hne : j ≠ i) {x y z u : Value} : Arr ((((w.setCell ⟨i, 0, none⟩ x).setCell ⟨i, 1, none⟩ y).setCell ⟨i, 2, none⟩ z).setCell ⟨i, 3, none⟩ u) j a b c d :=
  (((h.oth (p := ⟨i, 0, none⟩) hne _).oth (p := ⟨i, 1, none⟩) hne _).oth (p := ⟨i, 2, none⟩) hne _).oth (p := ⟨i, 3, none⟩) hne _
theorem row8_next {w w' : World} {a : Option Addr} {len cap : Nat} {zs : List Int} (h : IsRow .u8 w a len cap zs) (hb : Below w.heap.size w w') : IsRow .u8 w' a len cap zs := by
  rcases h with h | ⟨x, h1, h2, h3, h4, h5, h6⟩
  · exact .inl h
  · exact .inr ⟨x, h1, h2, h3, h4, fun i hi => (hb.cell (p := x.add i) (World.block_lt_of_cell? w (x.add i) (h5 i hi))).trans (h5 i hi), h6⟩

theorem below_set6 {B : Nat} {w w' : World} (h : Below B w w') {p : Addr} (hp : B ≤ p.block) (u : Value) : Below B w (w'.setCell p u) := h.setCell hp u

set_option maxRecDepth 100000 in
set_option maxHeartbeats 4000000 in
theorem multiple_any (a : Option Addr) (len cap : Nat) (zs : List Int) (w : World) (hR : IsRow .u8 w a len cap zs) (hlen : len ≤ 9223372036854775807) :
    Calls Try.prog 97 #[.slice a len cap] w (FrmOut w) := by
  have R0 := Arr.new w 0 0 0 0 25
  have U0 := gr_alloc (Below.refl w.heap.size w) (.cells #[.int .i64 0, .int .i64 0, .int .i64 0, .int .i64 0] 25)
  have hR0 := row8_next hR U0
  clear hR
  go_enter Try.func97, Try.ntmps97
  go_wp2_with fail
  refine (from_any a len cap zs _ hR0 hlen).mono ?_
  rintro e w1 ⟨rfl, S1', hb1⟩
  have S1 := hid S1'
  have R1 := R0.next hb1
  have U1 := gr_trans U0 hb1
  clear S1' hR0 R0 U0 hb1
  simp only [World.size_alloc] at S1 ⊢
  generalize hk : w.heap.size + 1 = k at S1 ⊢
  go_wp2_with fail
  refine (draw_any _ a len cap zs _ S1.out).mono ?_
  rintro e w2 ⟨p, q, r, s, rfl, S2', G2⟩
  have R2 := R1.gk G2 (by omega)
  have U2 := Gk.out U1 G2 (by omega)
  clear S1 R1 U1 G2
  have hwl := R2.lt
  have hL := lit_cells w2 2 [0, 1, 2, 6, 15]
  have HL := hid hL
  clear hL
  have S3 := hid (S2'.alloc (.cells #[.int .i64 0, .int .i64 1, .int .i64 2, .int .i64 6, .int .i64 15] 2))
  have R3 := R2.alloc (.cells #[.int .i64 0, .int .i64 1, .int .i64 2, .int .i64 6, .int .i64 15] 2)
  have U3 := gr_alloc U2 (.cells #[.int .i64 0, .int .i64 1, .int .i64 2, .int .i64 6, .int .i64 15] 2)
  have hk2 := S2'.lt
  clear S2' R2 U2
  go_wp2_with fail
  refine (pick_any k a len cap zs _ 5 _ S3.out (by omega) (by omega) (by simp) (by omega) HL.out).mono ?_
  rintro e w4 ⟨x4, rfl, S4', G4⟩
  have R4 := R3.gk G4 (by omega)
  have U4 := Gk.out U3 G4 (by omega)
  have hk4 := S4'.lt
  have hR4 := R4.lt
  have X5 := Arr.new w4 p q r s 25
  have S5 := hid (S4'.alloc (.cells #[.int .i64 p, .int .i64 q, .int .i64 r, .int .i64 s] 25))
  have R5 := R4.alloc (.cells #[.int .i64 p, .int .i64 q, .int .i64 r, .int .i64 s] 25)
  have U5 := gr_alloc U4 (.cells #[.int .i64 p, .int .i64 q, .int .i64 r, .int .i64 s] 25)
  clear S3 R3 U3 G4 S4' R4 U4 HL hwl hk2
  obtain ⟨j, hj⟩ : ∃ j, j = w4.heap.size := ⟨_, rfl⟩
  rw [← hj] at X5 hk4 hR4
  go_wp2_with fail
  rw [← hj]
  generalize w4.alloc (.cells #[.int .i64 p, .int .i64 q, .int .i64 r, .int .i64 s] 25) = W5 at X5 S5 R5 U5 ⊢
  clear hj
  go_loopw [6] (fun s6 wr => ∃ (i : Nat), s6 = .int .i64 i ∧ i ≤ 4 ∧ Box wr j ∧ Arr wr w.heap.size 0 0 0 0 ∧ Hid (Src wr k a len cap zs) ∧ Below w.heap.size w wr) (fun s6 _ => 4 - (intOf s6).toNat)
  case atStart => exact ⟨0, rfl, by omega, X5.box, R5, S5, U5⟩
  case round =>
    obtain ⟨i, rfl, hi, ⟨y0, y1, y2, y3, X6⟩, R6, S6, U6⟩ := hrel
    clear X5 R5 S5 U5
    have hi' : i = 0 ∨ i = 1 ∨ i = 2 ∨ i = 3 ∨ i = 4 := by omega
    have hbel : w.heap.size ≤ j := by omega
    obtain ⟨_, c0, c1, c2, c3, g0, g1, g2, g3⟩ := id X6
    rcases hi' with rfl | rfl | rfl | rfl | rfl
    · go_wp2_with (go_at_call 66; refine (l01In_any _ _ _ _).mono ?_; rintro e w7 ⟨rfl, rfl⟩)
      · go_roundw
        case rel => exact ⟨1, rfl, by omega, Arr.box (X6.set0 _), R6.oth (by simp; omega) _, hid (S6.out.up (by simp; omega) _), below_set6 U6 hbel _⟩
        case measure => simp [intOf]
      · go_roundw
        case rel => exact ⟨1, rfl, by omega, X6.box, R6, S6, U6⟩
        case measure => simp [intOf]
    · go_wp2_with (go_at_call 66; refine (l01In_any _ _ _ _).mono ?_; rintro e w7 ⟨rfl, rfl⟩)
      · go_roundw
        case rel => exact ⟨2, rfl, by omega, Arr.box (X6.set1 _), R6.oth (by simp; omega) _, hid (S6.out.up (by simp; omega) _), below_set6 U6 hbel _⟩
        case measure => simp [intOf]
      · go_roundw
        case rel => exact ⟨2, rfl, by omega, X6.box, R6, S6, U6⟩
        case measure => simp [intOf]
    · go_wp2_with (go_at_call 66; refine (l01In_any _ _ _ _).mono ?_; rintro e w7 ⟨rfl, rfl⟩)
      · go_roundw
        case rel => exact ⟨3, rfl, by omega, Arr.box (X6.set2 _), R6.oth (by simp; omega) _, hid (S6.out.up (by simp; omega) _), below_set6 U6 hbel _⟩
        case measure => simp [intOf]
      · go_roundw
        case rel => exact ⟨3, rfl, by omega, X6.box, R6, S6, U6⟩
        case measure => simp [intOf]
    · go_wp2_with (go_at_call 66; refine (l01In_any _ _ _ _).mono ?_; rintro e w7 ⟨rfl, rfl⟩)
      · go_roundw
        case rel => exact ⟨4, rfl, by omega, Arr.box (X6.set3 _), R6.oth (by simp; omega) _, hid (S6.out.up (by simp; omega) _), below_set6 U6 hbel _⟩
        case measure => simp [intOf]
      · go_roundw
        case rel => exact ⟨4, rfl, by omega, X6.box, R6, S6, U6⟩
        case measure => simp [intOf]
    · go_wp2_with fail
      refine (bad_any k a len cap zs y0 y1 y2 y3 _ S6.out).mono ?_
      rintro e w7 ⟨p7, q7, r7, s7, rfl, S7, G7⟩
      have R7 := R6.gk G7 (by omega)
      have U7 := Gk.out U6 G7 (by omega)
      obtain ⟨_, r0, r1, r2, r3, f0, f1, f2, f3⟩ := id R7
      go_wp2_with fail
      refine bodyPost_ret (res_A1 (e := 2) rfl Try.underlying25 (by kernel_rfl) rfl (by (repeat (first | with_reducible assumption | with_reducible exact Arr.box (by assumption) | with_reducible exact Box.new _ _ _ _ _ _ | with_reducible exact Arr.new _ _ _ _ _ _ | with_reducible refine Arr.drew ?_ | with_reducible refine Arr.drewN ?_ _ | with_reducible refine Arr.store4 ?_ | with_reducible refine Arr.alloc ?_ _ | with_reducible refine Box.drew ?_ | with_reducible refine Box.drewN ?_ _ | with_reducible refine Box.alloc ?_ _ | with_reducible refine Arr.next ?_ (by assumption) | with_reducible refine Box.next ?_ (by assumption) | refine Arr.oth ?_ (by first | (simp; done) | omega | (simp; omega)) _ | refine Box.oth ?_ (by first | (simp; done) | omega | (simp; omega)) _)))) rfl ?_
      exact ⟨_, _, _, _, rfl, by (repeat' (first | with_reducible exact Below.refl _ _ | with_reducible assumption | with_reducible refine gr_alloc ?_ _ | with_reducible refine gr_drew ?_ | with_reducible refine gr_drewN ?_ _ | with_reducible refine gr_trans ?_ (by assumption) | with_reducible refine gr_set ?_ ?_ _ | (simp; done) | omega | (simp; omega)))⟩







end Go.Proofs.Ytambbhldhhlfgaa
