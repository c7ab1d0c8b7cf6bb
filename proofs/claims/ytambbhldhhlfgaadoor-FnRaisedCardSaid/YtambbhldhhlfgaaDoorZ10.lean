/- Several texts in one: XDraw5, XDraw12. -/
import Derived.Test.YtambbhldhhlfgaaDoorZ9
import Derived.Deep.DeepCutAuto
import Derived.StillTailTactics
import Derived.Deep.RegionHeld3

/- Draws: forms and matrices. -/
namespace Go.Proofs.YtambbhldhhlfgaaDoor
open Go.ChangeShapes Go.WideShapes Go.ChangeAt Go.RowKit

set_option maxRecDepth 100000 in
set_option maxHeartbeats 4000000 in
theorem bad_any (k : Nat) (a : Option Addr) (len cap : Nat) (zs : List Int) (c0 c1 c2 c3 : Int) (w : World) (hS : Src w k a len cap zs) :
    Calls Tryd.prog 180 #[.pointer (some ⟨k, 0, none⟩), .agg #[.int .i64 c0, .int .i64 c1, .int .i64 c2, .int .i64 c3]] w (FrmPost k a len cap zs w) := by
  have hl := hS.lt
  have X0 := (Arr.new w c0 c1 c2 c3 25).alloc (.cells #[.int .i64 0, .int .i64 0, .int .i64 0, .int .i64 0] 25)
  have R0 := Arr.new (w.alloc (.cells #[.int .i64 c0, .int .i64 c1, .int .i64 c2, .int .i64 c3] 25)) 0 0 0 0 25
  simp only [World.size_alloc] at R0
  have S0 := hid ((hS.alloc (.cells #[.int .i64 c0, .int .i64 c1, .int .i64 c2, .int .i64 c3] 25)).alloc (.cells #[.int .i64 0, .int .i64 0, .int .i64 0, .int .i64 0] 25))
  have H0 := ((Gk.refl k w).alloc (.cells #[.int .i64 c0, .int .i64 c1, .int .i64 c2, .int .i64 c3] 25)).alloc (.cells #[.int .i64 0, .int .i64 0, .int .i64 0, .int .i64 0] 25)
  clear hS
  go_enter Tryd.func180, Tryd.ntmps180
  go_wp2_with fail
  refine (next_any k a len cap zs _ _ S0.out).mono ?_
  rintro e w1 ⟨x1, rfl, hx1, hy1, S1', G1⟩
  have S1 := hid S1'
  have X1 := X0.gk G1 (by omega)
  have R1 := R0.gk G1 (by omega)
  have H1 := H0.trans G1
  clear S1' G1 X0 R0 H0 S0
  clear hx1 hy1
  by_cases hx : x1 = 0
  · subst hx
    go_wp2_with fail
    refine (next_any k a len cap zs _ _ S1.out).mono ?_
    rintro e w2 ⟨x2, rfl, hx2, hy2, S2', G2⟩
    have S2 := hid S2'
    have X2 := X1.gk G2 (by omega)
    have R2 := R1.gk G2 (by omega)
    have H2 := H1.trans G2
    clear S2' G2 X1 R1 H1 S1
    have hwl := R2.lt
    have hL := lit_cells w2 2 [1001, -1001, 1099511627776, -4611686018427387904]
    have HL := hid hL
    clear hL
    have S3 := hid (S2.out.alloc (.cells #[.int .i64 1001, .int .i64 (-1001), .int .i64 1099511627776, .int .i64 (-4611686018427387904)] 2))
    have X3 := X2.alloc (.cells #[.int .i64 1001, .int .i64 (-1001), .int .i64 1099511627776, .int .i64 (-4611686018427387904)] 2)
    have R3 := R2.alloc (.cells #[.int .i64 1001, .int .i64 (-1001), .int .i64 1099511627776, .int .i64 (-4611686018427387904)] 2)
    have H3 := H2.alloc (.cells #[.int .i64 1001, .int .i64 (-1001), .int .i64 1099511627776, .int .i64 (-4611686018427387904)] 2)
    clear S2 X2 R2 H2
    go_wp2_with fail
    refine (pick_any k a len cap zs _ 4 _ S3.out (by omega) (by omega) (by simp) (by omega) HL.out).mono ?_
    rintro e w4 ⟨x4, rfl, S4', G4⟩
    have S4 := hid S4'
    have X4 := X3.gk G4 (by omega)
    have R4 := R3.gk G4 (by omega)
    have H4 := H3.trans G4
    clear S4' G4 X3 R3 H3 S3
    clear HL
    have hxs : x2 = 0 ∨ x2 = 1 ∨ x2 = 2 ∨ x2 = 3 := by omega
    clear hx2 hy2
    obtain ⟨_, y0, y1, y2, y3, g0, g1, g2, g3⟩ := id X4
    rcases hxs with rfl | rfl | rfl | rfl
    · have XE := hid (X4.set0 x4)
      have RE := R4.oth (p := ⟨w.heap.size, 0, none⟩) (by simp) (.int .i64 x4)
      have SE := S4.out.up (p := ⟨w.heap.size, 0, none⟩) hl (.int .i64 x4)
      have HE := H4.up (p := ⟨w.heap.size, 0, none⟩) (Nat.le_refl _) (.int .i64 x4)
      obtain ⟨_, r0, r1, r2, r3, f0, f1, f2, f3⟩ := id R4
      go_wp2_with fail
      refine bodyPost_ret (res_A1 (e := 2) rfl Tryd.underlying25 (by kernel_rfl) rfl (by (repeat (first | with_reducible assumption | with_reducible exact Arr.box (by assumption) | with_reducible apply Arr.drew | with_reducible apply Arr.drewN | with_reducible refine Arr.store4 ?_ | with_reducible apply Arr.alloc | with_reducible refine Box.drew ?_ | with_reducible refine Box.drewN ?_ _ | with_reducible refine Box.alloc ?_ _ | refine Arr.oth ?_ (by first | (simp; done) | omega | (simp; omega)) _ | refine Box.oth ?_ (by first | (simp; done) | omega | (simp; omega)) _)))) rfl ?_
      exact ⟨_, _, _, _, rfl, SE.up4 (by omega) _ _ _ _, HE.up4 (by omega) _ _ _ _⟩
    · have XE := hid (X4.set1 x4)
      have RE := R4.oth (p := ⟨w.heap.size, 1, none⟩) (by simp) (.int .i64 x4)
      have SE := S4.out.up (p := ⟨w.heap.size, 1, none⟩) hl (.int .i64 x4)
      have HE := H4.up (p := ⟨w.heap.size, 1, none⟩) (Nat.le_refl _) (.int .i64 x4)
      obtain ⟨_, r0, r1, r2, r3, f0, f1, f2, f3⟩ := id R4
      go_wp2_with fail
      refine bodyPost_ret (res_A1 (e := 2) rfl Tryd.underlying25 (by kernel_rfl) rfl (by (repeat (first | with_reducible assumption | with_reducible exact Arr.box (by assumption) | with_reducible apply Arr.drew | with_reducible apply Arr.drewN | with_reducible refine Arr.store4 ?_ | with_reducible apply Arr.alloc | with_reducible refine Box.drew ?_ | with_reducible refine Box.drewN ?_ _ | with_reducible refine Box.alloc ?_ _ | refine Arr.oth ?_ (by first | (simp; done) | omega | (simp; omega)) _ | refine Box.oth ?_ (by first | (simp; done) | omega | (simp; omega)) _)))) rfl ?_
      exact ⟨_, _, _, _, rfl, SE.up4 (by omega) _ _ _ _, HE.up4 (by omega) _ _ _ _⟩
    · have XE := hid (X4.set2 x4)
      have RE := R4.oth (p := ⟨w.heap.size, 2, none⟩) (by simp) (.int .i64 x4)
      have SE := S4.out.up (p := ⟨w.heap.size, 2, none⟩) hl (.int .i64 x4)
      have HE := H4.up (p := ⟨w.heap.size, 2, none⟩) (Nat.le_refl _) (.int .i64 x4)
      obtain ⟨_, r0, r1, r2, r3, f0, f1, f2, f3⟩ := id R4
      go_wp2_with fail
      refine bodyPost_ret (res_A1 (e := 2) rfl Tryd.underlying25 (by kernel_rfl) rfl (by (repeat (first | with_reducible assumption | with_reducible exact Arr.box (by assumption) | with_reducible apply Arr.drew | with_reducible apply Arr.drewN | with_reducible refine Arr.store4 ?_ | with_reducible apply Arr.alloc | with_reducible refine Box.drew ?_ | with_reducible refine Box.drewN ?_ _ | with_reducible refine Box.alloc ?_ _ | refine Arr.oth ?_ (by first | (simp; done) | omega | (simp; omega)) _ | refine Box.oth ?_ (by first | (simp; done) | omega | (simp; omega)) _)))) rfl ?_
      exact ⟨_, _, _, _, rfl, SE.up4 (by omega) _ _ _ _, HE.up4 (by omega) _ _ _ _⟩
    · have XE := hid (X4.set3 x4)
      have RE := R4.oth (p := ⟨w.heap.size, 3, none⟩) (by simp) (.int .i64 x4)
      have SE := S4.out.up (p := ⟨w.heap.size, 3, none⟩) hl (.int .i64 x4)
      have HE := H4.up (p := ⟨w.heap.size, 3, none⟩) (Nat.le_refl _) (.int .i64 x4)
      obtain ⟨_, r0, r1, r2, r3, f0, f1, f2, f3⟩ := id R4
      go_wp2_with fail
      refine bodyPost_ret (res_A1 (e := 2) rfl Tryd.underlying25 (by kernel_rfl) rfl (by (repeat (first | with_reducible assumption | with_reducible exact Arr.box (by assumption) | with_reducible apply Arr.drew | with_reducible apply Arr.drewN | with_reducible refine Arr.store4 ?_ | with_reducible apply Arr.alloc | with_reducible refine Box.drew ?_ | with_reducible refine Box.drewN ?_ _ | with_reducible refine Box.alloc ?_ _ | refine Arr.oth ?_ (by first | (simp; done) | omega | (simp; omega)) _ | refine Box.oth ?_ (by first | (simp; done) | omega | (simp; omega)) _)))) rfl ?_
      exact ⟨_, _, _, _, rfl, SE.up4 (by omega) _ _ _ _, HE.up4 (by omega) _ _ _ _⟩
  · have hx' : (x1 == 0) = false := by simpa using hx
    clear hx
    obtain ⟨_, y0, y1, y2, y3, _⟩ := id X1
    obtain ⟨_, r0, r1, r2, r3, f0, f1, f2, f3⟩ := id R1
    go_wp2_with fail
    refine bodyPost_ret (res_A1 (e := 2) rfl Tryd.underlying25 (by kernel_rfl) rfl (by (repeat (first | with_reducible assumption | with_reducible exact Arr.box (by assumption) | with_reducible apply Arr.drew | with_reducible apply Arr.drewN | with_reducible refine Arr.store4 ?_ | with_reducible apply Arr.alloc | with_reducible refine Box.drew ?_ | with_reducible refine Box.drewN ?_ _ | with_reducible refine Box.alloc ?_ _ | refine Arr.oth ?_ (by first | (simp; done) | omega | (simp; omega)) _ | refine Box.oth ?_ (by first | (simp; done) | omega | (simp; omega)) _)))) rfl ?_
    exact ⟨_, _, _, _, rfl, S1.out.up4 (by omega) _ _ _ _, H1.up4 (by omega) _ _ _ _⟩

set_option maxRecDepth 100000 in
set_option maxHeartbeats 4000000 in
theorem spoil_any (k : Nat) (a : Option Addr) (len cap : Nat) (zs : List Int) (w : World) (hS : Src w k a len cap zs) :
    Calls Tryd.prog 146 #[.pointer (some ⟨k, 0, none⟩)] w (FrmPost k a len cap zs w) := by
  have hl := hS.lt
  have R0 := Arr.new w 0 0 0 0 25
  have S0 := hid (hS.alloc (.cells #[.int .i64 0, .int .i64 0, .int .i64 0, .int .i64 0] 25))
  have H0 := (Gk.refl k w).alloc (.cells #[.int .i64 0, .int .i64 0, .int .i64 0, .int .i64 0] 25)
  clear hS
  go_enter Tryd.func146, Tryd.ntmps146
  go_wp2_with fail
  refine (draw_any k a len cap zs _ S0.out).mono ?_
  rintro e w1 ⟨p1, q1, r1, s1, rfl, S1', G1⟩
  have S1 := hid S1'
  have R1 := R0.gk G1 (by omega)
  have H1 := H0.trans G1
  clear S1' G1 R0 H0 S0
  go_wp2_with fail
  refine (bad_any k a len cap zs _ _ _ _ _ S1.out).mono ?_
  rintro e w2 ⟨p2, q2, r2, s2, rfl, S2', G2⟩
  have S2 := hid S2'
  have R2 := R1.gk G2 (by omega)
  have H2 := H1.trans G2
  clear S2' G2 R1 H1 S1
  obtain ⟨_, r0, r1, r2, r3, f0, f1, f2, f3⟩ := id R2
  go_wp2_with fail
  refine bodyPost_ret (res_A1 (e := 2) rfl Tryd.underlying25 (by kernel_rfl) rfl (by (repeat (first | with_reducible assumption | with_reducible exact Arr.box (by assumption) | with_reducible apply Arr.drew | with_reducible apply Arr.drewN | with_reducible refine Arr.store4 ?_ | with_reducible apply Arr.alloc | with_reducible refine Box.drew ?_ | with_reducible refine Box.drewN ?_ _ | with_reducible refine Box.alloc ?_ _ | refine Arr.oth ?_ (by first | (simp; done) | omega | (simp; omega)) _ | refine Box.oth ?_ (by first | (simp; done) | omega | (simp; omega)) _)))) rfl ?_
  exact ⟨_, _, _, _, rfl, S2.out.up4 hl _ _ _ _, H2.up4 (Nat.le_refl _) _ _ _ _⟩


end Go.Proofs.YtambbhldhhlfgaaDoor

/- Draws of chapter 5: rational roots, whether irreducible, the factor form (over XDraw5; what XDraw7, 8 and 10 hold, without the matrices). -/
namespace Go.Proofs.YtambbhldhhlfgaaDoor
open Go.ChangeShapes Go.WideShapes Go.ChangeAt Go.RowKit

theorem Src.new {w : World} {k : Nat} {a : Option Addr} {len cap : Nat} {zs : List Int} {h : Int} (hr : IsRow .u8 w a len cap zs) (hk : k = w.heap.size) :
    Src (w.alloc (.cells #[.slice a len cap, .int .i64 0, .int .u64 h] 157)) k a len cap zs := by
  subst hk
  have hb := (Below.refl w.heap.size w).alloc (Nat.le_refl _) (.cells #[.slice a len cap, .int .i64 0, .int .u64 h] 157)
  refine ⟨?_, fun x hx hz => ?_, by simp, by simp [go_sem], ⟨0, by omega, by omega, by simp [go_sem]⟩, ⟨h, by simp [go_sem]⟩, by simp [go_sem], by simp [go_sem], by simp [go_sem]⟩
  · rcases hr with h | ⟨x, h1, h2, h3, h4, h5, h6⟩
    · exact .inl h
    · exact .inr ⟨x, h1, h2, h3, h4, fun i hi => (hb.cell (p := x.add i) (World.block_lt_of_cell? w (x.add i) (h5 i hi))).trans (h5 i hi), h6⟩
  · rcases hr with ⟨h, _⟩ | ⟨y, h1, h2, h3, h4, h5, h6⟩
    · rw [h] at hx; cases hx
    · rw [h1] at hx; cases hx
      have hl : 0 < zs.length := List.length_pos_iff.2 hz
      have := World.block_lt_of_cell? w (x.add 0) (h5 0 hl)
      have hb : (x.add 0).block = x.block := by unfold Addr.add; split <;> rfl
      omega

/-- A source that is new. -/
def FromPost (a : Option Addr) (len cap : Nat) (zs : List Int) (w : World) (e : Ending) (w' : World) : Prop :=
  e = .returned (.pointer (some ⟨w.heap.size, 0, none⟩)) ∧ Src w' w.heap.size a len cap zs ∧ Below w.heap.size w w'

set_option maxRecDepth 100000 in
set_option maxHeartbeats 2000000 in
theorem from_any (a : Option Addr) (len cap : Nat) (zs : List Int) (w : World) (hR : IsRow .u8 w a len cap zs) (hlen : len ≤ 9223372036854775807) :
    Calls Tryd.prog 101 #[.slice a len cap] w (FromPost a len cap zs w) := by
  have HR := hid hR
  clear hR
  go_enter Tryd.func101, Tryd.ntmps101
  go_wp2_with fail
  go_loopw [4] (fun s4 wr => ∃ j : Nat, s4 = .int .i64 j ∧ j ≤ 4096 ∧ Src wr w.heap.size a len cap zs ∧ Below w.heap.size w wr) (fun s4 _ => 4096 - (intOf s4).toNat)
  case atStart => exact ⟨0, rfl, by omega, Src.new HR.out rfl, by (repeat' (first | with_reducible exact Below.refl _ _ | with_reducible assumption | with_reducible refine gr_alloc ?_ _ | with_reducible refine gr_drew ?_ | with_reducible refine gr_drewN ?_ _ | with_reducible refine gr_trans ?_ (by assumption) | with_reducible refine gr_set ?_ ?_ _ | (simp; done) | omega | (simp; omega)))⟩
  case round =>
    obtain ⟨j, rfl, hj, S0, B0⟩ := hrel
    have hl := S0.lt
    by_cases h1 : j < len
    · by_cases h2 : j < 4096
      · rcases S0.row with ⟨_, hl0, _⟩ | ⟨x, rfl, hlc, hcm, hz, hcell, hwz⟩
        · omega
        · have hcj := hcell j (by omega)
          have hbz := byte_bd (zs.getD j 0) (getD_wf hwz j (by omega))
          generalize zs.getD j 0 = z at hcj hbz
          obtain ⟨hz0, hz1⟩ := hbz
          obtain ⟨h, hh⟩ := S0.hash
          have f2 := S0.f2
          have HS := hid S0
          clear hcell hwz hz S0
          unfold maxLen at hcm
          go_upto_region 5 with fail
          go_still_tail 15, (by kernel_rfl)
          go_wp2
          go_roundw
          case rel => exact ⟨j + 1, by go_num, by omega, (HS.out.set2 _).below ((Below.refl _ _).drew), by (repeat' (first | with_reducible exact Below.refl _ _ | with_reducible assumption | with_reducible refine gr_alloc ?_ _ | with_reducible refine gr_drew ?_ | with_reducible refine gr_drewN ?_ _ | with_reducible refine gr_trans ?_ (by assumption) | with_reducible refine gr_set ?_ ?_ _ | (simp; done) | omega | (simp; omega)))⟩
          case measure => simp [intOf]; omega
      · have h2' : decide ((j : Int) < 4096) = false := decide_eq_false (by omega)
        have HS := hid S0
        clear S0
        go_wp2
        go_ret
        exact ⟨rfl, HS.out, B0⟩
    · have HS := hid S0
      clear S0
      go_wp2
      go_ret
      exact ⟨rfl, HS.out, B0⟩
def FrmOut (w : World) (e : Ending) (w' : World) : Prop := ∃ p q r s : Int, e = .returned (.agg #[.int .i64 p, .int .i64 q, .int .i64 r, .int .i64 s]) ∧ Below w.heap.size w w'
def TwoOut (w : World) (e : Ending) (w' : World) : Prop := ∃ p q r s p' q' r' s' : Int, e = .returned (.tuple #[.agg #[.int .i64 p, .int .i64 q, .int .i64 r, .int .i64 s], .agg #[.int .i64 p', .int .i64 q', .int .i64 r', .int .i64 s']]) ∧ Below w.heap.size w w'
theorem res_AA {P : Program} {fn : Func} {p p' : Tmp} {ty e ty' e' : TypeId} {tmps : Array Value} {w : World} {b b' : Nat} {x0 x1 x2 x3 y0 y1 y2 y3 : Int} (h : fn.results = #[.cell p ty, .cell p' ty']) (hu : P.underlying ty = some (.array 4 e)) (hi : (P.info? ty).map (·.size) = some 4)
    (hu' : P.underlying ty' = some (.array 4 e')) (hi' : (P.info? ty').map (·.size) = some 4) (hp : tmps.getD p undef = .pointer (some ⟨b, 0, none⟩)) (hp' : tmps.getD p' undef = .pointer (some ⟨b', 0, none⟩)) (hA : Arr w b x0 x1 x2 x3) (hB : Arr w b' y0 y1 y2 y3) :
    (results fn tmps).run P w = .ok (.tuple #[.agg #[.int .i64 x0, .int .i64 x1, .int .i64 x2, .int .i64 x3], .agg #[.int .i64 y0, .int .i64 y1, .int .i64 y2, .int .i64 y3]]) w := by
  have hq : tmps[p]?.getD undef = .pointer (some ⟨b, 0, none⟩) := by simpa using hp
  have hq' : tmps[p']?.getD undef = .pointer (some ⟨b', 0, none⟩) := by simpa using hp'
  simp [results, h, hq, hq', asAddr, loadVar4 w b ty e _ _ _ _ hu hi hA.c0 hA.c1 hA.c2 hA.c3, loadVar4 w b' ty' e' _ _ _ _ hu' hi' hB.c0 hB.c1 hB.c2 hB.c3]
theorem Arr.oth4 {w : World} {j i : Nat} {a b c d : Int} (h : Arr w j a b c d) (hne : j ≠ i) {x y z u : Value} : Arr ((((w.setCell ⟨i, 0, none⟩ x).setCell ⟨i, 1, none⟩ y).setCell ⟨i, 2, none⟩ z).setCell ⟨i, 3, none⟩ u) j a b c d :=
  (((h.oth (p := ⟨i, 0, none⟩) hne _).oth (p := ⟨i, 1, none⟩) hne _).oth (p := ⟨i, 2, none⟩) hne _).oth (p := ⟨i, 3, none⟩) hne _
theorem row8_next {w w' : World} {a : Option Addr} {len cap : Nat} {zs : List Int} (h : IsRow .u8 w a len cap zs) (hb : Below w.heap.size w w') : IsRow .u8 w' a len cap zs := by
  rcases h with h | ⟨x, h1, h2, h3, h4, h5, h6⟩
  · exact .inl h
  · exact .inr ⟨x, h1, h2, h3, h4, fun i hi => (hb.cell (p := x.add i) (World.block_lt_of_cell? w (x.add i) (h5 i hi))).trans (h5 i hi), h6⟩

theorem below_set6 {B : Nat} {w w' : World} (h : Below B w w') {p : Addr} (hp : B ≤ p.block) (u : Value) : Below B w (w'.setCell p u) := h.setCell hp u









end Go.Proofs.YtambbhldhhlfgaaDoor
