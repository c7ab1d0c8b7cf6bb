/- Draws of chapter 10: what its laws draw. -/
import Derived.Test.YtehbkmohfipmgaaBtDraw29
import Derived.Test.YtehbkmohfipmgaaBtZa
import Derived.Deep.DeepCutAuto
namespace Go.Proofs.Ytehbkmohfipmgaa
open Go.ChangeShapes Go.WideShapes Go.ChangeAt Go.RowKit

def NumO (w : World) (e : Ending) (w' : World) : Prop := ∃ n : Int, e = .returned (.int .i64 n) ∧ Below w.heap.size w w'
def QudO (w : World) (e : Ending) (w' : World) : Prop := ∃ p q r : Int, e = .returned (.agg #[.int .i64 p, .int .i64 q, .int .i64 r]) ∧ Below w.heap.size w w'
def FrmO (w : World) (e : Ending) (w' : World) : Prop := ∃ p q r s : Int, e = .returned (.agg #[.int .i64 p, .int .i64 q, .int .i64 r, .int .i64 s]) ∧ Below w.heap.size w w'
def QQO (w : World) (e : Ending) (w' : World) : Prop := ∃ p q r x y z : Int, e = .returned (.tuple #[.agg #[.int .i64 p, .int .i64 q, .int .i64 r], .agg #[.int .i64 x, .int .i64 y, .int .i64 z]]) ∧ Below w.heap.size w w'
def QNO (w : World) (e : Ending) (w' : World) : Prop := ∃ p q r n : Int, e = .returned (.tuple #[.agg #[.int .i64 p, .int .i64 q, .int .i64 r], .int .i64 n]) ∧ Below w.heap.size w w'
theorem row8_nx {w w' : World} {a : Option Addr} {len cap : Nat} {zs : List Int} (h : IsRow .u8 w a len cap zs) (hb : Below w.heap.size w w') : IsRow .u8 w' a len cap zs := by
  rcases h with h | ⟨x, h1, h2, h3, h4, h5, h6⟩
  · exact .inl h
  · exact .inr ⟨x, h1, h2, h3, h4, fun i hi => (hb.cell (p := x.add i) (World.block_lt_of_cell? w (x.add i) (h5 i hi))).trans (h5 i hi), h6⟩
theorem res_QQ {P : Program} {fn : Func} {p p' : Tmp} {ty e : TypeId} {tmps : Array Value} {w : World} {b b' : Nat} {x0 x1 x2 y0 y1 y2 : Int} (h : fn.results = #[.cell p ty, .cell p' ty]) (hu : P.underlying ty = some (.array 3 e)) (hi : (P.info? ty).map (·.size) = some 3)
    (hp : tmps.getD p undef = .pointer (some ⟨b, 0, none⟩)) (hp' : tmps.getD p' undef = .pointer (some ⟨b', 0, none⟩)) (hA : Arr3 w b x0 x1 x2) (hB : Arr3 w b' y0 y1 y2) :
    (results fn tmps).run P w = .ok (.tuple #[.agg #[.int .i64 x0, .int .i64 x1, .int .i64 x2], .agg #[.int .i64 y0, .int .i64 y1, .int .i64 y2]]) w := by
  have hq : tmps[p]?.getD undef = .pointer (some ⟨b, 0, none⟩) := by simpa using hp
  have hq' : tmps[p']?.getD undef = .pointer (some ⟨b', 0, none⟩) := by simpa using hp'
  simp [results, h, hq, hq', asAddr, loadVar3 w b ty e _ _ _ hu hi hA.c0 hA.c1 hA.c2, loadVar3 w b' ty e _ _ _ hu hi hB.c0 hB.c1 hB.c2]

set_option maxHeartbeats 1000000 in
theorem drawCl_any (a : Option Addr) (len cap : Nat) (zs : List Int) (w : World) (hR : IsRow .u8 w a len cap zs) (hlen : len ≤ 9223372036854775807) :
    Calls Try.prog 14 #[.slice a len cap] w (NumO w) := by
  go_enter Try.func14, Try.ntmps14
  go_wp2_with fail
  refine (from_any a len cap zs _ hR hlen).mono ?_
  rintro e w1 ⟨rfl, S1', hb1⟩
  have S1 := hid S1'
  clear S1'
  go_wp2_with fail
  refine (disc_any _ a len cap zs _ S1.out).mono ?_
  rintro e w2 ⟨x, rfl, S2', G2⟩
  have U2 := Gk.out hb1 G2 (by omega)
  clear S1 S2' G2 hb1
  go_wp2
  go_ret
  exact ⟨_, rfl, U2⟩

set_option maxHeartbeats 1000000 in
theorem drawTh_any (a : Option Addr) (len cap : Nat) (zs : List Int) (w : World) (hR : IsRow .u8 w a len cap zs) (hlen : len ≤ 9223372036854775807) :
    Calls Try.prog 21 #[.slice a len cap] w (NumO w) := by
  go_enter Try.func21, Try.ntmps21
  go_wp2_with fail
  refine (from_any a len cap zs _ hR hlen).mono ?_
  rintro e w1 ⟨rfl, S1', hb1⟩
  have S1 := hid S1'
  clear S1'
  go_wp2_with fail
  refine (disc_any _ a len cap zs _ S1.out).mono ?_
  rintro e w2 ⟨x, rfl, S2', G2⟩
  have U2 := Gk.out hb1 G2 (by omega)
  clear S1 S2' G2 hb1
  go_wp2
  go_ret
  exact ⟨_, rfl, U2⟩

set_option maxHeartbeats 1000000 in
theorem drawRq_any (a : Option Addr) (len cap : Nat) (zs : List Int) (w : World) (hR : IsRow .u8 w a len cap zs) (hlen : len ≤ 9223372036854775807) :
    Calls Try.prog 9 #[.slice a len cap] w (QudO w) := by
  have R0 := Arr3.new w 0 0 0 25
  have U0 := gr_alloc (Below.refl w.heap.size w) (.cells #[.int .i64 0, .int .i64 0, .int .i64 0] 25)
  have hR0 := row8_nx hR (gr_alloc (Below.refl w.heap.size w) (.cells #[.int .i64 0, .int .i64 0, .int .i64 0] 25))
  clear hR
  go_enter Try.func9, Try.ntmps9
  go_wp2_with fail
  refine (from_any a len cap zs _ hR0 hlen).mono ?_
  rintro e w1 ⟨rfl, S1', hb1⟩
  have R1 := R0.next hb1
  have U1 := gr_trans U0 hb1
  simp only [World.size_alloc] at S1' ⊢
  have S1 := hid S1'
  clear S1' hR0 R0 U0 hb1
  go_wp2_with fail
  refine (drawQ_any _ a len cap zs _ S1.out).mono ?_
  rintro e w2 ⟨p, q, r, rfl, S2', G2⟩
  have R2 := R1.gk G2 (by omega)
  have U2 := Gk.out U1 G2 (by omega)
  clear S1 S2' R1 U1 G2
  obtain ⟨_, r0, r1, r2, f0, f1, f2⟩ := id R2
  go_wp2_with fail
  refine bodyPost_ret (res_A31 (e := 2) rfl Try.underlying25 (by kernel_rfl) rfl (by (repeat (first | with_reducible assumption | with_reducible exact Arr.box (by assumption) | with_reducible exact Box.new _ _ _ _ _ _ | with_reducible exact Arr.new _ _ _ _ _ _ | with_reducible refine Arr.drew ?_ | with_reducible refine Arr.drewN ?_ _ | with_reducible refine Arr.store4 ?_ | with_reducible refine Arr.alloc ?_ _ | with_reducible refine Box.drew ?_ | with_reducible refine Box.drewN ?_ _ | with_reducible refine Box.alloc ?_ _ | with_reducible refine Arr.next ?_ (by assumption) | with_reducible refine Box.next ?_ (by assumption) | refine Arr.oth ?_ (by first | (simp; done) | omega | (simp; omega)) _ | refine Box.oth ?_ (by first | (simp; done) | omega | (simp; omega)) _ | with_reducible exact Arr3.box (by assumption) | with_reducible exact Box3.new _ _ _ _ _ | with_reducible exact Arr3.new _ _ _ _ _ | with_reducible refine Arr3.drew ?_ | with_reducible refine Arr3.drewN ?_ _ | with_reducible refine Arr3.store3 ?_ | with_reducible refine Arr3.alloc ?_ _ | with_reducible refine Box3.drew ?_ | with_reducible refine Box3.drewN ?_ _ | with_reducible refine Box3.alloc ?_ _ | with_reducible refine Arr3.next ?_ (by assumption) | with_reducible refine Box3.next ?_ (by assumption) | refine Arr3.oth ?_ (by first | (simp; done) | omega | (simp; omega)) _ | refine Box3.oth ?_ (by first | (simp; done) | omega | (simp; omega)) _)))) rfl ?_
  exact ⟨_, _, _, rfl, by (repeat' (first | with_reducible exact Below.refl _ _ | with_reducible assumption | with_reducible refine gr_alloc ?_ _ | with_reducible refine gr_drew ?_ | with_reducible refine gr_drewN ?_ _ | with_reducible refine gr_trans ?_ (by assumption) | with_reducible refine gr_set ?_ ?_ _ | (simp; done) | omega | (simp; omega)))⟩

set_option maxHeartbeats 1000000 in
theorem drawRf_any (a : Option Addr) (len cap : Nat) (zs : List Int) (w : World) (hR : IsRow .u8 w a len cap zs) (hlen : len ≤ 9223372036854775807) :
    Calls Try.prog 24 #[.slice a len cap] w (FrmO w) := by
  have R0 := Arr.new w 0 0 0 0 42
  have U0 := gr_alloc (Below.refl w.heap.size w) (.cells #[.int .i64 0, .int .i64 0, .int .i64 0, .int .i64 0] 42)
  have hR0 := row8_nx hR (gr_alloc (Below.refl w.heap.size w) (.cells #[.int .i64 0, .int .i64 0, .int .i64 0, .int .i64 0] 42))
  clear hR
  go_enter Try.func24, Try.ntmps24
  go_wp2_with fail
  refine (from_any a len cap zs _ hR0 hlen).mono ?_
  rintro e w1 ⟨rfl, S1', hb1⟩
  have R1 := R0.next hb1
  have U1 := gr_trans U0 hb1
  simp only [World.size_alloc] at S1' ⊢
  have S1 := hid S1'
  clear S1' hR0 R0 U0 hb1
  go_wp2_with fail
  refine (drawT_any _ a len cap zs _ S1.out).mono ?_
  rintro e w2 ⟨p, q, r, s, rfl, S2', G2⟩
  have R2 := R1.gk G2 (by omega)
  have U2 := Gk.out U1 G2 (by omega)
  clear S1 S2' R1 U1 G2
  obtain ⟨_, r0, r1, r2, r3, f0, f1, f2, f3⟩ := id R2
  go_wp2_with fail
  refine bodyPost_ret (res_A1 (e := 2) rfl Try.underlying42 (by kernel_rfl) rfl (by (repeat (first | with_reducible assumption | with_reducible exact Arr.box (by assumption) | with_reducible apply Arr.drew | with_reducible apply Arr.drewN | with_reducible refine Arr.store4 ?_ | with_reducible apply Arr.alloc | with_reducible refine Box.drew ?_ | with_reducible refine Box.drewN ?_ _ | with_reducible refine Box.alloc ?_ _ | refine Arr.oth ?_ (by first | (simp; done) | omega | (simp; omega)) _ | refine Box.oth ?_ (by first | (simp; done) | omega | (simp; omega)) _)))) rfl ?_
  exact ⟨_, _, _, _, rfl, by (repeat' (first | with_reducible exact Below.refl _ _ | with_reducible assumption | with_reducible refine gr_alloc ?_ _ | with_reducible refine gr_drew ?_ | with_reducible refine gr_drewN ?_ _ | with_reducible refine gr_trans ?_ (by assumption) | with_reducible refine gr_set ?_ ?_ _ | (simp; done) | omega | (simp; omega)))⟩

set_option maxRecDepth 100000 in
set_option maxHeartbeats 4000000 in
theorem drawTw_any (a : Option Addr) (len cap : Nat) (zs : List Int) (w : World) (hR : IsRow .u8 w a len cap zs) (hlen : len ≤ 9223372036854775807) :
    Calls Try.prog 29 #[.slice a len cap] w (QNO w) := by
  have R0 := Arr3.new w 0 0 0 25
  have U0 := gr_alloc (Below.refl w.heap.size w) (.cells #[.int .i64 0, .int .i64 0, .int .i64 0] 25)
  have hR0 := row8_nx hR (gr_alloc (Below.refl w.heap.size w) (.cells #[.int .i64 0, .int .i64 0, .int .i64 0] 25))
  clear hR
  go_enter Try.func29, Try.ntmps29
  go_wp2_with fail
  refine (from_any a len cap zs _ hR0 hlen).mono ?_
  rintro e w1 ⟨rfl, S1', hb1⟩
  have R1 := R0.next hb1
  have U1 := gr_trans U0 hb1
  simp only [World.size_alloc] at S1' ⊢
  have S1 := hid S1'
  clear S1' hR0 R0 U0 hb1
  go_wp2_with fail
  refine (next_any _ a len cap zs _ _ S1.out).mono ?_
  rintro e w2 ⟨x2, rfl, _, _, S2', G2⟩
  have S2 := hid S2'
  have R2 := R1.gk G2 (by omega)
  have U2 := Gk.out U1 G2 (by omega)
  have hs2 := S2'.lt
  have hR2 := R2.lt
  clear S2' G2 R1 U1 S1
  have HL := hid (lit_ex w2 2 [1, 2, 2, 3, x2] #[.int .i64 1, .int .i64 2, .int .i64 2, .int .i64 3, .int .i64 x2] 5 rfl rfl)
  have S3 := hid (S2.out.alloc (.cells #[.int .i64 1, .int .i64 2, .int .i64 2, .int .i64 3, .int .i64 x2] 2))
  have R3 := R2.alloc (.cells #[.int .i64 1, .int .i64 2, .int .i64 2, .int .i64 3, .int .i64 x2] 2)
  have U3 := gr_alloc U2 (.cells #[.int .i64 1, .int .i64 2, .int .i64 2, .int .i64 3, .int .i64 x2] 2)
  clear R2 U2 S2
  go_wp2_with fail
  refine (pick_any _ a len cap zs _ 5 _ S3.out (by omega) (by omega) (by simp) (by omega) HL.out).mono ?_
  rintro e w4 ⟨n, rfl, S4', G4⟩
  have S4 := hid S4'
  have R4 := R3.gk G4 (by omega)
  have U4 := Gk.out U3 G4 (by omega)
  clear S4' G4 R3 U3 S3 HL
  go_wp2_with fail
  refine (drawT_any _ a len cap zs _ S4.out).mono ?_
  rintro e w5 ⟨z0, z1, z2, z3, rfl, S5', G5⟩
  have S5 := hid S5'
  have R5 := R4.gk G5 (by omega)
  have U5 := Gk.out U4 G5 (by omega)
  have hs5 := S5'.lt
  have hR5 := R5.lt
  clear S5' G5 R4 U4 S4
  go_wp2_with fail
  refine (sRootForm_any z0 z1 z2 z3 _).mono ?_
  rintro e w6 ⟨rfl, hb6⟩
  generalize rfv z0 z1 z2 z3 (rt1 z0 (z1.tdiv 3) (z2.tdiv 3)) = y0
  generalize rfv z0 z1 z2 z3 (rt2 z0 (z1.tdiv 3) (z2.tdiv 3) z3) = y1
  generalize rfv z0 z1 z2 z3 (rt3 (z1.tdiv 3) (z2.tdiv 3) z3) = y2
  generalize rfc z0 z1 z2 z3 = c
  have S6 := hid (S5.out.below hb6)
  have R6 := R5.next hb6
  have U6 := gr_trans U5 hb6
  have hs6 := S6.out.lt
  have hR6 := R6.lt
  clear S5 R5 U5 hb6
  have X7 := Arr3.new w6 y0 y1 y2 25
  have S7 := hid (S6.out.alloc (.cells #[.int .i64 y0, .int .i64 y1, .int .i64 y2] 25))
  have R7 := R6.alloc (.cells #[.int .i64 y0, .int .i64 y1, .int .i64 y2] 25)
  have U7 := gr_alloc U6 (.cells #[.int .i64 y0, .int .i64 y1, .int .i64 y2] 25)
  obtain ⟨j, hj⟩ : ∃ j, j = w6.heap.size := ⟨_, rfl⟩
  rw [← hj] at X7 hs6 hR6
  clear S6 R6 U6
  go_upto_region 4 with fail
  rw [← hj]
  generalize w6.alloc (.cells #[.int .i64 y0, .int .i64 y1, .int .i64 y2] 25) = W7 at X7 S7 R7 U7 ⊢
  clear hj
  by_cases hc : c = 0
  · subst hc
    go_wp2_with fail
    refine (next_any _ a len cap zs _ _ S7.out).mono ?_
    rintro e w8 ⟨u, rfl, _, _, S8', G8⟩
    have S8 := hid S8'
    have X8 := X7.gk G8 (by omega)
    have R8 := R7.gk G8 (by omega)
    have U8 := Gk.out U7 G8 (by omega)
    have hs8 := S8'.lt
    have hX8 := X8.lt
    have hR8 := R8.lt
    clear S8' G8 X7 R7 U7 S7
    by_cases hu : 0 < u
    · have hub : decide (0 < u) = true := by simpa using hu
      obtain ⟨_, b0, b1, b2, _⟩ := id X8
      obtain ⟨_, r0, r1, r2, f0, f1, f2⟩ := id R8
      go_wp2
      refine bodyPost_ret (res_A3 (e := 2) rfl Try.underlying25 (by kernel_rfl) rfl (by (repeat (first | with_reducible assumption | with_reducible exact Arr3.box (by assumption) | with_reducible exact Arr3.new _ _ _ _ _ | with_reducible refine Arr3.drew ?_ | with_reducible refine Arr3.drewN ?_ _ | with_reducible refine Arr3.store3 ?_ | with_reducible refine Arr3.alloc ?_ _ | with_reducible refine Arr3.next ?_ (by assumption) | refine Arr3.oth ?_ (by first | (simp; done) | omega | (simp; omega)) _ )))) rfl ?_
      exact ⟨_, _, _, _, rfl, by (repeat' (first | with_reducible exact Below.refl _ _ | with_reducible assumption | with_reducible refine gr_alloc ?_ _ | with_reducible refine gr_drew ?_ | with_reducible refine gr_drewN ?_ _ | with_reducible refine gr_trans ?_ (by assumption) | with_reducible refine gr_set ?_ ?_ _ | (simp; done) | omega | (simp; omega)))⟩
    · have hub : decide (0 < u) = false := by simpa using hu
      go_wp2_with fail
      refine (drawQ_any _ a len cap zs _ S8.out).mono ?_
      rintro e w9 ⟨p, q, r, rfl, S9', G9⟩
      have S9 := hid S9'
      have R9 := R8.gk G9 (by omega)
      have U9 := Gk.out U8 G9 (by omega)
      have hs9 := S9'.lt
      have hR9 := R9.lt
      clear S9' G9 R8 U8 S8
      obtain ⟨_, r0, r1, r2, f0, f1, f2⟩ := id R9
      go_wp2
      refine bodyPost_ret (res_A3 (e := 2) rfl Try.underlying25 (by kernel_rfl) rfl (by (repeat (first | with_reducible assumption | with_reducible exact Arr3.box (by assumption) | with_reducible exact Arr3.new _ _ _ _ _ | with_reducible refine Arr3.drew ?_ | with_reducible refine Arr3.drewN ?_ _ | with_reducible refine Arr3.store3 ?_ | with_reducible refine Arr3.alloc ?_ _ | with_reducible refine Arr3.next ?_ (by assumption) | refine Arr3.oth ?_ (by first | (simp; done) | omega | (simp; omega)) _ )))) rfl ?_
      exact ⟨_, _, _, _, rfl, by (repeat' (first | with_reducible exact Below.refl _ _ | with_reducible assumption | with_reducible refine gr_alloc ?_ _ | with_reducible refine gr_drew ?_ | with_reducible refine gr_drewN ?_ _ | with_reducible refine gr_trans ?_ (by assumption) | with_reducible refine gr_set ?_ ?_ _ | (simp; done) | omega | (simp; omega)))⟩
  · have hc' : (c == 0) = false := by simpa using hc
    clear hc
    go_wp2_with fail
    refine (drawQ_any _ a len cap zs _ S7.out).mono ?_
    rintro e w8 ⟨p, q, r, rfl, S8', G8⟩
    have S8 := hid S8'
    have R8 := R7.gk G8 (by omega)
    have U8 := Gk.out U7 G8 (by omega)
    have hs8 := S8'.lt
    have hR8 := R8.lt
    clear S8' G8 R7 U7 S7
    obtain ⟨_, r0, r1, r2, f0, f1, f2⟩ := id R8
    go_wp2
    refine bodyPost_ret (res_A3 (e := 2) rfl Try.underlying25 (by kernel_rfl) rfl (by (repeat (first | with_reducible assumption | with_reducible exact Arr3.box (by assumption) | with_reducible exact Arr3.new _ _ _ _ _ | with_reducible refine Arr3.drew ?_ | with_reducible refine Arr3.drewN ?_ _ | with_reducible refine Arr3.store3 ?_ | with_reducible refine Arr3.alloc ?_ _ | with_reducible refine Arr3.next ?_ (by assumption) | refine Arr3.oth ?_ (by first | (simp; done) | omega | (simp; omega)) _ )))) rfl ?_
    exact ⟨_, _, _, _, rfl, by (repeat' (first | with_reducible exact Below.refl _ _ | with_reducible assumption | with_reducible refine gr_alloc ?_ _ | with_reducible refine gr_drew ?_ | with_reducible refine gr_drewN ?_ _ | with_reducible refine gr_trans ?_ (by assumption) | with_reducible refine gr_set ?_ ?_ _ | (simp; done) | omega | (simp; omega)))⟩

set_option maxRecDepth 100000 in
set_option maxHeartbeats 4000000 in
theorem drawCq_any (a : Option Addr) (len cap : Nat) (zs : List Int) (w : World) (hR : IsRow .u8 w a len cap zs) (hlen : len ≤ 9223372036854775807) :
    Calls Try.prog 6 #[.slice a len cap] w (QQO w) := by
  have R0 := (Arr3.new w 0 0 0 25).alloc (.cells #[.int .i64 0, .int .i64 0, .int .i64 0] 25)
  have Q0 := Arr3.new (w.alloc (.cells #[.int .i64 0, .int .i64 0, .int .i64 0] 25)) 0 0 0 25
  simp only [World.size_alloc] at Q0
  have U0 := gr_alloc (gr_alloc (Below.refl w.heap.size w) (.cells #[.int .i64 0, .int .i64 0, .int .i64 0] 25)) (.cells #[.int .i64 0, .int .i64 0, .int .i64 0] 25)
  have hR0 := row8_nx hR (gr_alloc (gr_alloc (Below.refl w.heap.size w) (.cells #[.int .i64 0, .int .i64 0, .int .i64 0] 25)) (.cells #[.int .i64 0, .int .i64 0, .int .i64 0] 25))
  clear hR
  go_enter Try.func6, Try.ntmps6
  go_wp2_with fail
  refine (from_any a len cap zs _ hR0 hlen).mono ?_
  rintro e w1 ⟨rfl, S1', hb1⟩
  have R1 := R0.next hb1
  have Q1 := Q0.next hb1
  have U1 := gr_trans U0 hb1
  simp only [World.size_alloc] at S1' ⊢
  have S1 := hid S1'
  clear S1' hR0 R0 Q0 U0 hb1
  go_wp2_with fail
  refine (disc_any _ a len cap zs _ S1.out).mono ?_
  rintro e w2 ⟨d, rfl, S2', G2⟩
  have S2 := hid S2'
  have R2 := R1.gk G2 (by omega)
  have Q2 := Q1.gk G2 (by omega)
  have U2 := Gk.out U1 G2 (by omega)
  have hs2 := S2'.lt
  have hR2 := R2.lt
  have hQ2 := Q2.lt
  clear S2' G2 R1 Q1 U1 S1
  go_wp2_with fail
  refine (next_any _ a len cap zs _ _ S2.out).mono ?_
  rintro e w3 ⟨x, rfl, _, _, S3', G3⟩
  have S3 := hid S3'
  have R3 := R2.gk G3 (by omega)
  have Q3 := Q2.gk G3 (by omega)
  have U3 := Gk.out U2 G3 (by omega)
  have hs3 := S3'.lt
  have hR3 := R3.lt
  have hQ3 := Q3.lt
  clear S3' G3 R2 Q2 U2 S2
  by_cases hx : x = 0
  · subst hx
    go_wp2_with fail
    refine (drawQ_any _ a len cap zs _ S3.out).mono ?_
    rintro e w4 ⟨p, q, r, rfl, S4', G4⟩
    have S4 := hid S4'
    have R4 := R3.gk G4 (by omega)
    have Q4 := Q3.gk G4 (by omega)
    have U4 := Gk.out U3 G4 (by omega)
    have hs4 := S4'.lt
    have hR4 := R4.lt
    have hQ4 := Q4.lt
    clear S4' G4 R3 Q3 U3 S3
    go_wp2_with fail
    refine (drawQ_any _ a len cap zs _ S4.out).mono ?_
    rintro e w5 ⟨x, y, z, rfl, S5', G5⟩
    have S5 := hid S5'
    have R5 := R4.gk G5 (by omega)
    have Q5 := Q4.gk G5 (by omega)
    have U5 := Gk.out U4 G5 (by omega)
    have hs5 := S5'.lt
    have hR5 := R5.lt
    have hQ5 := Q5.lt
    clear S5' G5 R4 Q4 U4 S4
    obtain ⟨_, r0, r1, r2, f0, f1, f2⟩ := id R5
    obtain ⟨_, q0, q1, q2, g0, g1, g2⟩ := id Q5
    have R6 := hid R5
    have Q6 := hid Q5
    go_wp2_with fail
    refine bodyPost_ret (res_QQ (e := 2) rfl Try.underlying25 (by kernel_rfl) rfl rfl (by exact (R6.out.set3d).oth3 (by omega)) (by exact (Q6.out.oth3 (by omega)).set3d)) rfl ?_
    exact ⟨_, _, _, _, _, _, rfl, by (repeat' (first | with_reducible exact Below.refl _ _ | with_reducible assumption | with_reducible refine gr_alloc ?_ _ | with_reducible refine gr_drew ?_ | with_reducible refine gr_drewN ?_ _ | with_reducible refine gr_trans ?_ (by assumption) | with_reducible refine gr_set ?_ ?_ _ | (simp; done) | omega | (simp; omega)))⟩
  · have hx' : (x == 0) = false := by simpa using hx
    clear hx
    go_wp2_with fail
    refine (drawIn_any _ a len cap zs d _ S3.out).mono ?_
    rintro e w4 ⟨p, q, r, rfl, S4', G4⟩
    have S4 := hid S4'
    have R4 := R3.gk G4 (by omega)
    have Q4 := Q3.gk G4 (by omega)
    have U4 := Gk.out U3 G4 (by omega)
    have hs4 := S4'.lt
    have hR4 := R4.lt
    have hQ4 := Q4.lt
    clear S4' G4 R3 Q3 U3 S3
    go_wp2_with fail
    refine (drawIn_any _ a len cap zs d _ S4.out).mono ?_
    rintro e w5 ⟨x, y, z, rfl, S5', G5⟩
    have S5 := hid S5'
    have R5 := R4.gk G5 (by omega)
    have Q5 := Q4.gk G5 (by omega)
    have U5 := Gk.out U4 G5 (by omega)
    have hs5 := S5'.lt
    have hR5 := R5.lt
    have hQ5 := Q5.lt
    clear S5' G5 R4 Q4 U4 S4
    obtain ⟨_, r0, r1, r2, f0, f1, f2⟩ := id R5
    obtain ⟨_, q0, q1, q2, g0, g1, g2⟩ := id Q5
    have R6 := hid R5
    have Q6 := hid Q5
    go_wp2_with fail
    refine bodyPost_ret (res_QQ (e := 2) rfl Try.underlying25 (by kernel_rfl) rfl rfl (by exact (R6.out.set3d).oth3 (by omega)) (by exact (Q6.out.oth3 (by omega)).set3d)) rfl ?_
    exact ⟨_, _, _, _, _, _, rfl, by (repeat' (first | with_reducible exact Below.refl _ _ | with_reducible assumption | with_reducible refine gr_alloc ?_ _ | with_reducible refine gr_drew ?_ | with_reducible refine gr_drewN ?_ _ | with_reducible refine gr_trans ?_ (by assumption) | with_reducible refine gr_set ?_ ?_ _ | (simp; done) | omega | (simp; omega)))⟩

end Go.Proofs.Ytehbkmohfipmgaa
