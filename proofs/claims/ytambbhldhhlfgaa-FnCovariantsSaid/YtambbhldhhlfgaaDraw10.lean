/- Draws of chapter 3: those that the laws use. -/
import Derived.Test.YtambbhldhhlfgaaDraw9
import Derived.Deep.RegionHeld3
namespace Go.Proofs.Ytambbhldhhlfgaa
open Go.ChangeShapes Go.WideShapes Go.ChangeAt Go.RowKit

def QudOut (w : World) (e : Ending) (w' : World) : Prop := ∃ p q r : Int, e = .returned (.agg #[.int .i64 p, .int .i64 q, .int .i64 r]) ∧ Below w.heap.size w w'
def QMOut (w : World) (e : Ending) (w' : World) : Prop := ∃ p q r a b c d : Int, e = .returned (.tuple #[.agg #[.int .i64 p, .int .i64 q, .int .i64 r], .agg #[.int .i64 a, .int .i64 b, .int .i64 c, .int .i64 d]]) ∧ Below w.heap.size w w'
def QIIOut (w : World) (e : Ending) (w' : World) : Prop := ∃ p q r x y : Int, e = .returned (.tuple #[.agg #[.int .i64 p, .int .i64 q, .int .i64 r], .int .i64 x, .int .i64 y]) ∧ Below w.heap.size w w'
theorem res_AQ {P : Program} {fn : Func} {p p' : Tmp} {ty e ty' e' : TypeId} {tmps : Array Value} {w : World} {b b' : Nat} {x0 x1 x2 y0 y1 y2 y3 : Int} (h : fn.results = #[.cell p ty, .cell p' ty']) (hu : P.underlying ty = some (.array 3 e)) (hi : (P.info? ty).map (·.size) = some 3)
    (hu' : P.underlying ty' = some (.array 4 e')) (hi' : (P.info? ty').map (·.size) = some 4) (hp : tmps.getD p undef = .pointer (some ⟨b, 0, none⟩)) (hp' : tmps.getD p' undef = .pointer (some ⟨b', 0, none⟩)) (hA : Arr3 w b x0 x1 x2) (hB : Arr w b' y0 y1 y2 y3) :
    (results fn tmps).run P w = .ok (.tuple #[.agg #[.int .i64 x0, .int .i64 x1, .int .i64 x2], .agg #[.int .i64 y0, .int .i64 y1, .int .i64 y2, .int .i64 y3]]) w := by
  have hq : tmps[p]?.getD undef = .pointer (some ⟨b, 0, none⟩) := by simpa using hp
  have hq' : tmps[p']?.getD undef = .pointer (some ⟨b', 0, none⟩) := by simpa using hp'
  simp [results, h, hq, hq', asAddr, loadVar3 w b ty e _ _ _ hu hi hA.c0 hA.c1 hA.c2, loadVar4 w b' ty' e' _ _ _ _ hu' hi' hB.c0 hB.c1 hB.c2 hB.c3]
theorem res_QII {P : Program} {fn : Func} {p u v : Tmp} {ty e : TypeId} {tmps : Array Value} {w : World} {b : Nat} {x0 x1 x2 : Int} (h : fn.results = #[.cell p ty, .tmp u, .tmp v]) (hu : P.underlying ty = some (.array 3 e)) (hi : (P.info? ty).map (·.size) = some 3)
    (hp : tmps.getD p undef = .pointer (some ⟨b, 0, none⟩)) (hA : Arr3 w b x0 x1 x2) :
    (results fn tmps).run P w = .ok (.tuple #[.agg #[.int .i64 x0, .int .i64 x1, .int .i64 x2], tmps.getD u undef, tmps.getD v undef]) w := by
  have hq : tmps[p]?.getD undef = .pointer (some ⟨b, 0, none⟩) := by simpa using hp
  simp [results, h, hq, asAddr, loadVar3 w b ty e _ _ _ hu hi hA.c0 hA.c1 hA.c2]

set_option maxHeartbeats 1000000 in
theorem drawHes_any (a : Option Addr) (len cap : Nat) (zs : List Int) (w : World) (hR : IsRow .u8 w a len cap zs) (hlen : len ≤ 9223372036854775807) :
    Calls Try.prog 25 #[.slice a len cap] w (FrmOut w) := by
  have R0 := Arr.new w 0 0 0 0 25
  have U0 := gr_alloc (Below.refl w.heap.size w) (.cells #[.int .i64 0, .int .i64 0, .int .i64 0, .int .i64 0] 25)
  have hR0 := row8_next hR U0
  clear hR
  go_enter Try.func25, Try.ntmps25
  go_wp2_with fail
  refine (from_any a len cap zs _ hR0 hlen).mono ?_
  rintro e w1 ⟨rfl, S1', hb1⟩
  have S1 := hid S1'
  have R1 := R0.next hb1
  have U1 := gr_trans U0 hb1
  clear S1' hR0 R0 U0 hb1
  simp only [World.size_alloc] at S1 ⊢
  go_wp2_with fail
  refine (spoil_any _ a len cap zs _ S1.out).mono ?_
  rintro e w2 ⟨p, q, r, s, rfl, S2, G2⟩
  have R2 := R1.gk G2 (by omega)
  have U2 := Gk.out U1 G2 (by omega)
  clear S1 S2 R1 U1 G2
  obtain ⟨_, r0, r1, r2, r3, f0, f1, f2, f3⟩ := id R2
  go_wp2_with fail
  refine bodyPost_ret (res_A1 (e := 2) rfl Try.underlying25 (by kernel_rfl) rfl (by (repeat (first | with_reducible assumption | with_reducible exact Arr.box (by assumption) | with_reducible exact Box.new _ _ _ _ _ _ | with_reducible exact Arr.new _ _ _ _ _ _ | with_reducible refine Arr.drew ?_ | with_reducible refine Arr.drewN ?_ _ | with_reducible refine Arr.store4 ?_ | with_reducible refine Arr.alloc ?_ _ | with_reducible refine Box.drew ?_ | with_reducible refine Box.drewN ?_ _ | with_reducible refine Box.alloc ?_ _ | with_reducible refine Arr.next ?_ (by assumption) | with_reducible refine Box.next ?_ (by assumption) | refine Arr.oth ?_ (by first | (simp; done) | omega | (simp; omega)) _ | refine Box.oth ?_ (by first | (simp; done) | omega | (simp; omega)) _ | with_reducible exact Arr3.box (by assumption) | with_reducible exact Box3.new _ _ _ _ _ | with_reducible exact Arr3.new _ _ _ _ _ | with_reducible refine Arr3.drew ?_ | with_reducible refine Arr3.drewN ?_ _ | with_reducible refine Arr3.store3 ?_ | with_reducible refine Arr3.alloc ?_ _ | with_reducible refine Box3.drew ?_ | with_reducible refine Box3.drewN ?_ _ | with_reducible refine Box3.alloc ?_ _ | with_reducible refine Arr3.next ?_ (by assumption) | with_reducible refine Box3.next ?_ (by assumption) | refine Arr3.oth ?_ (by first | (simp; done) | omega | (simp; omega)) _ | refine Box3.oth ?_ (by first | (simp; done) | omega | (simp; omega)) _)))) rfl ?_
  exact ⟨_, _, _, _, rfl, by (repeat' (first | with_reducible exact Below.refl _ _ | with_reducible assumption | with_reducible refine gr_alloc ?_ _ | with_reducible refine gr_drew ?_ | with_reducible refine gr_drewN ?_ _ | with_reducible refine gr_trans ?_ (by assumption) | with_reducible refine gr_set ?_ ?_ _ | (simp; done) | omega | (simp; omega)))⟩

set_option maxHeartbeats 1000000 in
theorem drawQD_any (a : Option Addr) (len cap : Nat) (zs : List Int) (w : World) (hR : IsRow .u8 w a len cap zs) (hlen : len ≤ 9223372036854775807) :
    Calls Try.prog 40 #[.slice a len cap] w (QudOut w) := by
  have R0 := Arr3.new w 0 0 0 49
  have U0 := gr_alloc (Below.refl w.heap.size w) (.cells #[.int .i64 0, .int .i64 0, .int .i64 0] 49)
  have hR0 := row8_next hR U0
  clear hR
  go_enter Try.func40, Try.ntmps40
  go_wp2_with fail
  refine (from_any a len cap zs _ hR0 hlen).mono ?_
  rintro e w1 ⟨rfl, S1', hb1⟩
  have S1 := hid S1'
  have R1 := R0.next hb1
  have U1 := gr_trans U0 hb1
  clear S1' hR0 R0 U0 hb1
  simp only [World.size_alloc] at S1 ⊢
  go_wp2_with fail
  refine (qdraw_any _ a len cap zs _ S1.out).mono ?_
  rintro e w2 ⟨p, q, r, rfl, S2, G2⟩
  have R2 := R1.gk G2 (by omega)
  have U2 := Gk.out U1 G2 (by omega)
  clear S1 S2 R1 U1 G2
  obtain ⟨_, r0, r1, r2, f0, f1, f2⟩ := id R2
  go_wp2_with fail
  refine bodyPost_ret (res_A31 (e := 2) rfl Try.underlying49 (by kernel_rfl) rfl (by (repeat (first | with_reducible assumption | with_reducible exact Arr.box (by assumption) | with_reducible exact Box.new _ _ _ _ _ _ | with_reducible exact Arr.new _ _ _ _ _ _ | with_reducible refine Arr.drew ?_ | with_reducible refine Arr.drewN ?_ _ | with_reducible refine Arr.store4 ?_ | with_reducible refine Arr.alloc ?_ _ | with_reducible refine Box.drew ?_ | with_reducible refine Box.drewN ?_ _ | with_reducible refine Box.alloc ?_ _ | with_reducible refine Arr.next ?_ (by assumption) | with_reducible refine Box.next ?_ (by assumption) | refine Arr.oth ?_ (by first | (simp; done) | omega | (simp; omega)) _ | refine Box.oth ?_ (by first | (simp; done) | omega | (simp; omega)) _ | with_reducible exact Arr3.box (by assumption) | with_reducible exact Box3.new _ _ _ _ _ | with_reducible exact Arr3.new _ _ _ _ _ | with_reducible refine Arr3.drew ?_ | with_reducible refine Arr3.drewN ?_ _ | with_reducible refine Arr3.store3 ?_ | with_reducible refine Arr3.alloc ?_ _ | with_reducible refine Box3.drew ?_ | with_reducible refine Box3.drewN ?_ _ | with_reducible refine Box3.alloc ?_ _ | with_reducible refine Arr3.next ?_ (by assumption) | with_reducible refine Box3.next ?_ (by assumption) | refine Arr3.oth ?_ (by first | (simp; done) | omega | (simp; omega)) _ | refine Box3.oth ?_ (by first | (simp; done) | omega | (simp; omega)) _)))) rfl ?_
  exact ⟨_, _, _, rfl, by (repeat' (first | with_reducible exact Below.refl _ _ | with_reducible assumption | with_reducible refine gr_alloc ?_ _ | with_reducible refine gr_drew ?_ | with_reducible refine gr_drewN ?_ _ | with_reducible refine gr_trans ?_ (by assumption) | with_reducible refine gr_set ?_ ?_ _ | (simp; done) | omega | (simp; omega)))⟩

set_option maxHeartbeats 1000000 in
theorem drawDf_any (a : Option Addr) (len cap : Nat) (zs : List Int) (w : World) (hR : IsRow .u8 w a len cap zs) (hlen : len ≤ 9223372036854775807) :
    Calls Try.prog 42 #[.slice a len cap] w (QudOut w) := by
  have R0 := Arr3.new w 0 0 0 49
  have U0 := gr_alloc (Below.refl w.heap.size w) (.cells #[.int .i64 0, .int .i64 0, .int .i64 0] 49)
  have hR0 := row8_next hR U0
  clear hR
  go_enter Try.func42, Try.ntmps42
  go_wp2_with fail
  refine (from_any a len cap zs _ hR0 hlen).mono ?_
  rintro e w1 ⟨rfl, S1', hb1⟩
  have S1 := hid S1'
  have R1 := R0.next hb1
  have U1 := gr_trans U0 hb1
  clear S1' hR0 R0 U0 hb1
  simp only [World.size_alloc] at S1 ⊢
  go_wp2_with fail
  refine (qdraw_any _ a len cap zs _ S1.out).mono ?_
  rintro e w2 ⟨p, q, r, rfl, S2, G2⟩
  have R2 := R1.gk G2 (by omega)
  have U2 := Gk.out U1 G2 (by omega)
  clear S1 S2 R1 U1 G2
  obtain ⟨_, r0, r1, r2, f0, f1, f2⟩ := id R2
  go_wp2_with fail
  refine bodyPost_ret (res_A31 (e := 2) rfl Try.underlying49 (by kernel_rfl) rfl (by (repeat (first | with_reducible assumption | with_reducible exact Arr.box (by assumption) | with_reducible exact Box.new _ _ _ _ _ _ | with_reducible exact Arr.new _ _ _ _ _ _ | with_reducible refine Arr.drew ?_ | with_reducible refine Arr.drewN ?_ _ | with_reducible refine Arr.store4 ?_ | with_reducible refine Arr.alloc ?_ _ | with_reducible refine Box.drew ?_ | with_reducible refine Box.drewN ?_ _ | with_reducible refine Box.alloc ?_ _ | with_reducible refine Arr.next ?_ (by assumption) | with_reducible refine Box.next ?_ (by assumption) | refine Arr.oth ?_ (by first | (simp; done) | omega | (simp; omega)) _ | refine Box.oth ?_ (by first | (simp; done) | omega | (simp; omega)) _ | with_reducible exact Arr3.box (by assumption) | with_reducible exact Box3.new _ _ _ _ _ | with_reducible exact Arr3.new _ _ _ _ _ | with_reducible refine Arr3.drew ?_ | with_reducible refine Arr3.drewN ?_ _ | with_reducible refine Arr3.store3 ?_ | with_reducible refine Arr3.alloc ?_ _ | with_reducible refine Box3.drew ?_ | with_reducible refine Box3.drewN ?_ _ | with_reducible refine Box3.alloc ?_ _ | with_reducible refine Arr3.next ?_ (by assumption) | with_reducible refine Box3.next ?_ (by assumption) | refine Arr3.oth ?_ (by first | (simp; done) | omega | (simp; omega)) _ | refine Box3.oth ?_ (by first | (simp; done) | omega | (simp; omega)) _)))) rfl ?_
  exact ⟨_, _, _, rfl, by (repeat' (first | with_reducible exact Below.refl _ _ | with_reducible assumption | with_reducible refine gr_alloc ?_ _ | with_reducible refine gr_drew ?_ | with_reducible refine gr_drewN ?_ _ | with_reducible refine gr_trans ?_ (by assumption) | with_reducible refine gr_set ?_ ?_ _ | (simp; done) | omega | (simp; omega)))⟩

set_option maxRecDepth 100000 in
set_option maxHeartbeats 4000000 in
theorem drawQAt_any (a : Option Addr) (len cap : Nat) (zs : List Int) (w : World) (hR : IsRow .u8 w a len cap zs) (hlen : len ≤ 9223372036854775807) :
    Calls Try.prog 38 #[.slice a len cap] w (QIIOut w) := by
  have R0 := Arr3.new w 0 0 0 49
  have U0 := gr_alloc (Below.refl w.heap.size w) (.cells #[.int .i64 0, .int .i64 0, .int .i64 0] 49)
  have hR0 := row8_next hR U0
  clear hR
  go_enter Try.func38, Try.ntmps38
  go_wp2_with fail
  refine (from_any a len cap zs _ hR0 hlen).mono ?_
  rintro e w1 ⟨rfl, S1', hb1⟩
  have S1 := hid S1'
  have R1 := R0.next hb1
  have U1 := gr_trans U0 hb1
  clear S1' hR0 R0 U0 hb1
  simp only [World.size_alloc] at S1 ⊢
  generalize hk : w.heap.size + 1 = k at S1 ⊢
  have HK := hid hk
  go_wp2_with fail
  refine (qdraw_any _ a len cap zs _ S1.out).mono ?_
  rintro e w2 ⟨p, q, r, rfl, S2', G2⟩
  have R2 := R1.gk G2 (by omega)
  have U2 := Gk.out U1 G2 (by omega)
  clear S1 R1 U1 G2
  have hwl := R2.lt
  have hL := lit_cells w2 2 [2, 10, 100]
  have HL := hid hL
  clear hL
  have S3 := hid (S2'.alloc (.cells #[.int .i64 2, .int .i64 10, .int .i64 100] 2))
  have R3 := R2.alloc (.cells #[.int .i64 2, .int .i64 10, .int .i64 100] 2)
  have U3 := gr_alloc U2 (.cells #[.int .i64 2, .int .i64 10, .int .i64 100] 2)
  have hk2 := S2'.lt
  clear S2' R2 U2
  go_wp2_with fail
  refine (pick_any k a len cap zs _ 3 _ S3.out (by omega) (by omega) (by simp) (by omega) HL.out).mono ?_
  rintro e w4 ⟨x4, rfl, S4', G4⟩
  have R4 := R3.gk G4 (by omega)
  have U4 := Gk.out U3 G4 (by omega)
  have hk4 := S4'.lt
  have hR4 := R4.lt
  have X5 := Arr3.new w4 p q r 49
  have S5 := hid (S4'.alloc (.cells #[.int .i64 p, .int .i64 q, .int .i64 r] 49))
  have R5 := R4.alloc (.cells #[.int .i64 p, .int .i64 q, .int .i64 r] 49)
  have U5 := gr_alloc U4 (.cells #[.int .i64 p, .int .i64 q, .int .i64 r] 49)
  clear S3 R3 U3 G4 S4' R4 U4 HL hwl hk2
  obtain ⟨j, hj⟩ : ∃ j, j = w4.heap.size := ⟨_, rfl⟩
  rw [← hj] at X5 hk4 hR4
  have HJ := hid hj
  clear hj
  go_wp2_with fail
  rw [← HJ.out]
  refine (part_any k a len cap zs _ _ S5.out).mono ?_
  rintro e w6 ⟨x6, rfl, S6', G6⟩
  have S6 := hid S6'
  have R6 := R5.gk G6 (by omega)
  have X6 := X5.gk G6 (by omega)
  have U6 := Gk.out U5 G6 (by omega)
  clear S6' G6 R5 X5 U5 S5
  go_wp2_with fail
  refine (part_any k a len cap zs _ _ S6.out).mono ?_
  rintro e w7 ⟨x7, rfl, S7', G7⟩
  have S7 := hid S7'
  have R7 := R6.gk G7 (by omega)
  have X7 := X6.gk G7 (by omega)
  have U7 := Gk.out U6 G7 (by omega)
  clear S7' G7 R6 X6 U6 S6
  go_wp2_with fail
  refine (next_any k a len cap zs _ _ S7.out).mono ?_
  rintro e w8 ⟨x8, rfl, hx8, hy8, S8', G8⟩
  have S8 := hid S8'
  have R8 := R7.gk G8 (by omega)
  have X8 := X7.gk G8 (by omega)
  have U8 := Gk.out U7 G8 (by omega)
  clear S8' G8 R7 X7 U7 S7 hx8 hy8
  by_cases hx : x8 = 0
  · subst hx
    have hwl := R8.lt
    have hL := lit_cells w8 2 [101, -101]
    have HL := hid hL
    clear hL
    have S9 := hid (S8.out.alloc (.cells #[.int .i64 101, .int .i64 (-101)] 2))
    have R9 := R8.alloc (.cells #[.int .i64 101, .int .i64 (-101)] 2)
    have X9 := X8.alloc (.cells #[.int .i64 101, .int .i64 (-101)] 2)
    have U9 := gr_alloc U8 (.cells #[.int .i64 101, .int .i64 (-101)] 2)
    have hk8 := S8.out.lt
    clear S8 R8 X8 U8
    go_wp2_with fail
    refine (pick_any k a len cap zs _ 2 _ S9.out (by omega) (by omega) (by simp) (by omega) HL.out).mono ?_
    rintro e w10 ⟨x10, rfl, S10, G10⟩
    have R10 := R9.gk G10 (by omega)
    have X10 := X9.gk G10 (by omega)
    have U10 := Gk.out U9 G10 (by omega)
    clear S9 R9 X9 U9 G10 S10 HL
    obtain ⟨_, y0, y1, y2, _⟩ := id X10
    obtain ⟨_, r0, r1, r2, f0, f1, f2⟩ := id R10
    go_wp2_with fail
    refine bodyPost_ret (res_QII (e := 2) rfl Try.underlying49 (by kernel_rfl) rfl (by (repeat (first | with_reducible assumption | with_reducible exact Arr.box (by assumption) | with_reducible exact Box.new _ _ _ _ _ _ | with_reducible exact Arr.new _ _ _ _ _ _ | with_reducible refine Arr.drew ?_ | with_reducible refine Arr.drewN ?_ _ | with_reducible refine Arr.store4 ?_ | with_reducible refine Arr.alloc ?_ _ | with_reducible refine Box.drew ?_ | with_reducible refine Box.drewN ?_ _ | with_reducible refine Box.alloc ?_ _ | with_reducible refine Arr.next ?_ (by assumption) | with_reducible refine Box.next ?_ (by assumption) | refine Arr.oth ?_ (by first | (simp; done) | omega | (simp; omega)) _ | refine Box.oth ?_ (by first | (simp; done) | omega | (simp; omega)) _ | with_reducible exact Arr3.box (by assumption) | with_reducible exact Box3.new _ _ _ _ _ | with_reducible exact Arr3.new _ _ _ _ _ | with_reducible refine Arr3.drew ?_ | with_reducible refine Arr3.drewN ?_ _ | with_reducible refine Arr3.store3 ?_ | with_reducible refine Arr3.alloc ?_ _ | with_reducible refine Box3.drew ?_ | with_reducible refine Box3.drewN ?_ _ | with_reducible refine Box3.alloc ?_ _ | with_reducible refine Arr3.next ?_ (by assumption) | with_reducible refine Box3.next ?_ (by assumption) | refine Arr3.oth ?_ (by first | (simp; done) | omega | (simp; omega)) _ | refine Box3.oth ?_ (by first | (simp; done) | omega | (simp; omega)) _)))) rfl ?_
    exact ⟨_, _, _, _, _, rfl, by (repeat' (first | with_reducible exact Below.refl _ _ | with_reducible assumption | with_reducible refine gr_alloc ?_ _ | with_reducible refine gr_drew ?_ | with_reducible refine gr_drewN ?_ _ | with_reducible refine gr_trans ?_ (by assumption) | with_reducible refine gr_set ?_ ?_ _ | (simp; done) | omega | (simp; omega)))⟩
  · have hx' : (x8 == 0) = false := by simpa using hx
    clear hx
    obtain ⟨_, y0, y1, y2, _⟩ := id X8
    obtain ⟨_, r0, r1, r2, f0, f1, f2⟩ := id R8
    go_wp2_with fail
    refine bodyPost_ret (res_QII (e := 2) rfl Try.underlying49 (by kernel_rfl) rfl (by (repeat (first | with_reducible assumption | with_reducible exact Arr.box (by assumption) | with_reducible exact Box.new _ _ _ _ _ _ | with_reducible exact Arr.new _ _ _ _ _ _ | with_reducible refine Arr.drew ?_ | with_reducible refine Arr.drewN ?_ _ | with_reducible refine Arr.store4 ?_ | with_reducible refine Arr.alloc ?_ _ | with_reducible refine Box.drew ?_ | with_reducible refine Box.drewN ?_ _ | with_reducible refine Box.alloc ?_ _ | with_reducible refine Arr.next ?_ (by assumption) | with_reducible refine Box.next ?_ (by assumption) | refine Arr.oth ?_ (by first | (simp; done) | omega | (simp; omega)) _ | refine Box.oth ?_ (by first | (simp; done) | omega | (simp; omega)) _ | with_reducible exact Arr3.box (by assumption) | with_reducible exact Box3.new _ _ _ _ _ | with_reducible exact Arr3.new _ _ _ _ _ | with_reducible refine Arr3.drew ?_ | with_reducible refine Arr3.drewN ?_ _ | with_reducible refine Arr3.store3 ?_ | with_reducible refine Arr3.alloc ?_ _ | with_reducible refine Box3.drew ?_ | with_reducible refine Box3.drewN ?_ _ | with_reducible refine Box3.alloc ?_ _ | with_reducible refine Arr3.next ?_ (by assumption) | with_reducible refine Box3.next ?_ (by assumption) | refine Arr3.oth ?_ (by first | (simp; done) | omega | (simp; omega)) _ | refine Box3.oth ?_ (by first | (simp; done) | omega | (simp; omega)) _)))) rfl ?_
    exact ⟨_, _, _, _, _, rfl, by (repeat' (first | with_reducible exact Below.refl _ _ | with_reducible assumption | with_reducible refine gr_alloc ?_ _ | with_reducible refine gr_drew ?_ | with_reducible refine gr_drewN ?_ _ | with_reducible refine gr_trans ?_ (by assumption) | with_reducible refine gr_set ?_ ?_ _ | (simp; done) | omega | (simp; omega)))⟩

theorem below_set6 {B : Nat} {w w' : World} (h : Below B w w') {p : Addr} (hp : B ≤ p.block) (u : Value) : Below B w (w'.setCell p u) := h.setCell hp u

set_option maxRecDepth 100000 in
set_option maxHeartbeats 4000000 in
theorem multiple_any (a : Option Addr) (len cap : Nat) (zs : List Int) (w : World) (hR : IsRow .u8 w a len cap zs) (hlen : len ≤ 9223372036854775807) :
    Calls Try.prog 97 #[.slice a len cap] w (FrmOut w) := by
  have R0 := Arr.new w 0 0 0 0 25
  have U0 := gr_alloc (Below.refl w.heap.size w) (.cells #[.int .i64 0, .int .i64 0, .int .i64 0, .int .i64 0] 25)
  have hR0 := row8_next hR U0
  clear hR
  go_enter Try.func97, Try.ntmps97
  go_wp2_with fail
  refine (from_any a len cap zs _ hR0 hlen).mono ?_
  rintro e w1 ⟨rfl, S1', hb1⟩
  have S1 := hid S1'
  have R1 := R0.next hb1
  have U1 := gr_trans U0 hb1
  clear S1' hR0 R0 U0 hb1
  simp only [World.size_alloc] at S1 ⊢
  generalize hk : w.heap.size + 1 = k at S1 ⊢
  go_wp2_with fail
  refine (draw_any _ a len cap zs _ S1.out).mono ?_
  rintro e w2 ⟨p, q, r, s, rfl, S2', G2⟩
  have R2 := R1.gk G2 (by omega)
  have U2 := Gk.out U1 G2 (by omega)
  clear S1 R1 U1 G2
  have hwl := R2.lt
  have hL := lit_cells w2 2 [0, 1, 2, 6, 15]
  have HL := hid hL
  clear hL
  have S3 := hid (S2'.alloc (.cells #[.int .i64 0, .int .i64 1, .int .i64 2, .int .i64 6, .int .i64 15] 2))
  have R3 := R2.alloc (.cells #[.int .i64 0, .int .i64 1, .int .i64 2, .int .i64 6, .int .i64 15] 2)
  have U3 := gr_alloc U2 (.cells #[.int .i64 0, .int .i64 1, .int .i64 2, .int .i64 6, .int .i64 15] 2)
  have hk2 := S2'.lt
  clear S2' R2 U2
  go_wp2_with fail
  refine (pick_any k a len cap zs _ 5 _ S3.out (by omega) (by omega) (by simp) (by omega) HL.out).mono ?_
  rintro e w4 ⟨x4, rfl, S4', G4⟩
  have R4 := R3.gk G4 (by omega)
  have U4 := Gk.out U3 G4 (by omega)
  have hk4 := S4'.lt
  have hR4 := R4.lt
  have X5 := Arr.new w4 p q r s 25
  have S5 := hid (S4'.alloc (.cells #[.int .i64 p, .int .i64 q, .int .i64 r, .int .i64 s] 25))
  have R5 := R4.alloc (.cells #[.int .i64 p, .int .i64 q, .int .i64 r, .int .i64 s] 25)
  have U5 := gr_alloc U4 (.cells #[.int .i64 p, .int .i64 q, .int .i64 r, .int .i64 s] 25)
  clear S3 R3 U3 G4 S4' R4 U4 HL hwl hk2
  obtain ⟨j, hj⟩ : ∃ j, j = w4.heap.size := ⟨_, rfl⟩
  rw [← hj] at X5 hk4 hR4
  go_wp2_with fail
  rw [← hj]
  generalize w4.alloc (.cells #[.int .i64 p, .int .i64 q, .int .i64 r, .int .i64 s] 25) = W5 at X5 S5 R5 U5 ⊢
  clear hj
  go_loopw [6] (fun s6 wr => ∃ (i : Nat), s6 = .int .i64 i ∧ i ≤ 4 ∧ Box wr j ∧ Arr wr w.heap.size 0 0 0 0 ∧ Hid (Src wr k a len cap zs) ∧ Below w.heap.size w wr) (fun s6 _ => 4 - (intOf s6).toNat)
  case atStart => exact ⟨0, rfl, by omega, X5.box, R5, S5, U5⟩
  case round =>
    obtain ⟨i, rfl, hi, ⟨y0, y1, y2, y3, X6⟩, R6, S6, U6⟩ := hrel
    clear X5 R5 S5 U5
    have hi' : i = 0 ∨ i = 1 ∨ i = 2 ∨ i = 3 ∨ i = 4 := by omega
    have hbel : w.heap.size ≤ j := by omega
    obtain ⟨_, c0, c1, c2, c3, g0, g1, g2, g3⟩ := id X6
    rcases hi' with rfl | rfl | rfl | rfl | rfl
    · go_wp2_with (go_at_call 66; refine (l01In_any _ _ _ _).mono ?_; rintro e w7 ⟨rfl, rfl⟩)
      · go_roundw
        case rel => exact ⟨1, rfl, by omega, Arr.box (X6.set0 _), R6.oth (by simp; omega) _, hid (S6.out.up (by simp; omega) _), below_set6 U6 hbel _⟩
        case measure => simp [intOf]
      · go_roundw
        case rel => exact ⟨1, rfl, by omega, X6.box, R6, S6, U6⟩
        case measure => simp [intOf]
    · go_wp2_with (go_at_call 66; refine (l01In_any _ _ _ _).mono ?_; rintro e w7 ⟨rfl, rfl⟩)
      · go_roundw
        case rel => exact ⟨2, rfl, by omega, Arr.box (X6.set1 _), R6.oth (by simp; omega) _, hid (S6.out.up (by simp; omega) _), below_set6 U6 hbel _⟩
        case measure => simp [intOf]
      · go_roundw
        case rel => exact ⟨2, rfl, by omega, X6.box, R6, S6, U6⟩
        case measure => simp [intOf]
    · go_wp2_with (go_at_call 66; refine (l01In_any _ _ _ _).mono ?_; rintro e w7 ⟨rfl, rfl⟩)
      · go_roundw
        case rel => exact ⟨3, rfl, by omega, Arr.box (X6.set2 _), R6.oth (by simp; omega) _, hid (S6.out.up (by simp; omega) _), below_set6 U6 hbel _⟩
        case measure => simp [intOf]
      · go_roundw
        case rel => exact ⟨3, rfl, by omega, X6.box, R6, S6, U6⟩
        case measure => simp [intOf]
    · go_wp2_with (go_at_call 66; refine (l01In_any _ _ _ _).mono ?_; rintro e w7 ⟨rfl, rfl⟩)
      · go_roundw
        case rel => exact ⟨4, rfl, by omega, Arr.box (X6.set3 _), R6.oth (by simp; omega) _, hid (S6.out.up (by simp; omega) _), below_set6 U6 hbel _⟩
        case measure => simp [intOf]
      · go_roundw
        case rel => exact ⟨4, rfl, by omega, X6.box, R6, S6, U6⟩
        case measure => simp [intOf]
    · go_wp2_with fail
      refine (bad_any k a len cap zs y0 y1 y2 y3 _ S6.out).mono ?_
      rintro e w7 ⟨p7, q7, r7, s7, rfl, S7, G7⟩
      have R7 := R6.gk G7 (by omega)
      have U7 := Gk.out U6 G7 (by omega)
      obtain ⟨_, r0, r1, r2, r3, f0, f1, f2, f3⟩ := id R7
      go_wp2_with fail
      refine bodyPost_ret (res_A1 (e := 2) rfl Try.underlying25 (by kernel_rfl) rfl (by (repeat (first | with_reducible assumption | with_reducible exact Arr.box (by assumption) | with_reducible exact Box.new _ _ _ _ _ _ | with_reducible exact Arr.new _ _ _ _ _ _ | with_reducible refine Arr.drew ?_ | with_reducible refine Arr.drewN ?_ _ | with_reducible refine Arr.store4 ?_ | with_reducible refine Arr.alloc ?_ _ | with_reducible refine Box.drew ?_ | with_reducible refine Box.drewN ?_ _ | with_reducible refine Box.alloc ?_ _ | with_reducible refine Arr.next ?_ (by assumption) | with_reducible refine Box.next ?_ (by assumption) | refine Arr.oth ?_ (by first | (simp; done) | omega | (simp; omega)) _ | refine Box.oth ?_ (by first | (simp; done) | omega | (simp; omega)) _)))) rfl ?_
      exact ⟨_, _, _, _, rfl, by (repeat' (first | with_reducible exact Below.refl _ _ | with_reducible assumption | with_reducible refine gr_alloc ?_ _ | with_reducible refine gr_drew ?_ | with_reducible refine gr_drewN ?_ _ | with_reducible refine gr_trans ?_ (by assumption) | with_reducible refine gr_set ?_ ?_ _ | (simp; done) | omega | (simp; omega)))⟩

set_option maxHeartbeats 1000000 in
theorem drawHC_any (a : Option Addr) (len cap : Nat) (zs : List Int) (w : World) (hR : IsRow .u8 w a len cap zs) (hlen : len ≤ 9223372036854775807) :
    Calls Try.prog 44 #[.slice a len cap] w (FrmOut w) := by
  have R0 := Arr.new w 0 0 0 0 25
  have U0 := gr_alloc (Below.refl w.heap.size w) (.cells #[.int .i64 0, .int .i64 0, .int .i64 0, .int .i64 0] 25)
  have hR0 := row8_next hR U0
  clear hR
  go_enter Try.func44, Try.ntmps44
  go_wp2_with fail
  refine (multiple_any a len cap zs _ hR0 hlen).mono ?_
  rintro e w1 ⟨p, q, r, s, rfl, hb1⟩
  have R1 := R0.next hb1
  have U1 := gr_trans U0 hb1
  clear R0 U0
  obtain ⟨_, r0, r1, r2, r3, f0, f1, f2, f3⟩ := id R1
  go_wp2_with fail
  refine bodyPost_ret (res_A1 (e := 2) rfl Try.underlying25 (by kernel_rfl) rfl (by (repeat (first | with_reducible assumption | with_reducible exact Arr.box (by assumption) | with_reducible exact Box.new _ _ _ _ _ _ | with_reducible exact Arr.new _ _ _ _ _ _ | with_reducible refine Arr.drew ?_ | with_reducible refine Arr.drewN ?_ _ | with_reducible refine Arr.store4 ?_ | with_reducible refine Arr.alloc ?_ _ | with_reducible refine Box.drew ?_ | with_reducible refine Box.drewN ?_ _ | with_reducible refine Box.alloc ?_ _ | with_reducible refine Arr.next ?_ (by assumption) | with_reducible refine Box.next ?_ (by assumption) | refine Arr.oth ?_ (by first | (simp; done) | omega | (simp; omega)) _ | refine Box.oth ?_ (by first | (simp; done) | omega | (simp; omega)) _)))) rfl ?_
  exact ⟨_, _, _, _, rfl, by (repeat' (first | with_reducible exact Below.refl _ _ | with_reducible assumption | with_reducible refine gr_alloc ?_ _ | with_reducible refine gr_drew ?_ | with_reducible refine gr_drewN ?_ _ | with_reducible refine gr_trans ?_ (by assumption) | with_reducible refine gr_set ?_ ?_ _ | (simp; done) | omega | (simp; omega)))⟩

end Go.Proofs.Ytambbhldhhlfgaa
