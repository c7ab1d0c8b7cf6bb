/- Draws of chapter 4 for FnRingProducts: a form and an element, a form and two elements, two elements and a number. -/
import Derived.Test.YtambbhldhhlfgaaDraw18
import Derived.Test.YtambbhldhhlfgaaDraw12
namespace Go.Proofs.Ytambbhldhhlfgaa
open Go.ChangeShapes Go.WideShapes Go.ChangeAt Go.RowKit

theorem lit_ex (w : World) (T : TypeId) (xs : List Int) (cs : Array Value) (n : Nat) (hc : cs = (xs.map (Value.int .i64)).toArray) (hn : n = xs.length) : ∀ i, i < n → ∃ x : Int, (w.alloc (.cells cs T)).cell? ⟨w.heap.size, i, none⟩ = some (.int .i64 x) := fun i hi => by
  subst hn; subst hc
  refine ⟨xs.getD i 0, ?_⟩
  simp [go_sem, List.getD, hi]

set_option maxHeartbeats 1000000 in
theorem near_any (k : Nat) (a : Option Addr) (len cap : Nat) (zs : List Int) (n : Int) (w : World) (hS : Src w k a len cap zs) :
    Calls Try.prog 63 #[.pointer (some ⟨k, 0, none⟩), .int .i64 n] w (NumPost k a len cap zs w) := by
  have hl := hS.lt
  go_enter Try.func63, Try.ntmps63
  go_wp2_with fail
  refine (next_any k a len cap zs _ _ hS).mono ?_
  rintro e w1 ⟨x, rfl, _, _, S1', G1⟩
  have S1 := hid S1'
  have hl1 := S1'.lt
  clear hS S1'
  by_cases hx : x = 0
  · have hb : (x == 0) = true := by simpa using hx
    have HL := hid (lit_ex w1 2 [-1, wrap64 (n + 1), 1099511627776, -4611686018427387904] #[.int .i64 (-1), .int .i64 (wrap64 (n + 1)), .int .i64 1099511627776, .int .i64 (-4611686018427387904)] 4 rfl rfl)
    have S2 := hid (S1.out.alloc (.cells #[.int .i64 (-1), .int .i64 (wrap64 (n + 1)), .int .i64 1099511627776, .int .i64 (-4611686018427387904)] 2))
    have G2 := G1.alloc (.cells #[.int .i64 (-1), .int .i64 (wrap64 (n + 1)), .int .i64 1099511627776, .int .i64 (-4611686018427387904)] 2)
    subst hx
    go_wp2_with fail
    refine (pick_any k a len cap zs _ 4 _ S2.out (by omega) (by omega) (by simp) (by omega) HL.out).mono ?_
    rintro e w3 ⟨x3, rfl, S3', G3⟩
    have S3 := hid S3'
    have G3' := G2.trans G3
    clear S3' G3 G2 S2 HL
    go_wp2
    go_ret
    exact ⟨_, rfl, S3.out, G3'⟩
  · have hb : (x == 0) = false := by simpa using hx
    clear hx
    go_wp2_with fail
    refine (next_any k a len cap zs _ _ S1.out).mono ?_
    rintro e w3 ⟨x3, rfl, _, _, S3', G3⟩
    have S3 := hid S3'
    have G3' := G1.trans G3
    clear S3' G3 S1
    go_wp2
    go_ret
    exact ⟨_, rfl, S3.out, G3'⟩

def FEOut (w : World) (e : Ending) (w' : World) : Prop := ∃ a b c d u v x : Int, e = .returned (.tuple #[.agg #[.int .i64 a, .int .i64 b, .int .i64 c, .int .i64 d], .agg #[.int .i64 u, .int .i64 v, .int .i64 x]]) ∧ Below w.heap.size w w'
def FEEOut (w : World) (e : Ending) (w' : World) : Prop := ∃ a b c d u v x p q r : Int, e = .returned (.tuple #[.agg #[.int .i64 a, .int .i64 b, .int .i64 c, .int .i64 d], .agg #[.int .i64 u, .int .i64 v, .int .i64 x], .agg #[.int .i64 p, .int .i64 q, .int .i64 r]]) ∧ Below w.heap.size w w'
def EEIOut (w : World) (e : Ending) (w' : World) : Prop := ∃ u v x p q r n : Int, e = .returned (.tuple #[.agg #[.int .i64 u, .int .i64 v, .int .i64 x], .agg #[.int .i64 p, .int .i64 q, .int .i64 r], .int .i64 n]) ∧ Below w.heap.size w w'
theorem res_FE {P : Program} {fn : Func} {p p' : Tmp} {ty e ty' e' : TypeId} {tmps : Array Value} {w : World} {b b' : Nat} {x0 x1 x2 x3 y0 y1 y2 : Int} (h : fn.results = #[.cell p ty, .cell p' ty']) (hu : P.underlying ty = some (.array 4 e)) (hi : (P.info? ty).map (·.size) = some 4)
    (hu' : P.underlying ty' = some (.array 3 e')) (hi' : (P.info? ty').map (·.size) = some 3) (hp : tmps.getD p undef = .pointer (some ⟨b, 0, none⟩)) (hp' : tmps.getD p' undef = .pointer (some ⟨b', 0, none⟩)) (hA : Arr w b x0 x1 x2 x3) (hB : Arr3 w b' y0 y1 y2) :
    (results fn tmps).run P w = .ok (.tuple #[.agg #[.int .i64 x0, .int .i64 x1, .int .i64 x2, .int .i64 x3], .agg #[.int .i64 y0, .int .i64 y1, .int .i64 y2]]) w := by
  have hq : tmps[p]?.getD undef = .pointer (some ⟨b, 0, none⟩) := by simpa using hp
  have hq' : tmps[p']?.getD undef = .pointer (some ⟨b', 0, none⟩) := by simpa using hp'
  simp [results, h, hq, hq', asAddr, loadVar4 w b ty e _ _ _ _ hu hi hA.c0 hA.c1 hA.c2 hA.c3, loadVar3 w b' ty' e' _ _ _ hu' hi' hB.c0 hB.c1 hB.c2]
theorem res_FEE {P : Program} {fn : Func} {p p' p'' : Tmp} {ty e ty' e' ty'' e'' : TypeId} {tmps : Array Value} {w : World} {b b' b'' : Nat} {x0 x1 x2 x3 y0 y1 y2 z0 z1 z2 : Int} (h : fn.results = #[.cell p ty, .cell p' ty', .cell p'' ty'']) (hu : P.underlying ty = some (.array 4 e)) (hi : (P.info? ty).map (·.size) = some 4)
    (hu' : P.underlying ty' = some (.array 3 e')) (hi' : (P.info? ty').map (·.size) = some 3) (hu'' : P.underlying ty'' = some (.array 3 e'')) (hi'' : (P.info? ty'').map (·.size) = some 3) (hp : tmps.getD p undef = .pointer (some ⟨b, 0, none⟩)) (hp' : tmps.getD p' undef = .pointer (some ⟨b', 0, none⟩)) (hp'' : tmps.getD p'' undef = .pointer (some ⟨b'', 0, none⟩)) (hA : Arr w b x0 x1 x2 x3) (hB : Arr3 w b' y0 y1 y2) (hC : Arr3 w b'' z0 z1 z2) :
    (results fn tmps).run P w = .ok (.tuple #[.agg #[.int .i64 x0, .int .i64 x1, .int .i64 x2, .int .i64 x3], .agg #[.int .i64 y0, .int .i64 y1, .int .i64 y2], .agg #[.int .i64 z0, .int .i64 z1, .int .i64 z2]]) w := by
  have hq : tmps[p]?.getD undef = .pointer (some ⟨b, 0, none⟩) := by simpa using hp
  have hq' : tmps[p']?.getD undef = .pointer (some ⟨b', 0, none⟩) := by simpa using hp'
  have hq'' : tmps[p'']?.getD undef = .pointer (some ⟨b'', 0, none⟩) := by simpa using hp''
  simp [results, h, hq, hq', hq'', asAddr, loadVar4 w b ty e _ _ _ _ hu hi hA.c0 hA.c1 hA.c2 hA.c3, loadVar3 w b' ty' e' _ _ _ hu' hi' hB.c0 hB.c1 hB.c2, loadVar3 w b'' ty'' e'' _ _ _ hu'' hi'' hC.c0 hC.c1 hC.c2]
theorem res_EEI {P : Program} {fn : Func} {p p' u : Tmp} {ty e ty' e' : TypeId} {tmps : Array Value} {w : World} {b b' : Nat} {x0 x1 x2 y0 y1 y2 n : Int} (h : fn.results = #[.cell p ty, .cell p' ty', .tmp u]) (hu : P.underlying ty = some (.array 3 e)) (hi : (P.info? ty).map (·.size) = some 3)
    (hu' : P.underlying ty' = some (.array 3 e')) (hi' : (P.info? ty').map (·.size) = some 3) (hp : tmps.getD p undef = .pointer (some ⟨b, 0, none⟩)) (hp' : tmps.getD p' undef = .pointer (some ⟨b', 0, none⟩)) (h1 : tmps.getD u undef = .int .i64 n) (hA : Arr3 w b x0 x1 x2) (hB : Arr3 w b' y0 y1 y2) :
    (results fn tmps).run P w = .ok (.tuple #[.agg #[.int .i64 x0, .int .i64 x1, .int .i64 x2], .agg #[.int .i64 y0, .int .i64 y1, .int .i64 y2], .int .i64 n]) w := by
  have hq : tmps[p]?.getD undef = .pointer (some ⟨b, 0, none⟩) := by simpa using hp
  have hq' : tmps[p']?.getD undef = .pointer (some ⟨b', 0, none⟩) := by simpa using hp'
  have h1' : tmps[u]?.getD undef = .int .i64 n := by simpa using h1
  simp [results, h, hq, hq', h1', asAddr, loadVar3 w b ty e _ _ _ hu hi hA.c0 hA.c1 hA.c2, loadVar3 w b' ty' e' _ _ _ hu' hi' hB.c0 hB.c1 hB.c2]
set_option maxRecDepth 100000 in
set_option maxHeartbeats 4000000 in
theorem one_any (a : Option Addr) (len cap : Nat) (zs : List Int) (w : World) (hR : IsRow .u8 w a len cap zs) (hlen : len ≤ 9223372036854775807) :
    Calls Try.prog 67 #[.slice a len cap] w (FEOut w) := by
  have R0 := (Arr.new w 0 0 0 0 25).alloc (.cells #[.int .i64 0, .int .i64 0, .int .i64 0] 27)
  have X0 := Arr3.new (w.alloc (.cells #[.int .i64 0, .int .i64 0, .int .i64 0, .int .i64 0] 25)) 0 0 0 27
  have U0 := gr_alloc (gr_alloc (Below.refl w.heap.size w) (.cells #[.int .i64 0, .int .i64 0, .int .i64 0, .int .i64 0] 25)) (.cells #[.int .i64 0, .int .i64 0, .int .i64 0] 27)
  have hR0 := row8_next hR U0
  simp only [World.size_alloc] at X0
  clear hR
  go_enter Try.func67, Try.ntmps67
  go_wp2_with fail
  refine (from_any a len cap zs _ hR0 hlen).mono ?_
  rintro e w1 ⟨rfl, S1', hb1⟩
  have S1 := hid S1'
  have R1 := R0.next hb1
  have X1 := X0.next hb1
  have U1 := gr_trans U0 hb1
  clear S1' hR0 R0 X0 U0 hb1
  simp only [World.size_alloc] at S1 ⊢
  go_wp2_with fail
  refine (drawFE_any _ a len cap zs _ S1.out).mono ?_
  rintro e w2 ⟨p, q, r, s, rfl, S2', G2⟩
  have S2 := hid S2'
  have R2 := R1.gk G2 (by omega)
  have X2 := X1.gk G2 (by omega)
  have U2 := Gk.out U1 G2 (by omega)
  clear S2' G2 R1 X1 U1 S1
  go_wp2_with fail
  refine (drawEl_any _ a len cap zs _ S2.out).mono ?_
  rintro e w3 ⟨u, v, x, rfl, S3', G3⟩
  have S3 := hid S3'
  have R3 := R2.gk G3 (by omega)
  have X3 := X2.gk G3 (by omega)
  have U3 := Gk.out U2 G3 (by omega)
  clear S3' G3 R2 X2 U2 S2
  have hX := X3.lt
  obtain ⟨_, r0, r1, r2, r3, f0, f1, f2, f3⟩ := id R3
  obtain ⟨_, t0, t1, t2, g0, g1, g2⟩ := id X3
  go_wp2_with fail
  refine bodyPost_ret (res_FE (e := 2) (e' := 2) rfl Try.underlying25 (by kernel_rfl) Try.underlying27 (by kernel_rfl) rfl rfl
    (by first | exact (Arr.store4 R3.box).oth3 (by omega) | exact Arr.store4 (R3.oth3 (by omega)).box) (by first | exact Arr3.store3 (X3.oth4 (by omega)).box | exact (Arr3.store3 X3.box).oth4 (by omega))) rfl ?_
  exact ⟨_, _, _, _, _, _, _, rfl, by (repeat' (first | with_reducible exact Below.refl _ _ | with_reducible assumption | with_reducible refine gr_alloc ?_ _ | with_reducible refine gr_drew ?_ | with_reducible refine gr_drewN ?_ _ | with_reducible refine gr_trans ?_ (by assumption) | with_reducible refine gr_set ?_ ?_ _ | (simp; done) | omega | (simp; omega)))⟩

set_option maxRecDepth 100000 in
set_option maxHeartbeats 4000000 in
theorem drawNo_any (a : Option Addr) (len cap : Nat) (zs : List Int) (w : World) (hR : IsRow .u8 w a len cap zs) (hlen : len ≤ 9223372036854775807) :
    Calls Try.prog 14 #[.slice a len cap] w (FEOut w) := by
  have R0 := (Arr.new w 0 0 0 0 25).alloc (.cells #[.int .i64 0, .int .i64 0, .int .i64 0] 27)
  have X0 := Arr3.new (w.alloc (.cells #[.int .i64 0, .int .i64 0, .int .i64 0, .int .i64 0] 25)) 0 0 0 27
  have U0 := gr_alloc (gr_alloc (Below.refl w.heap.size w) (.cells #[.int .i64 0, .int .i64 0, .int .i64 0, .int .i64 0] 25)) (.cells #[.int .i64 0, .int .i64 0, .int .i64 0] 27)
  have hR0 := row8_next hR U0
  simp only [World.size_alloc] at X0
  clear hR
  go_enter Try.func14, Try.ntmps14
  go_wp2_with fail
  refine (one_any a len cap zs _ hR0 hlen).mono ?_
  rintro e w1 ⟨p, q, r, s, u, v, x, rfl, hb1⟩
  have R1 := R0.next hb1
  have X1 := X0.next hb1
  have U1 := gr_trans U0 hb1
  clear hR0 R0 X0 U0 hb1
  have hX := X1.lt
  obtain ⟨_, r0, r1, r2, r3, f0, f1, f2, f3⟩ := id R1
  obtain ⟨_, t0, t1, t2, g0, g1, g2⟩ := id X1
  go_wp2_with fail
  refine bodyPost_ret (res_FE (e := 2) (e' := 2) rfl Try.underlying25 (by kernel_rfl) Try.underlying27 (by kernel_rfl) rfl rfl
    (by first | exact (Arr.store4 R1.box).oth3 (by omega) | exact Arr.store4 (R1.oth3 (by omega)).box) (by first | exact Arr3.store3 (X1.oth4 (by omega)).box | exact (Arr3.store3 X1.box).oth4 (by omega))) rfl ?_
  exact ⟨_, _, _, _, _, _, _, rfl, by (repeat' (first | with_reducible exact Below.refl _ _ | with_reducible assumption | with_reducible refine gr_alloc ?_ _ | with_reducible refine gr_drew ?_ | with_reducible refine gr_drewN ?_ _ | with_reducible refine gr_trans ?_ (by assumption) | with_reducible refine gr_set ?_ ?_ _ | (simp; done) | omega | (simp; omega)))⟩

set_option maxRecDepth 100000 in
set_option maxHeartbeats 4000000 in
theorem drawMu_any (a : Option Addr) (len cap : Nat) (zs : List Int) (w : World) (hR : IsRow .u8 w a len cap zs) (hlen : len ≤ 9223372036854775807) :
    Calls Try.prog 6 #[.slice a len cap] w (FEEOut w) := by
  have R0 := ((Arr.new w 0 0 0 0 25).alloc (.cells #[.int .i64 0, .int .i64 0, .int .i64 0] 27)).alloc (.cells #[.int .i64 0, .int .i64 0, .int .i64 0] 27)
  have X0 := (Arr3.new (w.alloc (.cells #[.int .i64 0, .int .i64 0, .int .i64 0, .int .i64 0] 25)) 0 0 0 27).alloc (.cells #[.int .i64 0, .int .i64 0, .int .i64 0] 27)
  have Y0 := Arr3.new ((w.alloc (.cells #[.int .i64 0, .int .i64 0, .int .i64 0, .int .i64 0] 25)).alloc (.cells #[.int .i64 0, .int .i64 0, .int .i64 0] 27)) 0 0 0 27
  have U0 := gr_alloc (gr_alloc (gr_alloc (Below.refl w.heap.size w) (.cells #[.int .i64 0, .int .i64 0, .int .i64 0, .int .i64 0] 25)) (.cells #[.int .i64 0, .int .i64 0, .int .i64 0] 27)) (.cells #[.int .i64 0, .int .i64 0, .int .i64 0] 27)
  have hR0 := row8_next hR U0
  simp only [World.size_alloc] at X0 Y0
  clear hR
  go_enter Try.func6, Try.ntmps6
  go_wp2_with fail
  refine (from_any a len cap zs _ hR0 hlen).mono ?_
  rintro e w1 ⟨rfl, S1', hb1⟩
  have S1 := hid S1'
  have R1 := R0.next hb1
  have X1 := X0.next hb1
  have Y1 := Y0.next hb1
  have U1 := gr_trans U0 hb1
  clear S1' hR0 R0 X0 Y0 U0 hb1
  simp only [World.size_alloc] at S1 ⊢
  go_wp2_with fail
  refine (next_any _ a len cap zs _ _ S1.out).mono ?_
  rintro e w2 ⟨x, rfl, hx1, hy1, S2', G2⟩
  have S2 := hid S2'
  have R2 := R1.gk G2 (by omega)
  have X2 := X1.gk G2 (by omega)
  have Y2 := Y1.gk G2 (by omega)
  have U2 := Gk.out U1 G2 (by omega)
  clear S2' G2 R1 X1 Y1 U1 S1 hx1 hy1
  by_cases hx : x = 0
  · subst hx
    go_wp2_with fail
    refine (drawFE_any _ a len cap zs _ S2.out).mono ?_
    rintro e w3 ⟨p, q, r, s, rfl, S3', G3⟩
    have S3 := hid S3'
    have R3 := R2.gk G3 (by omega)
    have X3 := X2.gk G3 (by omega)
    have Y3 := Y2.gk G3 (by omega)
    have U3 := Gk.out U2 G3 (by omega)
    clear S3' G3 R2 X2 Y2 U2 S2
    go_wp2_with fail
    refine (drawEl_any _ a len cap zs _ S3.out).mono ?_
    rintro e w4 ⟨u, v, t, rfl, S4', G4⟩
    have S4 := hid S4'
    have R4 := R3.gk G4 (by omega)
    have X4 := X3.gk G4 (by omega)
    have Y4 := Y3.gk G4 (by omega)
    have U4 := Gk.out U3 G4 (by omega)
    clear S4' G4 R3 X3 Y3 U3 S3
    go_wp2_with fail
    refine (drawEl_any _ a len cap zs _ S4.out).mono ?_
    rintro e w5 ⟨u', v', t', rfl, S5', G5⟩
    have S5 := hid S5'
    have R5 := R4.gk G5 (by omega)
    have X5 := X4.gk G5 (by omega)
    have Y5 := Y4.gk G5 (by omega)
    have U5 := Gk.out U4 G5 (by omega)
    clear S5' G5 R4 X4 Y4 U4 S4
    have hX := X5.lt
    have hY := Y5.lt
    obtain ⟨_, r0, r1, r2, r3, f0, f1, f2, f3⟩ := id R5
    obtain ⟨_, t0, t1, t2, g0, g1, g2⟩ := id X5
    obtain ⟨_, y0, y1, y2, h0, h1, h2⟩ := id Y5
    go_wp2_with fail
    refine bodyPost_ret (res_FEE (e := 2) (e' := 2) (e'' := 2) rfl Try.underlying25 (by kernel_rfl) Try.underlying27 (by kernel_rfl) Try.underlying27 (by kernel_rfl) rfl rfl rfl
      (((Arr.store4 R5.box).oth3 (by omega)).oth3 (by omega)) ((Arr3.store3 (X5.oth4 (by omega)).box).oth3 (by omega)) (Arr3.store3 ((Y5.oth4 (by omega)).oth3 (by omega)).box)) rfl ?_
    exact ⟨_, _, _, _, _, _, _, _, _, _, rfl, by (repeat' (first | with_reducible exact Below.refl _ _ | with_reducible assumption | with_reducible refine gr_alloc ?_ _ | with_reducible refine gr_drew ?_ | with_reducible refine gr_drewN ?_ _ | with_reducible refine gr_trans ?_ (by assumption) | with_reducible refine gr_set ?_ ?_ _ | (simp; done) | omega | (simp; omega)))⟩
  · have hx' : (x == 0) = false := by simpa using hx
    clear hx
    go_wp2_with fail
    refine (small_any _ a len cap zs _ S2.out).mono ?_
    rintro e w3 ⟨p, q, r, s, rfl, S3', G3⟩
    have S3 := hid S3'
    have R3 := R2.gk G3 (by omega)
    have X3 := X2.gk G3 (by omega)
    have Y3 := Y2.gk G3 (by omega)
    have U3 := Gk.out U2 G3 (by omega)
    clear S3' G3 R2 X2 Y2 U2 S2
    go_wp2_with fail
    refine (drawE_any _ a len cap zs _ _ S3.out).mono ?_
    rintro e w4 ⟨u, v, t, rfl, S4', G4⟩
    have S4 := hid S4'
    have R4 := R3.gk G4 (by omega)
    have X4 := X3.gk G4 (by omega)
    have Y4 := Y3.gk G4 (by omega)
    have U4 := Gk.out U3 G4 (by omega)
    clear S4' G4 R3 X3 Y3 U3 S3
    go_wp2_with fail
    refine (drawE_any _ a len cap zs _ _ S4.out).mono ?_
    rintro e w5 ⟨u', v', t', rfl, S5', G5⟩
    have S5 := hid S5'
    have R5 := R4.gk G5 (by omega)
    have X5 := X4.gk G5 (by omega)
    have Y5 := Y4.gk G5 (by omega)
    have U5 := Gk.out U4 G5 (by omega)
    clear S5' G5 R4 X4 Y4 U4 S4
    have hX := X5.lt
    have hY := Y5.lt
    obtain ⟨_, r0, r1, r2, r3, f0, f1, f2, f3⟩ := id R5
    obtain ⟨_, t0, t1, t2, g0, g1, g2⟩ := id X5
    obtain ⟨_, y0, y1, y2, h0, h1, h2⟩ := id Y5
    go_wp2_with fail
    refine bodyPost_ret (res_FEE (e := 2) (e' := 2) (e'' := 2) rfl Try.underlying25 (by kernel_rfl) Try.underlying27 (by kernel_rfl) Try.underlying27 (by kernel_rfl) rfl rfl rfl
      (((Arr.store4 R5.box).oth3 (by omega)).oth3 (by omega)) ((Arr3.store3 (X5.oth4 (by omega)).box).oth3 (by omega)) (Arr3.store3 ((Y5.oth4 (by omega)).oth3 (by omega)).box)) rfl ?_
    exact ⟨_, _, _, _, _, _, _, _, _, _, rfl, by (repeat' (first | with_reducible exact Below.refl _ _ | with_reducible assumption | with_reducible refine gr_alloc ?_ _ | with_reducible refine gr_drew ?_ | with_reducible refine gr_drewN ?_ _ | with_reducible refine gr_trans ?_ (by assumption) | with_reducible refine gr_set ?_ ?_ _ | (simp; done) | omega | (simp; omega)))⟩

set_option maxRecDepth 100000 in
set_option maxHeartbeats 4000000 in
theorem drawAd_any (a : Option Addr) (len cap : Nat) (zs : List Int) (w : World) (hR : IsRow .u8 w a len cap zs) (hlen : len ≤ 9223372036854775807) :
    Calls Try.prog 11 #[.slice a len cap] w (EEIOut w) := by
  have X0 := (Arr3.new w 0 0 0 27).alloc (.cells #[.int .i64 0, .int .i64 0, .int .i64 0] 27)
  have Y0 := Arr3.new (w.alloc (.cells #[.int .i64 0, .int .i64 0, .int .i64 0] 27)) 0 0 0 27
  have U0 := gr_alloc (gr_alloc (Below.refl w.heap.size w) (.cells #[.int .i64 0, .int .i64 0, .int .i64 0] 27)) (.cells #[.int .i64 0, .int .i64 0, .int .i64 0] 27)
  have hR0 := row8_next hR U0
  simp only [World.size_alloc] at Y0
  clear hR
  go_enter Try.func11, Try.ntmps11
  go_wp2_with fail
  refine (from_any a len cap zs _ hR0 hlen).mono ?_
  rintro e w1 ⟨rfl, S1', hb1⟩
  have S1 := hid S1'
  have X1 := X0.next hb1
  have Y1 := Y0.next hb1
  have U1 := gr_trans U0 hb1
  clear S1' hR0 X0 Y0 U0 hb1
  simp only [World.size_alloc] at S1 ⊢
  go_wp2_with fail
  refine (drawEl_any _ a len cap zs _ S1.out).mono ?_
  rintro e w2 ⟨u, v, x, rfl, S2', G2⟩
  have S2 := hid S2'
  have X2 := X1.gk G2 (by omega)
  have Y2 := Y1.gk G2 (by omega)
  have U2 := Gk.out U1 G2 (by omega)
  clear S2' G2 X1 Y1 U1 S1
  go_wp2_with fail
  refine (drawEl_any _ a len cap zs _ S2.out).mono ?_
  rintro e w3 ⟨u', v', x', rfl, S3', G3⟩
  have S3 := hid S3'
  have X3 := X2.gk G3 (by omega)
  have Y3 := Y2.gk G3 (by omega)
  have U3 := Gk.out U2 G3 (by omega)
  clear S3' G3 X2 Y2 U2 S2
  go_wp2_with fail
  refine (near_any _ a len cap zs _ _ S3.out).mono ?_
  rintro e w4 ⟨n, rfl, S4', G4⟩
  have S4 := hid S4'
  have X4 := X3.gk G4 (by omega)
  have Y4 := Y3.gk G4 (by omega)
  have U4 := Gk.out U3 G4 (by omega)
  clear S4' G4 X3 Y3 U3 S3
  have hX := X4.lt
  have hY := Y4.lt
  have HL := hid (lit_ex w4 2 [1, -1, 3, -20, n] #[.int .i64 1, .int .i64 (-1), .int .i64 3, .int .i64 (-20), .int .i64 n] 5 rfl rfl)
  have S5 := hid (S4.out.alloc (.cells #[.int .i64 1, .int .i64 (-1), .int .i64 3, .int .i64 (-20), .int .i64 n] 2))
  have X5 := X4.alloc (.cells #[.int .i64 1, .int .i64 (-1), .int .i64 3, .int .i64 (-20), .int .i64 n] 2)
  have Y5 := Y4.alloc (.cells #[.int .i64 1, .int .i64 (-1), .int .i64 3, .int .i64 (-20), .int .i64 n] 2)
  have U5 := gr_alloc U4 (.cells #[.int .i64 1, .int .i64 (-1), .int .i64 3, .int .i64 (-20), .int .i64 n] 2)
  have hk4 := S4.out.lt
  clear X4 Y4 U4 S4
  go_wp2_with fail
  refine (pick_any _ a len cap zs _ 5 _ S5.out (by omega) (by omega) (by simp) (by omega) HL.out).mono ?_
  rintro e w6 ⟨m, rfl, S6', G6⟩
  have S6 := hid S6'
  have X6 := X5.gk G6 (by omega)
  have Y6 := Y5.gk G6 (by omega)
  have U6 := Gk.out U5 G6 (by omega)
  clear S6' G6 X5 Y5 U5 S5
  obtain ⟨_, t0, t1, t2, g0, g1, g2⟩ := id X6
  obtain ⟨_, y0, y1, y2, h0, h1, h2⟩ := id Y6
  go_wp2_with fail
  refine bodyPost_ret (res_EEI (e := 2) (e' := 2) rfl Try.underlying27 (by kernel_rfl) Try.underlying27 (by kernel_rfl) rfl rfl rfl
    ((Arr3.store3 X6.box).oth3 (by omega)) (Arr3.store3 (Y6.oth3 (by omega)).box)) rfl ?_
  exact ⟨_, _, _, _, _, _, _, rfl, by (repeat' (first | with_reducible exact Below.refl _ _ | with_reducible assumption | with_reducible refine gr_alloc ?_ _ | with_reducible refine gr_drew ?_ | with_reducible refine gr_drewN ?_ _ | with_reducible refine gr_trans ?_ (by assumption) | with_reducible refine gr_set ?_ ?_ _ | (simp; done) | omega | (simp; omega)))⟩


end Go.Proofs.Ytambbhldhhlfgaa
