/- Draws of chapter 4 for FnRingProducts: a form and an element, a form and two elements, two elements and a number. -/
import Derived.Test.YtdogkkmdccieiaaDoorZ27
import Derived.Test.YtdogkkmdccieiaaDoorDraw12
namespace Go.Proofs.YtdogkkmdccieiaaDoor
open Go.ChangeShapes Go.WideShapes Go.ChangeAt Go.RowKit

theorem lit_ex (w : World) (T : TypeId) (xs : List Int) (cs : Array Value) (n : Nat) (hc : cs = (xs.map (Value.int .i64)).toArray) (hn : n = xs.length) : ∀ i, i < n → ∃ x : Int, (w.alloc (.cells cs T)).cell? ⟨w.heap.size, i, none⟩ = some (.int .i64 x) := fun i hi => by
  subst hn; subst hc
  refine ⟨xs.getD i 0, ?_⟩
  simp [go_sem, List.getD, hi]



def FEOut (w : World) (e : Ending) (w' : World) : Prop := ∃ a b c d u v x : Int, e = .returned (.tuple #[.agg #[.int .i64 a, .int .i64 b, .int .i64 c, .int .i64 d], .agg #[.int .i64 u, .int .i64 v, .int .i64 x]]) ∧ Below w.heap.size w w'
def FEEOut (w : World) (e : Ending) (w' : World) : Prop := ∃ a b c d u v x p q r : Int, e = .returned (.tuple #[.agg #[.int .i64 a, .int .i64 b, .int .i64 c, .int .i64 d], .agg #[.int .i64 u, .int .i64 v, .int .i64 x], .agg #[.int .i64 p, .int .i64 q, .int .i64 r]]) ∧ Below w.heap.size w w'
def EEIOut (w : World) (e : Ending) (w' : World) : Prop := ∃ u v x p q r n : Int, e = .returned (.tuple #[.agg #[.int .i64 u, .int .i64 v, .int .i64 x], .agg #[.int .i64 p, .int .i64 q, .int .i64 r], .int .i64 n]) ∧ Below w.heap.size w w'
theorem res_FE {P : Program} {fn : Func} {p p' : Tmp} {ty e ty' e' : TypeId} {tmps : Array Value} {w : World} {b b' : Nat} {x0 x1 x2 x3 y0 y1 y2 : Int} (h : fn.results = #[.cell p ty, .cell p' ty']) (hu : P.underlying ty = some (.array 4 e)) (hi : (P.info? ty).map (·.size) = some 4)
    (hu' : P.underlying ty' = some (.array 3 e')) (hi' : (P.info? ty').map (·.size) = some 3) (hp : tmps.getD p undef = .pointer (some ⟨b, 0, none⟩)) (hp' : tmps.getD p' undef = .pointer (some ⟨b', 0, none⟩)) (hA : Arr w b x0 x1 x2 x3) (hB : Arr3 w b' y0 y1 y2) :
    (results fn tmps).run P w = .ok (.tuple #[.agg #[.int .i64 x0, .int .i64 x1, .int .i64 x2, .int .i64 x3], .agg #[.int .i64 y0, .int .i64 y1, .int .i64 y2]]) w := by
  have hq : tmps[p]?.getD undef = .pointer (some ⟨b, 0, none⟩) := by simpa using hp
  have hq' : tmps[p']?.getD undef = .pointer (some ⟨b', 0, none⟩) := by simpa using hp'
  simp [results, h, hq, hq', asAddr, loadVar4 w b ty e _ _ _ _ hu hi hA.c0 hA.c1 hA.c2 hA.c3, loadVar3 w b' ty' e' _ _ _ hu' hi' hB.c0 hB.c1 hB.c2]
theorem res_FEE {P : Program} {fn : Func} {p p' p'' : Tmp} {ty e ty' e' ty'' e'' : TypeId} {tmps : Array Value} {w : World} {b b' b'' : Nat} {x0 x1 x2 x3 y0 y1 y2 z0 z1 z2 : Int} (h : fn.results = #[.cell p ty, .cell p' ty', .cell p'' ty'']) (hu : P.underlying ty = some (.array 4 e)) (hi : (P.info? ty).map (·.size) = some 4)
    (hu' : P.underlying ty' = some (.array 3 e')) (hi' : (P.info? ty').map (·.size) = some 3) (hu'' : P.underlying ty'' = some (.array 3 e'')) (hi'' : (P.info? ty'').map (·.size) = some 3) (hp : tmps.getD p undef = .pointer (some ⟨b, 0, none⟩)) (hp' : tmps.getD p' undef = .pointer (some ⟨b', 0, none⟩)) (hp'' : tmps.getD p'' undef = .pointer (some ⟨b'', 0, none⟩)) (hA : Arr w b x0 x1 x2 x3) (hB : Arr3 w b' y0 y1 y2) (hC : Arr3 w b'' z0 z1 z2) :
    (results fn tmps).run P w = .ok (.tuple #[.agg #[.int .i64 x0, .int .i64 x1, .int .i64 x2, .int .i64 x3], .agg #[.int .i64 y0, .int .i64 y1, .int .i64 y2], .agg #[.int .i64 z0, .int .i64 z1, .int .i64 z2]]) w := by
  have hq : tmps[p]?.getD undef = .pointer (some ⟨b, 0, none⟩) := by simpa using hp
  have hq' : tmps[p']?.getD undef = .pointer (some ⟨b', 0, none⟩) := by simpa using hp'
  have hq'' : tmps[p'']?.getD undef = .pointer (some ⟨b'', 0, none⟩) := by simpa using hp''
  simp [results, h, hq, hq', hq'', asAddr, loadVar4 w b ty e _ _ _ _ hu hi hA.c0 hA.c1 hA.c2 hA.c3, loadVar3 w b' ty' e' _ _ _ hu' hi' hB.c0 hB.c1 hB.c2, loadVar3 w b'' ty'' e'' _ _ _ hu'' hi'' hC.c0 hC.c1 hC.c2]
theorem res_EEI {P : Program} {fn : Func} {p p' u : Tmp} {ty e ty' e' : TypeId} {tmps : Array Value} {w : World} {b b' : Nat} {x0 x1 x2 y0 y1 y2 n : Int} (h : fn.results = #[.cell p ty, .cell p' ty', .tmp u]) (hu : P.underlying ty = some (.array 3 e)) (hi : (P.info? ty).map (·.size) = some 3)
    (hu' : P.underlying ty' = some (.array 3 e')) (hi' : (P.info? ty').map (·.size) = some 3) (hp : tmps.getD p undef = .pointer (some ⟨b, 0, none⟩)) (hp' : tmps.getD p' undef = .pointer (some ⟨b', 0, none⟩)) (h1 : tmps.getD u undef = .int .i64 n) (hA : Arr3 w b x0 x1 x2) (hB : Arr3 w b' y0 y1 y2) :
    (results fn tmps).run P w = .ok (.tuple #[.agg #[.int .i64 x0, .int .i64 x1, .int .i64 x2], .agg #[.int .i64 y0, .int .i64 y1, .int .i64 y2], .int .i64 n]) w := by
  have hq : tmps[p]?.getD undef = .pointer (some ⟨b, 0, none⟩) := by simpa using hp
  have hq' : tmps[p']?.getD undef = .pointer (some ⟨b', 0, none⟩) := by simpa using hp'
  have h1' : tmps[u]?.getD undef = .int .i64 n := by simpa using h1
  simp [results, h, hq, hq', h1', asAddr, loadVar3 w b ty e _ _ _ hu hi hA.c0 hA.c1 hA.c2, loadVar3 w b' ty' e' _ _ _ hu' hi' hB.c0 hB.c1 hB.c2]
set_option maxRecDepth 100000 in
set_option maxHeartbeats 4000000 in
theorem one_any (a : Option Addr) (len cap : Nat) (zs : List Int) (w : World) (hR : IsRow .u8 w a len cap zs) (hlen : len ≤ 9223372036854775807) :
    Calls Tryd.prog 37 #[.slice a len cap] w (FEOut w) := by
  have R0 := (Arr.new w 0 0 0 0 25).alloc (.cells #[.int .i64 0, .int .i64 0, .int .i64 0] 27)
  have X0 := Arr3.new (w.alloc (.cells #[.int .i64 0, .int .i64 0, .int .i64 0, .int .i64 0] 25)) 0 0 0 27
  have U0 := gr_alloc (gr_alloc (Below.refl w.heap.size w) (.cells #[.int .i64 0, .int .i64 0, .int .i64 0, .int .i64 0] 25)) (.cells #[.int .i64 0, .int .i64 0, .int .i64 0] 27)
  have hR0 := row8_next hR U0
  simp only [World.size_alloc] at X0
  clear hR
  go_enter Tryd.func37, Tryd.ntmps37
  go_wp2_with fail
  refine (from_any a len cap zs _ hR0 hlen).mono ?_
  rintro e w1 ⟨rfl, S1', hb1⟩
  have S1 := hid S1'
  have R1 := R0.next hb1
  have X1 := X0.next hb1
  have U1 := gr_trans U0 hb1
  clear S1' hR0 R0 X0 U0 hb1
  simp only [World.size_alloc] at S1 ⊢
  go_wp2_with fail
  refine (drawFE_any _ a len cap zs _ S1.out).mono ?_
  rintro e w2 ⟨p, q, r, s, rfl, S2', G2⟩
  have S2 := hid S2'
  have R2 := R1.gk G2 (by omega)
  have X2 := X1.gk G2 (by omega)
  have U2 := Gk.out U1 G2 (by omega)
  clear S2' G2 R1 X1 U1 S1
  go_wp2_with fail
  refine (drawEl_any _ a len cap zs _ S2.out).mono ?_
  rintro e w3 ⟨u, v, x, rfl, S3', G3⟩
  have S3 := hid S3'
  have R3 := R2.gk G3 (by omega)
  have X3 := X2.gk G3 (by omega)
  have U3 := Gk.out U2 G3 (by omega)
  clear S3' G3 R2 X2 U2 S2
  have hX := X3.lt
  obtain ⟨_, r0, r1, r2, r3, f0, f1, f2, f3⟩ := id R3
  obtain ⟨_, t0, t1, t2, g0, g1, g2⟩ := id X3
  go_wp2_with fail
  refine bodyPost_ret (res_FE (e := 2) (e' := 2) rfl Tryd.underlying25 (by kernel_rfl) Tryd.underlying27 (by kernel_rfl) rfl rfl
    (by first | exact (Arr.store4 R3.box).oth3 (by omega) | exact Arr.store4 (R3.oth3 (by omega)).box) (by first | exact Arr3.store3 (X3.oth4 (by omega)).box | exact (Arr3.store3 X3.box).oth4 (by omega))) rfl ?_
  exact ⟨_, _, _, _, _, _, _, rfl, by (repeat' (first | with_reducible exact Below.refl _ _ | with_reducible assumption | with_reducible refine gr_alloc ?_ _ | with_reducible refine gr_drew ?_ | with_reducible refine gr_drewN ?_ _ | with_reducible refine gr_trans ?_ (by assumption) | with_reducible refine gr_set ?_ ?_ _ | (simp; done) | omega | (simp; omega)))⟩








end Go.Proofs.YtdogkkmdccieiaaDoor
