/- Draws of chapter 3 for FnSyzygy: forms and places, pairs of forms. -/
import Derived.Test.YtigbaelbeaobpaaZ7
import Derived.Deep.DeepCutAuto
namespace Go.Proofs.Ytigbaelbeaobpaa
open Go.ChangeShapes Go.WideShapes Go.ChangeAt Go.RowKit

/-- A form and a place. -/
def FIIOut (w : World) (e : Ending) (w' : World) : Prop := ∃ p q r s x y : Int, e = .returned (.tuple #[.agg #[.int .i64 p, .int .i64 q, .int .i64 r, .int .i64 s], .int .i64 x, .int .i64 y]) ∧ Below w.heap.size w w'
theorem res_FII {P : Program} {fn : Func} {p u v : Tmp} {ty e : TypeId} {tmps : Array Value} {w : World} {b : Nat} {x0 x1 x2 x3 x y : Int} (h : fn.results = #[.cell p ty, .tmp u, .tmp v]) (hu : P.underlying ty = some (.array 4 e)) (hi : (P.info? ty).map (·.size) = some 4)
    (hp : tmps.getD p undef = .pointer (some ⟨b, 0, none⟩)) (h1 : tmps.getD u undef = .int .i64 x) (h2 : tmps.getD v undef = .int .i64 y) (hA : Arr w b x0 x1 x2 x3) :
    (results fn tmps).run P w = .ok (.tuple #[.agg #[.int .i64 x0, .int .i64 x1, .int .i64 x2, .int .i64 x3], .int .i64 x, .int .i64 y]) w := by
  have hq : tmps[p]?.getD undef = .pointer (some ⟨b, 0, none⟩) := by simpa using hp
  have h1' : tmps[u]?.getD undef = .int .i64 x := by simpa using h1
  have h2' : tmps[v]?.getD undef = .int .i64 y := by simpa using h2
  simp [results, h, hq, h1', h2', asAddr, loadVar4 w b ty e _ _ _ _ hu hi hA.c0 hA.c1 hA.c2 hA.c3]
theorem lit_bx {w : World} {b : Nat} {T : TypeId} {cs : Array Value} (h : w.heap[b]? = some (.cells cs T)) (xs : List Int) (n : Nat) (hc : cs = (xs.map (Value.int .i64)).toArray) (hn : n = xs.length) : ∀ i, i < n → ∃ x : Int, w.cell? ⟨b, i, none⟩ = some (.int .i64 x) := fun i hi => by
  subst hn; subst hc
  refine ⟨xs.getD i 0, ?_⟩
  simp [World.cell?, h, List.getD, hi]

set_option maxHeartbeats 1000000 in
theorem drawCo_any (a : Option Addr) (len cap : Nat) (zs : List Int) (w : World) (hR : IsRow .u8 w a len cap zs) (hlen : len ≤ 9223372036854775807) :
    Calls Try.prog 21 #[.slice a len cap] w (FrmOut w) := by
  have R0 := Arr.new w 0 0 0 0 25
  have U0 := gr_alloc (Below.refl w.heap.size w) (.cells #[.int .i64 0, .int .i64 0, .int .i64 0, .int .i64 0] 25)
  have hR0 := row8_next hR U0
  clear hR
  go_enter Try.func21, Try.ntmps21
  go_wp2_with fail
  refine (from_any a len cap zs _ hR0 hlen).mono ?_
  rintro e w1 ⟨rfl, S1', hb1⟩
  have S1 := hid S1'
  have R1 := R0.next hb1
  have U1 := gr_trans U0 hb1
  clear S1' hR0 R0 U0 hb1
  simp only [World.size_alloc] at S1 ⊢
  go_wp2_with fail
  refine (spoil_any _ a len cap zs _ S1.out).mono ?_
  rintro e w2 ⟨p, q, r, s, rfl, S2, G2⟩
  have R2 := R1.gk G2 (by omega)
  have U2 := Gk.out U1 G2 (by omega)
  clear S1 S2 R1 U1 G2
  obtain ⟨_, r0, r1, r2, r3, f0, f1, f2, f3⟩ := id R2
  go_wp2_with fail
  refine bodyPost_ret (res_A1 (e := 2) rfl Try.underlying25 (by kernel_rfl) rfl (by (repeat (first | with_reducible assumption | with_reducible exact Arr.box (by assumption) | with_reducible exact Box.new _ _ _ _ _ _ | with_reducible exact Arr.new _ _ _ _ _ _ | with_reducible refine Arr.drew ?_ | with_reducible refine Arr.drewN ?_ _ | with_reducible refine Arr.store4 ?_ | with_reducible refine Arr.alloc ?_ _ | with_reducible refine Box.drew ?_ | with_reducible refine Box.drewN ?_ _ | with_reducible refine Box.alloc ?_ _ | with_reducible refine Arr.next ?_ (by assumption) | with_reducible refine Box.next ?_ (by assumption) | refine Arr.oth ?_ (by first | (simp; done) | omega | (simp; omega)) _ | refine Box.oth ?_ (by first | (simp; done) | omega | (simp; omega)) _ | with_reducible exact Arr3.box (by assumption) | with_reducible exact Box3.new _ _ _ _ _ | with_reducible exact Arr3.new _ _ _ _ _ | with_reducible refine Arr3.drew ?_ | with_reducible refine Arr3.drewN ?_ _ | with_reducible refine Arr3.store3 ?_ | with_reducible refine Arr3.alloc ?_ _ | with_reducible refine Box3.drew ?_ | with_reducible refine Box3.drewN ?_ _ | with_reducible refine Box3.alloc ?_ _ | with_reducible refine Arr3.next ?_ (by assumption) | with_reducible refine Box3.next ?_ (by assumption) | refine Arr3.oth ?_ (by first | (simp; done) | omega | (simp; omega)) _ | refine Box3.oth ?_ (by first | (simp; done) | omega | (simp; omega)) _)))) rfl ?_
  exact ⟨_, _, _, _, rfl, by (repeat' (first | with_reducible exact Below.refl _ _ | with_reducible assumption | with_reducible refine gr_alloc ?_ _ | with_reducible refine gr_drew ?_ | with_reducible refine gr_drewN ?_ _ | with_reducible refine gr_trans ?_ (by assumption) | with_reducible refine gr_set ?_ ?_ _ | (simp; done) | omega | (simp; omega)))⟩


end Go.Proofs.Ytigbaelbeaobpaa
