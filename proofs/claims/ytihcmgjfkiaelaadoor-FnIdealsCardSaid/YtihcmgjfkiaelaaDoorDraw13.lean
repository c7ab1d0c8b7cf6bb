/- Draws of chapter 5: a form and a prime; a prime and a kind; a form and a limit. -/
import Derived.Test.YtihcmgjfkiaelaaDoorZ10
import Derived.Test.YtihcmgjfkiaelaaDoorZ5
import Derived.Test.YtihcmgjfkiaelaaDoorZ11
namespace Go.Proofs.YtihcmgjfkiaelaaDoor
open Go.ChangeShapes Go.WideShapes Go.ChangeAt Go.RowKit

theorem lit_ex (w : World) (T : TypeId) (xs : List Int) (cs : Array Value) (n : Nat) (hc : cs = (xs.map (Value.int .i64)).toArray) (hn : n = xs.length) : ∀ i, i < n → ∃ x : Int, (w.alloc (.cells cs T)).cell? ⟨w.heap.size, i, none⟩ = some (.int .i64 x) := fun i hi => by
  subst hn; subst hc
  refine ⟨xs.getD i 0, ?_⟩
  rw [(Bx.new w (xs.map (Value.int .i64)).toArray T).cell i]
  simp [List.getD, hi]

theorem lit_bx {w : World} {b : Nat} {T : TypeId} {cs : Array Value} (h : Bx w b cs T) (xs : List Int) (n : Nat) (hc : cs = (xs.map (Value.int .i64)).toArray) (hn : n = xs.length) : ∀ i, i < n → ∃ x : Int, w.cell? ⟨b, i, none⟩ = some (.int .i64 x) := fun i hi => by
  subst hn; subst hc
  refine ⟨xs.getD i 0, ?_⟩
  rw [h.cell i]
  simp [List.getD, hi]

set_option maxHeartbeats 1000000 in
theorem near_any (k : Nat) (a : Option Addr) (len cap : Nat) (zs : List Int) (n : Int) (w : World) (hS : Src w k a len cap zs) :
    Calls Tryd.prog 71 #[.pointer (some ⟨k, 0, none⟩), .int .i64 n] w (NumPost k a len cap zs w) := by
  have hl := hS.lt
  go_enter Tryd.func71, Tryd.ntmps71
  go_wp2_with fail
  refine (next_any k a len cap zs _ _ hS).mono ?_
  rintro e w1 ⟨x, rfl, _, _, S1', G1⟩
  have S1 := hid S1'
  have hl1 := S1'.lt
  clear hS S1'
  by_cases hx : x = 0
  · have hb : (x == 0) = true := by simpa using hx
    have HL := hid (lit_ex w1 2 [-1, wrap64 (n + 1), 1099511627776, -4611686018427387904] #[.int .i64 (-1), .int .i64 (wrap64 (n + 1)), .int .i64 1099511627776, .int .i64 (-4611686018427387904)] 4 rfl rfl)
    have S2 := hid (S1.out.alloc (.cells #[.int .i64 (-1), .int .i64 (wrap64 (n + 1)), .int .i64 1099511627776, .int .i64 (-4611686018427387904)] 2))
    have G2 := G1.alloc (.cells #[.int .i64 (-1), .int .i64 (wrap64 (n + 1)), .int .i64 1099511627776, .int .i64 (-4611686018427387904)] 2)
    subst hx
    go_wp2_with fail
    refine (pick_any k a len cap zs _ 4 _ S2.out (by omega) (by omega) (by simp) (by omega) HL.out).mono ?_
    rintro e w3 ⟨x3, rfl, S3', G3⟩
    have S3 := hid S3'
    have G3' := G2.trans G3
    clear S3' G3 G2 S2 HL
    go_wp2
    go_ret
    exact ⟨_, rfl, S3.out, G3'⟩
  · have hb : (x == 0) = false := by simpa using hx
    clear hx
    go_wp2_with fail
    refine (next_any k a len cap zs _ _ S1.out).mono ?_
    rintro e w3 ⟨x3, rfl, _, _, S3', G3⟩
    have S3 := hid S3'
    have G3' := G1.trans G3
    clear S3' G3 S1
    go_wp2
    go_ret
    exact ⟨_, rfl, S3.out, G3'⟩

set_option maxHeartbeats 1000000 in
theorem prime_any (k : Nat) (a : Option Addr) (len cap : Nat) (zs : List Int) (w : World) (hS : Src w k a len cap zs) :
    Calls Tryd.prog 42 #[.pointer (some ⟨k, 0, none⟩)] w (NumPost k a len cap zs w) := by
  have hl := hS.lt
  go_enter Tryd.func42, Tryd.ntmps42
  go_wp2_with fail
  refine (near_any k a len cap zs _ _ hS).mono ?_
  rintro e w1 ⟨y, rfl, S1', G1⟩
  have hl1 := S1'.lt
  have HL := hid (lit_ex w1 2 [2, 2, 3, 3, 5, 5, 7, 7, 11, 13, 23, 31, 97, y] #[.int .i64 2, .int .i64 2, .int .i64 3, .int .i64 3, .int .i64 5, .int .i64 5, .int .i64 7, .int .i64 7, .int .i64 11, .int .i64 13, .int .i64 23, .int .i64 31, .int .i64 97, .int .i64 y] 14 rfl rfl)
  have S2 := hid (S1'.alloc (.cells #[.int .i64 2, .int .i64 2, .int .i64 3, .int .i64 3, .int .i64 5, .int .i64 5, .int .i64 7, .int .i64 7, .int .i64 11, .int .i64 13, .int .i64 23, .int .i64 31, .int .i64 97, .int .i64 y] 2))
  have G2 := G1.alloc (.cells #[.int .i64 2, .int .i64 2, .int .i64 3, .int .i64 3, .int .i64 5, .int .i64 5, .int .i64 7, .int .i64 7, .int .i64 11, .int .i64 13, .int .i64 23, .int .i64 31, .int .i64 97, .int .i64 y] 2)
  clear S1' G1 hS
  go_wp2_with fail
  refine (pick_any k a len cap zs _ 14 _ S2.out (by omega) (by omega) (by simp) (by omega) HL.out).mono ?_
  rintro e w3 ⟨x3, rfl, S3', G3⟩
  have S3 := hid S3'
  have G3' := G2.trans G3
  clear S3' G3 G2 S2 HL
  go_wp2
  go_ret
  exact ⟨_, rfl, S3.out, G3'⟩

/-- A form and a number. -/
def WithOut (w : World) (e : Ending) (w' : World) : Prop := ∃ p q r s n : Int, e = .returned (.tuple #[.agg #[.int .i64 p, .int .i64 q, .int .i64 r, .int .i64 s], .int .i64 n]) ∧ Below w.heap.size w w'
def TwoNum (w : World) (e : Ending) (w' : World) : Prop := ∃ m n : Int, e = .returned (.tuple #[.int .i64 m, .int .i64 n]) ∧ Below w.heap.size w w'
theorem res_AN {P : Program} {fn : Func} {p : Tmp} {s : Tmp} {ty e : TypeId} {tmps : Array Value} {w : World} {b : Nat} {x0 x1 x2 x3 n : Int} (h : fn.results = #[.cell p ty, .tmp s]) (hu : P.underlying ty = some (.array 4 e)) (hi : (P.info? ty).map (·.size) = some 4)
    (hp : tmps.getD p undef = .pointer (some ⟨b, 0, none⟩)) (hs : tmps.getD s undef = .int .i64 n) (hA : Arr w b x0 x1 x2 x3) :
    (results fn tmps).run P w = .ok (.tuple #[.agg #[.int .i64 x0, .int .i64 x1, .int .i64 x2, .int .i64 x3], .int .i64 n]) w := by
  have hq : tmps[p]?.getD undef = .pointer (some ⟨b, 0, none⟩) := by simpa using hp
  have hs' : tmps[s]?.getD undef = .int .i64 n := by simpa using hs
  simp [results, h, hq, hs', asAddr, loadVar4 w b ty e _ _ _ _ hu hi hA.c0 hA.c1 hA.c2 hA.c3]
















end Go.Proofs.YtihcmgjfkiaelaaDoor
