/- Chapter 5: roots or an error, the program's. -/
import Derived.Test.YtdogkkmdccieiaaDoorRf
namespace Go.Proofs.YtdogkkmdccieiaaDoor
open Go.RowKit

/-- The package's error for forms without factors is laid. -/
def Sen (w : World) (pv : Value) : Prop := w.cell? ⟨1, 0, none⟩ = some (.iface 154 pv) ∧ 1 < w.heap.size
theorem Sen.next {w w' : World} {pv : Value} (h : Sen w pv) (hb : Below w.heap.size w w') : Sen w' pv := ⟨(hb.cell (p := ⟨1, 0, none⟩) h.2).trans h.1, Nat.lt_of_lt_of_le h.2 hb.size⟩
theorem Sen.alloc {w : World} {pv : Value} (h : Sen w pv) (o : Obj) : Sen (w.alloc o) pv := h.next ((Below.refl _ w).alloc (Nat.le_refl _) o)

set_option maxRecDepth 100000 in
set_option maxHeartbeats 1000000 in
theorem rootsOf_pan (a b c d m : Int) (pv : Value) (w : World) (hg : Sen w pv) (hm0 : 0 ≤ m) (hm97 : m ≤ 499) (ha : -1000 ≤ a ∧ a ≤ 1000) (hb : -1000 ≤ b ∧ b ≤ 1000) (hc : -1000 ≤ c ∧ c ≤ 1000) (hd : -1000 ≤ d ∧ d ≤ 1000)
    (hN : mul0 (cnt a b c d) m = true) :
    Calls Tryd.prog 119 #[.agg #[.int .i64 a, .int .i64 b, .int .i64 c, .int .i64 d], .int .i64 m] w (PanOut pv w) := by
  have HN := hid hN
  clear hN
  have F0 := Bx.new w #[.int .i64 a, .int .i64 b, .int .i64 c, .int .i64 d] 25
  have U0 := gr_alloc (Below.refl w.heap.size w) (.cells #[.int .i64 a, .int .i64 b, .int .i64 c, .int .i64 d] 25)
  have G0 := hg.alloc (.cells #[.int .i64 a, .int .i64 b, .int .i64 c, .int .i64 d] 25)
  go_enter Tryd.func119, Tryd.ntmps119
  go_wp2_with fail
  go_step3
  go_wp2_with fail
  refine (iGcd4_any w.heap.size a b c d _ F0.arr4 ha hb hc hd).mono ?_
  rintro e w1 ⟨rfl, hb1⟩
  have U1 := gr_trans U0 hb1
  have g1 := (G0.next hb1).1
  clear F0 U0 G0
  have hN := HN.out
  generalize cnt a b c d = cn at hN ⊢
  go_wp2_with (go_at_call 121; refine (isMultiple_any _ _ _ hm0 (by omega)).mono ?_; rintro e w' ⟨rfl, rfl⟩)
  exact ⟨rfl, rfl, U1⟩

set_option maxRecDepth 100000 in
set_option maxHeartbeats 1000000 in
theorem rte1_ok (kf km : Nat) (a b c d m : Int) (P : List (Int × Int)) (w : World) (hF : Bx w kf #[.int .i64 a, .int .i64 b, .int .i64 c, .int .i64 d] 25) (hM : Bx w km #[.int .i64 m] 2) (hm0 : 0 ≤ m) (hm97 : m ≤ 499) (ha : -1000 ≤ a ∧ a ≤ 1000) (hb : -1000 ≤ b ∧ b ≤ 1000) (hc : -1000 ≤ c ∧ c ≤ 1000) (hd : -1000 ≤ d ∧ d ≤ 1000)
    (hpl : ∀ W, Calls Tryd.prog 122 #[.agg #[.int .i64 a, .int .i64 b, .int .i64 c, .int .i64 d], .int .i64 m] W (PlOut P W)) (hP0 : 0 < P.length) (hP1 : P.length ≤ 10000000) (hN : mul0 (cnt a b c d) m = false) (hst : ∀ k, (h : k < P.length) → stp m P[k].1 P[k].2 4 [a, b, c, d] = true) :
    Calls Tryd.prog 118 #[.pointer (some ⟨kf, 0, none⟩), .pointer (some ⟨km, 0, none⟩)] w (RtOut (rts m [a, b, c, d] P).length ((rts m [a, b, c, d] P).flatMap tr3) w) := by
  have H := hid (rootsOf_any a b c d m P w hm0 hm97 ha hb hc hd hpl hP0 hP1 hN hst)
  generalize (rts m [a, b, c, d] P).length = n at H ⊢
  generalize (rts m [a, b, c, d] P).flatMap tr3 = xs at H ⊢
  clear hpl hN hst
  obtain ⟨_, c0, c1, c2, c3, _⟩ := hF.arr4
  have d0 := hM.cell 0
  go_enter Tryd.func118, Tryd.ntmps118
  go_wp2_with fail
  refine H.out.mono ?_
  rintro e w1 ⟨v, rfl, hO, hU⟩
  go_wp2_with fail
  go_ret
  exact ⟨v, rfl, hO, hU⟩

set_option maxRecDepth 100000 in
set_option maxHeartbeats 1000000 in
theorem rte1_err (kf km : Nat) (a b c d m : Int) (pv : Value) (w : World) (hg : Sen w pv) (hF : Bx w kf #[.int .i64 a, .int .i64 b, .int .i64 c, .int .i64 d] 25) (hM : Bx w km #[.int .i64 m] 2) (hm0 : 0 ≤ m) (hm97 : m ≤ 499) (ha : -1000 ≤ a ∧ a ≤ 1000) (hb : -1000 ≤ b ∧ b ≤ 1000) (hc : -1000 ≤ c ∧ c ≤ 1000) (hd : -1000 ≤ d ∧ d ≤ 1000) (hN : mul0 (cnt a b c d) m = true) :
    Calls Tryd.prog 118 #[.pointer (some ⟨kf, 0, none⟩), .pointer (some ⟨km, 0, none⟩)] w (PanOut pv w) := by
  have H := hid (rootsOf_pan a b c d m pv w hg hm0 hm97 ha hb hc hd hN)
  clear hN hg
  obtain ⟨_, c0, c1, c2, c3, _⟩ := hF.arr4
  have d0 := hM.cell 0
  go_enter Tryd.func118, Tryd.ntmps118
  go_wp2_with fail
  refine H.out.mono ?_
  rintro e w1 ⟨rfl, hU⟩
  exact ⟨rfl, rfl, hU⟩

set_option maxRecDepth 100000 in
set_option maxHeartbeats 1000000 in
theorem rootsOrError_ok (a b c d m : Int) (P : List (Int × Int)) (w : World) (hm0 : 0 ≤ m) (hm97 : m ≤ 499) (ha : -1000 ≤ a ∧ a ≤ 1000) (hb : -1000 ≤ b ∧ b ≤ 1000) (hc : -1000 ≤ c ∧ c ≤ 1000) (hd : -1000 ≤ d ∧ d ≤ 1000)
    (hpl : ∀ W, Calls Tryd.prog 122 #[.agg #[.int .i64 a, .int .i64 b, .int .i64 c, .int .i64 d], .int .i64 m] W (PlOut P W)) (hP0 : 0 < P.length) (hP1 : P.length ≤ 10000000) (hN : mul0 (cnt a b c d) m = false) (hst : ∀ k, (h : k < P.length) → stp m P[k].1 P[k].2 4 [a, b, c, d] = true) :
    Calls Tryd.prog 111 #[.agg #[.int .i64 a, .int .i64 b, .int .i64 c, .int .i64 d], .int .i64 m] w (RtOk (rts m [a, b, c, d] P).length ((rts m [a, b, c, d] P).flatMap tr3) w) := by
  have hmf : ∀ (fn : Fn) (first cap : Array Value) (w : World), (Instr.makeFunc fn first cap).run Tryd.prog w = .ok (.func fn first cap) w := fun _ _ _ _ => rfl
  have F0 := (Bx.new w #[.int .i64 a, .int .i64 b, .int .i64 c, .int .i64 d] 25).alloc (.cells #[.int .i64 m] 2)
  have M0 := Bx.new (w.alloc (.cells #[.int .i64 a, .int .i64 b, .int .i64 c, .int .i64 d] 25)) #[.int .i64 m] 2
  have U0 := gr_alloc (gr_alloc (Below.refl w.heap.size w) (.cells #[.int .i64 a, .int .i64 b, .int .i64 c, .int .i64 d] 25)) (.cells #[.int .i64 m] 2)
  simp only [World.size_alloc] at M0
  have H := hid (orErrR_ok ⟨w.heap.size, 0, none⟩ ⟨w.heap.size + 1, 0, none⟩ _ _ _ (rte1_ok w.heap.size (w.heap.size + 1) a b c d m P (((w.alloc (.cells #[.int .i64 a, .int .i64 b, .int .i64 c, .int .i64 d] 25)).alloc (.cells #[.int .i64 m] 2)).alloc (.cells #[.nilIface] 69)) (F0.alloc _) (M0.alloc _) hm0 hm97 ha hb hc hd hpl hP0 hP1 hN hst))
  generalize (rts m [a, b, c, d] P).length = n at H ⊢
  generalize (rts m [a, b, c, d] P).flatMap tr3 = xs at H ⊢
  clear hpl hN hst F0 M0
  go_enter Tryd.func111, Tryd.ntmps111
  go_wp2_with fail
  refine H.out.mono ?_
  rintro e w1 ⟨v, rfl, hO, hU⟩
  go_wp2_with fail
  go_ret2
  exact ⟨v, rfl, owns_mono hO U0.size, gr_trans U0 hU⟩

set_option maxRecDepth 100000 in
set_option maxHeartbeats 1000000 in
theorem rootsOrError_err (a b c d m : Int) (pv : Value) (w : World) (hg : Sen w pv) (hm0 : 0 ≤ m) (hm97 : m ≤ 499) (ha : -1000 ≤ a ∧ a ≤ 1000) (hb : -1000 ≤ b ∧ b ≤ 1000) (hc : -1000 ≤ c ∧ c ≤ 1000) (hd : -1000 ≤ d ∧ d ≤ 1000) (hN : mul0 (cnt a b c d) m = true) :
    Calls Tryd.prog 111 #[.agg #[.int .i64 a, .int .i64 b, .int .i64 c, .int .i64 d], .int .i64 m] w fun e w' => e = .returned (.tuple #[.slice none 0 0, .iface 154 pv]) ∧ Below w.heap.size w w' := by
  have hmf : ∀ (fn : Fn) (first cap : Array Value) (w : World), (Instr.makeFunc fn first cap).run Tryd.prog w = .ok (.func fn first cap) w := fun _ _ _ _ => rfl
  have F0 := (Bx.new w #[.int .i64 a, .int .i64 b, .int .i64 c, .int .i64 d] 25).alloc (.cells #[.int .i64 m] 2)
  have M0 := Bx.new (w.alloc (.cells #[.int .i64 a, .int .i64 b, .int .i64 c, .int .i64 d] 25)) #[.int .i64 m] 2
  have U0 := gr_alloc (gr_alloc (Below.refl w.heap.size w) (.cells #[.int .i64 a, .int .i64 b, .int .i64 c, .int .i64 d] 25)) (.cells #[.int .i64 m] 2)
  simp only [World.size_alloc] at M0
  have H := hid (orErrR_err ⟨w.heap.size, 0, none⟩ ⟨w.heap.size + 1, 0, none⟩ pv _ (rte1_err w.heap.size (w.heap.size + 1) a b c d m pv (((w.alloc (.cells #[.int .i64 a, .int .i64 b, .int .i64 c, .int .i64 d] 25)).alloc (.cells #[.int .i64 m] 2)).alloc (.cells #[.nilIface] 69)) (((hg.alloc _).alloc _).alloc _) (F0.alloc _) (M0.alloc _) hm0 hm97 ha hb hc hd hN))
  clear hN hg F0 M0
  go_enter Tryd.func111, Tryd.ntmps111
  go_wp2_with fail
  refine H.out.mono ?_
  rintro e w1 ⟨rfl, hU⟩
  go_wp2_with fail
  go_ret2
  exact ⟨rfl, gr_trans U0 hU⟩


end Go.Proofs.YtdogkkmdccieiaaDoor
