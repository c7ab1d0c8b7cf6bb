/- Chapter 4: inverses of units: the door. -/
import Derived.Test.YtdogkkmdccieiaaDoorZ16
import Derived.RangeFuncBox
namespace Go.Proofs.YtdogkkmdccieiaaDoor
open Go.RowKit

/-- The answer: an element that lies in block b, and what one more variable holds. -/
theorem res_A3c {P : Program} {fn : Func} {p q : Tmp} {ty ty2 e : TypeId} {tmps : Array Value} {w : World} {b : Nat} {c : Addr} {x0 x1 x2 : Int} {v : Value} (h : fn.results = #[.cell p ty, .cell q ty2]) (hu : P.underlying ty = some (.array 3 e)) (hi : (P.info? ty).map (·.size) = some 3)
    (hp : tmps.getD p undef = .pointer (some ⟨b, 0, none⟩)) (hq : tmps.getD q undef = .pointer (some c)) (hA : Arr3 w b x0 x1 x2) (hl : (loadVar ty2 c).run P w = .ok v w) :
    (results fn tmps).run P w = .ok (.tuple #[.agg #[.int .i64 x0, .int .i64 x1, .int .i64 x2], v]) w := by
  have hp' : tmps[p]?.getD undef = .pointer (some ⟨b, 0, none⟩) := by simpa using hp
  have hq' : tmps[q]?.getD undef = .pointer (some c) := by simpa using hq
  simp [results, h, hp', hq', asAddr, loadVar3 w b ty e _ _ _ hu hi hA.c0 hA.c1 hA.c2, hl]

set_option maxRecDepth 100000 in
set_option maxHeartbeats 4000000 in
theorem inverse_pan (p0 p1 p2 p3 p4 p5 p6 p7 p8 u v x y1 y2 y3 N : Int) (pv : Value) (w : World) (hg : SenU w pv) (hm : ∀ W, Calls Tryd.prog 61 #[.agg #[.int .i64 p0, .int .i64 p1, .int .i64 p2, .int .i64 p3, .int .i64 p4, .int .i64 p5, .int .i64 p6, .int .i64 p7, .int .i64 p8], .agg #[.int .i64 u, .int .i64 v, .int .i64 x]] W fun e w' => e = .returned (.agg #[.int .i64 1, .int .i64 y1, .int .i64 y2, .int .i64 y3]) ∧ Below W.heap.size W w')
    (hN : wrap64 (-y3) = N) (hu : N ≠ 1) (hu' : N ≠ -1) :
    Calls Tryd.prog 53 #[.agg #[.int .i64 p0, .int .i64 p1, .int .i64 p2, .int .i64 p3, .int .i64 p4, .int .i64 p5, .int .i64 p6, .int .i64 p7, .int .i64 p8], .agg #[.int .i64 u, .int .i64 v, .int .i64 x]] w (PanU pv w) := by
  have HM := hid hm
  clear hm
  have U0 := gr_alloc (gr_alloc (gr_alloc (Below.refl w.heap.size w) (.cells #[.int .i64 p0, .int .i64 p1, .int .i64 p2, .int .i64 p3, .int .i64 p4, .int .i64 p5, .int .i64 p6, .int .i64 p7, .int .i64 p8] 73)) (.cells #[.int .i64 u, .int .i64 v, .int .i64 x] 27)) (.cells #[.int .i64 0, .int .i64 0, .int .i64 0] 27)
  have G0 := ((hg.alloc (.cells #[.int .i64 p0, .int .i64 p1, .int .i64 p2, .int .i64 p3, .int .i64 p4, .int .i64 p5, .int .i64 p6, .int .i64 p7, .int .i64 p8] 73)).alloc (.cells #[.int .i64 u, .int .i64 v, .int .i64 x] 27)).alloc (.cells #[.int .i64 0, .int .i64 0, .int .i64 0] 27)
  have hc : (N != 1) = true := by simp [hu]
  have hc' : (N != -1) = true := by simp [hu']
  clear hu hu'
  go_enter Tryd.func53, Tryd.ntmps53
  go_wp2_with fail
  refine (HM.out _).mono ?_
  rintro e w1 ⟨rfl, hb1⟩
  have U1 := gr_alloc (gr_trans U0 hb1) (.cells #[.int .i64 1, .int .i64 y1, .int .i64 y2, .int .i64 y3] 25)
  have g1 := ((G0.next hb1).alloc (.cells #[.int .i64 1, .int .i64 y1, .int .i64 y2, .int .i64 y3] 25)).1
  clear U0 G0
  go_wp2_with fail
  exact ⟨rfl, rfl, U1⟩

set_option maxRecDepth 100000 in
set_option maxHeartbeats 4000000 in
theorem ivc_ok (kf kx : Nat) (a b c d u v x r0 r1 r2 : Int) (w : World) (hF : Arr w kf a b c d) (hX : Arr3 w kx u v x)
    (hm : ∀ W, Calls Tryd.prog 53 #[.agg #[.int .i64 (np a c), .int .i64 b, .int .i64 (ng a), .int .i64 (np a d), .int .i64 0, .int .i64 0, .int .i64 (np b d), .int .i64 d, .int .i64 (ng c)], .agg #[.int .i64 u, .int .i64 v, .int .i64 x]] W fun e w' => e = .returned (.agg #[.int .i64 r0, .int .i64 r1, .int .i64 r2]) ∧ Below W.heap.size W w') :
    Calls Tryd.prog 51 #[.pointer (some ⟨kf, 0, none⟩), .pointer (some ⟨kx, 0, none⟩)] w fun e w' => e = .returned (.agg #[.int .i64 r0, .int .i64 r1, .int .i64 r2]) ∧ Below w.heap.size w w' := by
  have hp := fun W => iProducts_any a b c d W
  generalize np a c = t0 at hp hm
  generalize ng a = t2 at hp hm
  generalize np a d = t3 at hp hm
  generalize np b d = t6 at hp hm
  generalize ng c = t8 at hp hm
  have HP := hid hp; have HM := hid hm
  clear hp hm
  have F1 := hF.alloc (.cells #[.int .i64 0, .int .i64 0, .int .i64 0] 27)
  have X1 := hX.alloc (.cells #[.int .i64 0, .int .i64 0, .int .i64 0] 27)
  have R1 := Arr3.new w 0 0 0 27
  have U1 := gr_alloc (Below.refl w.heap.size w) (.cells #[.int .i64 0, .int .i64 0, .int .i64 0] 27)
  have hkf := hF.lt
  have hkx := hX.lt
  clear hF hX
  go_enter Tryd.func51, Tryd.ntmps51
  go_upto_region 1 with fail
  generalize hw1 : w.alloc (.cells #[.int .i64 0, .int .i64 0, .int .i64 0] 27) = w1 at F1 X1 R1 U1 ⊢
  have HW1 := hid hw1
  clear hw1
  have hz := U1.size
  have hzr := R1.lt
  obtain ⟨_, a0, a1, a2, a3, _⟩ := id F1
  obtain ⟨_, x0, x1, x2, _⟩ := id X1
  go_region_held3 (fun W => W.cell? ⟨kx, 0, none⟩ = some (.int .i64 u) ∧ W.cell? ⟨kx, 1, none⟩ = some (.int .i64 v) ∧ W.cell? ⟨kx, 2, none⟩ = some (.int .i64 x) ∧ W.cell? ⟨kf, 0, none⟩ = some (.int .i64 a) ∧ W.cell? ⟨kf, 1, none⟩ = some (.int .i64 b) ∧ W.cell? ⟨kf, 2, none⟩ = some (.int .i64 c) ∧ W.cell? ⟨kf, 3, none⟩ = some (.int .i64 d)) (refine cells43 ?_ ?_ <;> (repeat (first | with_reducible assumption | with_reducible exact Arr.box (by assumption) | with_reducible exact Box.new _ _ _ _ _ _ | with_reducible exact Arr.new _ _ _ _ _ _ | with_reducible refine Arr.drew ?_ | with_reducible refine Arr.drewN ?_ _ | with_reducible refine Arr.store4 ?_ | with_reducible refine Arr.alloc ?_ _ | with_reducible refine Box.drew ?_ | with_reducible refine Box.drewN ?_ _ | with_reducible refine Box.alloc ?_ _ | with_reducible refine Arr.next ?_ (by assumption) | with_reducible refine Box.next ?_ (by assumption) | refine Arr.oth ?_ (by first | (simp; done) | omega | (simp; omega)) _ | refine Box.oth ?_ (by first | (simp; done) | omega | (simp; omega)) _ | with_reducible exact Arr3.box (by assumption) | with_reducible exact Box3.new _ _ _ _ _ | with_reducible exact Arr3.new _ _ _ _ _ | with_reducible refine Arr3.drew ?_ | with_reducible refine Arr3.drewN ?_ _ | with_reducible refine Arr3.store3 ?_ | with_reducible refine Arr3.alloc ?_ _ | with_reducible refine Box3.drew ?_ | with_reducible refine Box3.drewN ?_ _ | with_reducible refine Box3.alloc ?_ _ | with_reducible refine Arr3.next ?_ (by assumption) | with_reducible refine Box3.next ?_ (by assumption) | refine Arr3.oth ?_ (by first | (simp; done) | omega | (simp; omega)) _ | refine Box3.oth ?_ (by first | (simp; done) | omega | (simp; omega)) _))) (first | (go_at_call 52; refine (HP.out _).mono ?_; rintro e w3 ⟨rfl, hb3⟩; have hz3 := hb3.size; (try simp at hz3)) | (go_at_call 53; refine (HM.out _).mono ?_; rintro e w4 ⟨rfl, hb4⟩; have hz4 := hb4.size; (try simp at hz4); have hR : Arr3 w4 w.heap.size 0 0 0 := (by (repeat (first | with_reducible assumption | with_reducible exact Arr.box (by assumption) | with_reducible exact Box.new _ _ _ _ _ _ | with_reducible exact Arr.new _ _ _ _ _ _ | with_reducible refine Arr.drew ?_ | with_reducible refine Arr.drewN ?_ _ | with_reducible refine Arr.store4 ?_ | with_reducible refine Arr.alloc ?_ _ | with_reducible refine Box.drew ?_ | with_reducible refine Box.drewN ?_ _ | with_reducible refine Box.alloc ?_ _ | with_reducible refine Arr.next ?_ (by assumption) | with_reducible refine Box.next ?_ (by assumption) | refine Arr.oth ?_ (by first | (simp; done) | omega | (simp; omega)) _ | refine Box.oth ?_ (by first | (simp; done) | omega | (simp; omega)) _ | with_reducible exact Arr3.box (by assumption) | with_reducible exact Box3.new _ _ _ _ _ | with_reducible exact Arr3.new _ _ _ _ _ | with_reducible refine Arr3.drew ?_ | with_reducible refine Arr3.drewN ?_ _ | with_reducible refine Arr3.store3 ?_ | with_reducible refine Arr3.alloc ?_ _ | with_reducible refine Box3.drew ?_ | with_reducible refine Box3.drewN ?_ _ | with_reducible refine Box3.alloc ?_ _ | with_reducible refine Arr3.next ?_ (by assumption) | with_reducible refine Box3.next ?_ (by assumption) | refine Arr3.oth ?_ (by first | (simp; done) | omega | (simp; omega)) _ | refine Box3.oth ?_ (by first | (simp; done) | omega | (simp; omega)) _))); obtain ⟨_, r0', r1', r2', f0, f1, f2⟩ := id hR))
  all_goals (go_wp2_with fail; refine bodyPost_ret (res_A31 (e := 2) rfl Tryd.underlying27 (by kernel_rfl) rfl (by (repeat (first | with_reducible assumption | with_reducible exact Arr.box (by assumption) | with_reducible exact Box.new _ _ _ _ _ _ | with_reducible exact Arr.new _ _ _ _ _ _ | with_reducible refine Arr.drew ?_ | with_reducible refine Arr.drewN ?_ _ | with_reducible refine Arr.store4 ?_ | with_reducible refine Arr.alloc ?_ _ | with_reducible refine Box.drew ?_ | with_reducible refine Box.drewN ?_ _ | with_reducible refine Box.alloc ?_ _ | with_reducible refine Arr.next ?_ (by assumption) | with_reducible refine Box.next ?_ (by assumption) | refine Arr.oth ?_ (by first | (simp; done) | omega | (simp; omega)) _ | refine Box.oth ?_ (by first | (simp; done) | omega | (simp; omega)) _ | with_reducible exact Arr3.box (by assumption) | with_reducible exact Box3.new _ _ _ _ _ | with_reducible exact Arr3.new _ _ _ _ _ | with_reducible refine Arr3.drew ?_ | with_reducible refine Arr3.drewN ?_ _ | with_reducible refine Arr3.store3 ?_ | with_reducible refine Arr3.alloc ?_ _ | with_reducible refine Box3.drew ?_ | with_reducible refine Box3.drewN ?_ _ | with_reducible refine Box3.alloc ?_ _ | with_reducible refine Arr3.next ?_ (by assumption) | with_reducible refine Box3.next ?_ (by assumption) | refine Arr3.oth ?_ (by first | (simp; done) | omega | (simp; omega)) _ | refine Box3.oth ?_ (by first | (simp; done) | omega | (simp; omega)) _)))) rfl ?_; exact ⟨rfl, by (repeat' (first | with_reducible exact Below.refl _ _ | with_reducible assumption | with_reducible refine gr_alloc ?_ _ | with_reducible refine gr_drew ?_ | with_reducible refine gr_drewN ?_ _ | with_reducible refine gr_trans ?_ (by assumption) | with_reducible refine gr_set ?_ ?_ _ | (simp; done) | omega | (simp; omega)))⟩)

/-- A way that has ended in a panic: nothing is left to be walked. -/
theorem dead_end {G : Prop} (P : Program) (w : World) (h : G) (_ : wpAny P .any #[] (fun _ _ _ => True) 0 #[] ⟨#[], []⟩ w) : G := h

set_option maxRecDepth 100000 in
set_option maxHeartbeats 4000000 in
theorem ivc_err (kf kx : Nat) (a b c d u v x : Int) (pv : Value) (w : World) (hg : SenU w pv) (hF : Arr w kf a b c d) (hX : Arr3 w kx u v x)
    (hm : ∀ W, SenU W pv → Calls Tryd.prog 53 #[.agg #[.int .i64 (np a c), .int .i64 b, .int .i64 (ng a), .int .i64 (np a d), .int .i64 0, .int .i64 0, .int .i64 (np b d), .int .i64 d, .int .i64 (ng c)], .agg #[.int .i64 u, .int .i64 v, .int .i64 x]] W (PanU pv W)) :
    Calls Tryd.prog 51 #[.pointer (some ⟨kf, 0, none⟩), .pointer (some ⟨kx, 0, none⟩)] w (PanU pv w) := by
  have hp := fun W => iProducts_any a b c d W
  generalize np a c = t0 at hp hm
  generalize ng a = t2 at hp hm
  generalize np a d = t3 at hp hm
  generalize np b d = t6 at hp hm
  generalize ng c = t8 at hp hm
  have HP := hid hp; have HM := hid hm
  clear hp hm
  have F1 := hF.alloc (.cells #[.int .i64 0, .int .i64 0, .int .i64 0] 27)
  have X1 := hX.alloc (.cells #[.int .i64 0, .int .i64 0, .int .i64 0] 27)
  have G1 := hg.alloc (.cells #[.int .i64 0, .int .i64 0, .int .i64 0] 27)
  have U1 := gr_alloc (Below.refl w.heap.size w) (.cells #[.int .i64 0, .int .i64 0, .int .i64 0] 27)
  have hkf := hF.lt
  have hkx := hX.lt
  clear hF hX hg
  go_enter Tryd.func51, Tryd.ntmps51
  go_upto_region 1 with fail
  generalize hw1 : w.alloc (.cells #[.int .i64 0, .int .i64 0, .int .i64 0] 27) = w1 at F1 X1 G1 U1 ⊢
  have HW1 := hid hw1
  clear hw1
  have hz := U1.size
  have HG := hid G1; have HF := hid F1; have HX := hid X1
  clear G1
  obtain ⟨_, a0, a1, a2, a3, _⟩ := id F1
  obtain ⟨_, x0, x1, x2, _⟩ := id X1
  clear F1 X1
  go_region_with (first | (go_at_call 52; refine (HP.out _).mono ?_; rintro e w3 ⟨rfl, hb3⟩; obtain ⟨_, a0', a1', a2', a3', _⟩ := id (HF.out.drew.next hb3); obtain ⟨_, x0', x1', x2', _⟩ := id (HX.out.drew.next hb3)) | (go_at_call 53; refine (HM.out _ (HG.out.drew.next hb3)).mono ?_; rintro e w4 ⟨rfl, hb4⟩; refine dead_end Tryd.prog w4 ⟨rfl, rfl, gr_trans (gr_trans (gr_drew U1) hb3) hb4⟩ ?_))
  all_goals trivial

set_option maxRecDepth 100000 in
set_option maxHeartbeats 1000000 in
theorem orErrE_ok (a b : Addr) (r0 r1 r2 : Int) (w : World) (hC : Calls Tryd.prog 51 #[.pointer (some a), .pointer (some b)] ((w.alloc (.cells #[.int .i64 0, .int .i64 0, .int .i64 0] 27)).alloc (.cells #[.nilIface] 69)) fun e w' => e = .returned (.agg #[.int .i64 r0, .int .i64 r1, .int .i64 r2]) ∧ Below ((w.alloc (.cells #[.int .i64 0, .int .i64 0, .int .i64 0] 27)).alloc (.cells #[.nilIface] 69)).heap.size ((w.alloc (.cells #[.int .i64 0, .int .i64 0, .int .i64 0] 27)).alloc (.cells #[.nilIface] 69)) w') :
    Calls Tryd.prog 50 #[.func (.func 51) #[] #[.pointer (some a), .pointer (some b)]] w fun e w' => e = .returned (.tuple #[.agg #[.int .i64 r0, .int .i64 r1, .int .i64 r2], .nilIface]) ∧ Below w.heap.size w w' := by
  have hmf : ∀ (fn : Fn) (first cap : Array Value) (w : World), (Instr.makeFunc fn first cap).run Tryd.prog w = .ok (.func fn first cap) w := fun _ _ _ _ => rfl
  have H := hid hC
  clear hC
  have R0 := (Arr3.new w 0 0 0 27).alloc (.cells #[.nilIface] 69)
  have E0 := Bx.new (w.alloc (.cells #[.int .i64 0, .int .i64 0, .int .i64 0] 27)) #[.nilIface] 69
  simp only [World.size_alloc] at E0
  have U0 := gr_alloc (gr_alloc (Below.refl w.heap.size w) (.cells #[.int .i64 0, .int .i64 0, .int .i64 0] 27)) (.cells #[.nilIface] 69)
  go_enter_defers Tryd.func50, Tryd.ntmps50
  go_wp2_with fail
  refine H.out.mono ?_
  rintro e w1 ⟨rfl, hb⟩
  have R1 := R0.next hb
  have E1 := E0.next hb
  have U1 := gr_trans U0 hb
  have e0 := E1.cell 0
  have f0 := E1.frozen 0
  obtain ⟨_, q0, q1, q2, h0, h1, h2⟩ := id R1
  go_wp2_with fail
  refine leaves_cons (f := 93) (args := #[.pointer (some ⟨w.heap.size + 1, 0, none⟩)]) (by simp) (by simp [go_sem]) ?_
  refine (catchE_idle ⟨w.heap.size + 1, 0, none⟩ _).mono ?_
  rintro e u' w2 ⟨rfl, rfl, rfl⟩
  have R2 := Arr3.store3 R1.box (x := r0) (y := r1) (z := r2)
  have e2 : ((((w1.setCell ⟨w.heap.size, 0, none⟩ (.int .i64 r0)).setCell ⟨w.heap.size, 1, none⟩ (.int .i64 r1)).setCell ⟨w.heap.size, 2, none⟩ (.int .i64 r2))).cell? ⟨w.heap.size + 1, 0, none⟩ = some .nilIface := by simp [go_sem, e0]
  have U2 := gr_set (gr_set (gr_set U1 (p := ⟨w.heap.size, 0, none⟩) (Nat.le_refl _) (.int .i64 r0)) (p := ⟨w.heap.size, 1, none⟩) (Nat.le_refl _) (.int .i64 r1)) (p := ⟨w.heap.size, 2, none⟩) (Nat.le_refl _) (.int .i64 r2)
  generalize (((w1.setCell ⟨w.heap.size, 0, none⟩ (.int .i64 r0)).setCell ⟨w.heap.size, 1, none⟩ (.int .i64 r1)).setCell ⟨w.heap.size, 2, none⟩ (.int .i64 r2)) = w3 at R2 e2 U2 ⊢
  have R3 := R2.oth (p := ⟨w.heap.size + 1, 0, none⟩) (by simp) .nilIface
  have hc : (w3.setCell ⟨w.heap.size + 1, 0, none⟩ .nilIface).cell? ⟨w.heap.size + 1, 0, none⟩ = some .nilIface := World.cell?_setCell_same' _ _ _ (by rw [e2]; rfl)
  refine ⟨.tuple #[.agg #[.int .i64 r0, .int .i64 r1, .int .i64 r2], .nilIface], res_A3c (e := 2) rfl Tryd.underlying27 (by kernel_rfl) rfl rfl R3 (by simp [go_sem, hc]), rfl, ?_⟩
  exact gr_set U2 (by show w.heap.size ≤ w.heap.size + 1; omega) _


end Go.Proofs.YtdogkkmdccieiaaDoor
