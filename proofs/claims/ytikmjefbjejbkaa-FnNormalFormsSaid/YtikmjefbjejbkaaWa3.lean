/- Several texts in one: XDraw25, XDraw26, XEv0, XEv1, XEv2, XEv3. -/
import Derived.Test.YtikmjefbjejbkaaWa2
import Derived.Test.YtikmjefbjejbkaaBbZ10
import Derived.Test.YtikmjefbjejbkaaBbZ12
import Derived.Test.YtikmjefbjejbkaaBbZ20
import Derived.Deep.DeepCutAuto
import Derived.Test.YtikmjefbjejbkaaBbZ1
import Derived.Test.YtikmjefbjejbkaaWa1
import Derived.Test.YtikmjefbjejbkaaBbAz

/- Draws of chapter 2: forms that are reduced, pairs of forms. -/
namespace Go.Proofs.Ytikmjefbjejbkaa
open Go.ChangeShapes Go.WideShapes Go.ChangeAt Go.RowKit

theorem Arr.elimz {G : Prop} {w : World} {k : Nat} (h : Arr w k 0 0 0 0) (K : Arr w k 0 0 0 0 → G) : G := K h
theorem row8_nx {w w' : World} {a : Option Addr} {len cap : Nat} {zs : List Int} (h : IsRow .u8 w a len cap zs) (hb : Below w.heap.size w w') : IsRow .u8 w' a len cap zs := by
  rcases h with h | ⟨x, h1, h2, h3, h4, h5, h6⟩
  · exact .inl h
  · exact .inr ⟨x, h1, h2, h3, h4, fun i hi => (hb.cell (p := x.add i) (World.block_lt_of_cell? w (x.add i) (h5 i hi))).trans (h5 i hi), h6⟩
def FrmO2 (w : World) (e : Ending) (w' : World) : Prop := ∃ p q r s : Int, e = .returned (.agg #[.int .i64 p, .int .i64 q, .int .i64 r, .int .i64 s]) ∧ Below w.heap.size w w'
def TwoO2 (w : World) (e : Ending) (w' : World) : Prop := ∃ p q r s p' q' r' s' : Int, e = .returned (.tuple #[.agg #[.int .i64 p, .int .i64 q, .int .i64 r, .int .i64 s], .agg #[.int .i64 p', .int .i64 q', .int .i64 r', .int .i64 s']]) ∧ Below w.heap.size w w'
theorem res_AA2 {P : Program} {fn : Func} {p p' : Tmp} {ty e ty' e' : TypeId} {tmps : Array Value} {w : World} {b b' : Nat} {x0 x1 x2 x3 y0 y1 y2 y3 : Int} (h : fn.results = #[.cell p ty, .cell p' ty']) (hu : P.underlying ty = some (.array 4 e)) (hi : (P.info? ty).map (·.size) = some 4)
    (hu' : P.underlying ty' = some (.array 4 e')) (hi' : (P.info? ty').map (·.size) = some 4) (hp : tmps.getD p undef = .pointer (some ⟨b, 0, none⟩)) (hp' : tmps.getD p' undef = .pointer (some ⟨b', 0, none⟩)) (hA : Arr w b x0 x1 x2 x3) (hB : Arr w b' y0 y1 y2 y3) :
    (results fn tmps).run P w = .ok (.tuple #[.agg #[.int .i64 x0, .int .i64 x1, .int .i64 x2, .int .i64 x3], .agg #[.int .i64 y0, .int .i64 y1, .int .i64 y2, .int .i64 y3]]) w := by
  have hq : tmps[p]?.getD undef = .pointer (some ⟨b, 0, none⟩) := by simpa using hp
  have hq' : tmps[p']?.getD undef = .pointer (some ⟨b', 0, none⟩) := by simpa using hp'
  simp [results, h, hq, hq', asAddr, loadVar4 w b ty e _ _ _ _ hu hi hA.c0 hA.c1 hA.c2 hA.c3, loadVar4 w b' ty' e' _ _ _ _ hu' hi' hB.c0 hB.c1 hB.c2 hB.c3]

set_option maxRecDepth 100000 in
set_option maxHeartbeats 4000000 in
theorem l02Draw_any (k : Nat) (a : Option Addr) (len cap : Nat) (zs : List Int) (w : World) (hS : Src w k a len cap zs) :
    Calls Try.prog 60 #[.pointer (some ⟨k, 0, none⟩)] w (FrmPost k a len cap zs w) := by
  have hl := hS.lt
  have R0 := Arr.new w 0 0 0 0 26
  have S0 := hid (hS.alloc (.cells #[.int .i64 0, .int .i64 0, .int .i64 0, .int .i64 0] 26))
  have H0 := (Gk.refl k w).alloc (.cells #[.int .i64 0, .int .i64 0, .int .i64 0, .int .i64 0] 26)
  clear hS
  go_enter Try.func60, Try.ntmps60
  go_wp2_with fail
  refine (small_any k a len cap zs _ S0.out).mono ?_
  rintro e w1 ⟨z0, z1, z2, z3, rfl, S1', G1⟩
  have R1 := R0.gk G1 (by omega)
  have H1 := H0.trans G1
  have hS1 := S1'.lt
  have hR1 := R1.lt
  have X2 := Arr.new w1 z0 z1 z2 z3 26
  have S2 := hid (S1'.alloc (.cells #[.int .i64 z0, .int .i64 z1, .int .i64 z2, .int .i64 z3] 26))
  have R2 := R1.alloc (.cells #[.int .i64 z0, .int .i64 z1, .int .i64 z2, .int .i64 z3] 26)
  have H2 := H1.alloc (.cells #[.int .i64 z0, .int .i64 z1, .int .i64 z2, .int .i64 z3] 26)
  clear S1' G1 R0 H0 S0 R1 H1
  obtain ⟨j, hj⟩ : ∃ j, j = w1.heap.size := ⟨_, rfl⟩
  rw [← hj] at X2 hS1 hR1
  go_upto_region 2 with fail
  rw [← hj]
  generalize w1.alloc (.cells #[.int .i64 z0, .int .i64 z1, .int .i64 z2, .int .i64 z3] 26) = W2 at X2 S2 R2 H2 ⊢
  clear hj
  go_wp2_with fail
  refine (next_any k a len cap zs _ _ S2.out).mono ?_
  rintro e w4 ⟨x, rfl, _, _, S4', G4⟩
  have S4 := hid S4'
  have X4 := X2.gk G4 (by omega)
  have R4 := R2.gk G4 (by omega)
  have H4 := H2.trans G4
  have hR4 := R4.lt
  have hS4 := S4'.lt
  have hX4 := X4.lt
  clear S4' G4 X2 R2 H2 S2
  by_cases h0 : x = 0
  · subst h0
    go_wp2_with fail
    refine (spoil_any k a len cap zs _ S4.out).mono ?_
    rintro e w5 ⟨p', q', r', s', rfl, S5', G5⟩
    have S5 := hid S5'
    have R5 := R4.gk G5 (by omega)
    have H5 := H4.trans G5
    clear S5' G5 X4 R4 H4 S4
    obtain ⟨_, r0, r1, r2, r3, f0, f1, f2, f3⟩ := id R5
    go_wp2_with fail
    refine bodyPost_ret (res_A1 (e := 2) rfl Try.underlying26 (by kernel_rfl) rfl (by (repeat (first | with_reducible assumption | with_reducible exact Arr.box (by assumption) | with_reducible apply Arr.drew | with_reducible apply Arr.drewN | with_reducible refine Arr.store4 ?_ | with_reducible apply Arr.alloc | with_reducible refine Box.drew ?_ | with_reducible refine Box.drewN ?_ _ | with_reducible refine Box.alloc ?_ _ | refine Arr.oth ?_ (by first | (simp; done) | omega | (simp; omega)) _ | refine Box.oth ?_ (by first | (simp; done) | omega | (simp; omega)) _)))) rfl ?_
    exact ⟨_, _, _, _, rfl, S5.out.up4 hl _ _ _ _, H5.up4 (Nat.le_refl _) _ _ _ _⟩
  have e0 : (x == 0) = false := by simpa using h0
  by_cases h1 : x = 1
  · subst h1
    clear e0 h0
    go_wp2_with fail
    refine (drawOf_any k a len cap zs 100 _ S4.out).mono ?_
    rintro e w5 ⟨p', q', r', s', rfl, S5', G5⟩
    have S5 := hid S5'
    have R5 := R4.gk G5 (by omega)
    have H5 := H4.trans G5
    clear S5' G5 X4 R4 H4 S4
    obtain ⟨_, r0, r1, r2, r3, f0, f1, f2, f3⟩ := id R5
    go_wp2_with fail
    refine bodyPost_ret (res_A1 (e := 2) rfl Try.underlying26 (by kernel_rfl) rfl (by (repeat (first | with_reducible assumption | with_reducible exact Arr.box (by assumption) | with_reducible apply Arr.drew | with_reducible apply Arr.drewN | with_reducible refine Arr.store4 ?_ | with_reducible apply Arr.alloc | with_reducible refine Box.drew ?_ | with_reducible refine Box.drewN ?_ _ | with_reducible refine Box.alloc ?_ _ | refine Arr.oth ?_ (by first | (simp; done) | omega | (simp; omega)) _ | refine Box.oth ?_ (by first | (simp; done) | omega | (simp; omega)) _)))) rfl ?_
    exact ⟨_, _, _, _, rfl, S5.out.up4 hl _ _ _ _, H5.up4 (Nat.le_refl _) _ _ _ _⟩
  have e1 : (x == 1) = false := by simpa using h1
  by_cases h2 : x = 2
  · subst h2
    clear e0 h0 e1 h1
    go_wp2_with fail
    refine (part_any k a len cap zs _ _ S4.out).mono ?_
    rintro e w6 ⟨y, rfl, S6', G6⟩
    have S6 := hid S6'
    have R6 := R4.gk G6 (by omega)
    have H6 := H4.trans G6
    clear S6' G6 X4 R4 H4 S4
    obtain ⟨_, r0, r1, r2, r3, f0, f1, f2, f3⟩ := id R6
    go_wp2_with fail
    refine bodyPost_ret (res_A1 (e := 2) rfl Try.underlying26 (by kernel_rfl) rfl (by (repeat (first | with_reducible assumption | with_reducible exact Arr.box (by assumption) | with_reducible apply Arr.drew | with_reducible apply Arr.drewN | with_reducible refine Arr.store4 ?_ | with_reducible apply Arr.alloc | with_reducible refine Box.drew ?_ | with_reducible refine Box.drewN ?_ _ | with_reducible refine Box.alloc ?_ _ | refine Arr.oth ?_ (by first | (simp; done) | omega | (simp; omega)) _ | refine Box.oth ?_ (by first | (simp; done) | omega | (simp; omega)) _)))) rfl ?_
    exact ⟨_, _, _, _, rfl, S6.out.up4 hl _ _ _ _, H6.up4 (Nat.le_refl _) _ _ _ _⟩
  have e2 : (x == 2) = false := by simpa using h2
  by_cases h345 : x = 3 ∨ x = 4 ∨ x = 5
  · obtain ⟨W7, hW7⟩ : ∃ W7, W7 = w4 := ⟨_, rfl⟩
    subst hW7
    have X7 := X4; have R7 := R4; have S7 := S4; have H7 := H4
    have hX7 := hX4; have hS7 := hS4; have hR7 := hR4
    clear X4 R4 S4 H4 hX4 hS4 hR4 h0 h1 h2
    obtain ⟨_, x0, x1, x2, x3, _⟩ := id X7
    rcases h345 with rfl | rfl | rfl
    · go_upto_region 13 with fail
      go_cut [5] (fun s5 wx => ∃ jn : Nat, s5 = .pointer (some ⟨jn, 0, none⟩) ∧ j < jn ∧ Box wx jn ∧ Arr wx j z0 z1 z2 z3 ∧ Arr wx w.heap.size 0 0 0 0 ∧ Hid (Src wx k a len cap zs) ∧ Gk k w wx)
      case first =>
        go_region_held3 (fun W => W.cell? ⟨j, 0, none⟩ = some (.int .i64 z0) ∧ W.cell? ⟨j, 1, none⟩ = some (.int .i64 z1) ∧ W.cell? ⟨j, 2, none⟩ = some (.int .i64 z2) ∧ W.cell? ⟨j, 3, none⟩ = some (.int .i64 z3)) (first | with_reducible assumption | with_reducible exact cells4 (by assumption) | exact cells4 (by (repeat (first | with_reducible assumption | with_reducible exact Arr.box (by assumption) | with_reducible exact Box.new _ _ _ _ _ _ | with_reducible exact Arr.new _ _ _ _ _ _ | with_reducible refine Arr.drew ?_ | with_reducible refine Arr.drewN ?_ _ | with_reducible refine Arr.store4 ?_ | with_reducible refine Arr.alloc ?_ _ | with_reducible refine Box.drew ?_ | with_reducible refine Box.drewN ?_ _ | with_reducible refine Box.alloc ?_ _ | with_reducible refine Arr.next ?_ (by assumption) | with_reducible refine Box.next ?_ (by assumption) | refine Arr.oth ?_ (by first | (simp; done) | omega | (simp; omega)) _ | refine Box.oth ?_ (by first | (simp; done) | omega | (simp; omega)) _ | with_reducible exact Arr3.box (by assumption) | with_reducible exact Box3.new _ _ _ _ _ | with_reducible exact Arr3.new _ _ _ _ _ | with_reducible refine Arr3.drew ?_ | with_reducible refine Arr3.drewN ?_ _ | with_reducible refine Arr3.store3 ?_ | with_reducible refine Arr3.alloc ?_ _ | with_reducible refine Box3.drew ?_ | with_reducible refine Box3.drewN ?_ _ | with_reducible refine Box3.alloc ?_ _ | with_reducible refine Arr3.next ?_ (by assumption) | with_reducible refine Box3.next ?_ (by assumption) | refine Arr3.oth ?_ (by first | (simp; done) | omega | (simp; omega)) _ | refine Box3.oth ?_ (by first | (simp; done) | omega | (simp; omega)) _)))) (first | (go_at_call 111; refine (unit_any k a len cap zs _ (Src.below S7.out (by (repeat' (first | with_reducible exact Below.refl _ _ | with_reducible assumption | with_reducible refine gr_alloc ?_ _ | with_reducible refine gr_drew ?_ | with_reducible refine gr_drewN ?_ _ | with_reducible refine gr_trans ?_ (by assumption) | with_reducible refine gr_set ?_ ?_ _ | (simp; done) | omega | (simp; omega)))))).mono ?_; rintro e w8 ⟨p', q', r', s', rfl, S8', G8⟩; have X8 := Arr.gk (Arr.next X7 (by (repeat' (first | with_reducible exact Below.refl _ _ | with_reducible assumption | with_reducible refine gr_alloc ?_ _ | with_reducible refine gr_drew ?_ | with_reducible refine gr_drewN ?_ _ | with_reducible refine gr_trans ?_ (by assumption) | with_reducible refine gr_set ?_ ?_ _ | (simp; done) | omega | (simp; omega))))) G8 (by omega); have R8 := Arr.gk (Arr.next R7 (by (repeat' (first | with_reducible exact Below.refl _ _ | with_reducible assumption | with_reducible refine gr_alloc ?_ _ | with_reducible refine gr_drew ?_ | with_reducible refine gr_drewN ?_ _ | with_reducible refine gr_trans ?_ (by assumption) | with_reducible refine gr_set ?_ ?_ _ | (simp; done) | omega | (simp; omega))))) G8 (by omega); have H8 := Gk.trans (Gk.below H7 (by (repeat' (first | with_reducible exact Below.refl _ _ | with_reducible assumption | with_reducible refine gr_alloc ?_ _ | with_reducible refine gr_drew ?_ | with_reducible refine gr_drewN ?_ _ | with_reducible refine gr_trans ?_ (by assumption) | with_reducible refine gr_set ?_ ?_ _ | (simp; done) | omega | (simp; omega))))) G8; have S8 := hid S8'; have hS8 := S8'.lt; have hX8 := X8.lt; have hz8 := G8.size; (try simp at hz8); (try (refine Arr.elimz (w := w8) (k := W7.heap.size) ?_ ?_; (focus ((repeat (first | with_reducible assumption | with_reducible exact Arr.new _ _ _ _ _ _ | with_reducible refine Arr.drew ?_ | with_reducible refine Arr.drewN ?_ _ | with_reducible refine Arr.alloc ?_ _ | (with_reducible refine Arr.gk ?_ G8 ?_; rotate_left 1; (focus omega)))); done)); intro zk0; obtain ⟨_, za0, zb0, zc0, zd0, ze0, zf0, zg0, zh0⟩ := id zk0))) | (go_at_call 110; refine (sChange0_any z0 z1 z2 z3 p' q' r' s' _).mono ?_; rintro e w9 ⟨rfl, hb9⟩; have hbx : Below w8.heap.size w8 w9 := (by (repeat' (first | with_reducible exact Below.refl _ _ | with_reducible assumption | with_reducible refine gr_alloc ?_ _ | with_reducible refine gr_drew ?_ | with_reducible refine gr_drewN ?_ _ | with_reducible refine gr_trans ?_ (by assumption) | with_reducible refine gr_set ?_ ?_ _ | (simp; done) | omega | (simp; omega)))); have X9 := X8.next hbx; have R9 := R8.next hbx; have S9 := hid (S8.out.below hbx); have H9 := H8.below hbx; have hX9 := X9.lt; have hS9 := S9.out.lt; have hz9 := hb9.size; (try simp at hz9); (try (refine Arr.elimz (w := w9) (k := W7.heap.size) ?_ ?_; (focus ((repeat (first | with_reducible assumption | with_reducible exact Arr.new _ _ _ _ _ _ | with_reducible refine Arr.drew ?_ | with_reducible refine Arr.drewN ?_ _ | with_reducible refine Arr.alloc ?_ _ | with_reducible refine Arr.next ?_ hb9 | (with_reducible refine Arr.gk ?_ G8 ?_; rotate_left 1; (focus omega)))); done)); intro zk1; obtain ⟨_, za1, zb1, zc1, zd1, ze1, zf1, zg1, zh1⟩ := id zk1)); (try (refine Arr.elimz (w := w9) (k := w8.heap.size) ?_ ?_; (focus ((repeat (first | with_reducible assumption | with_reducible exact Arr.new _ _ _ _ _ _ | with_reducible refine Arr.drew ?_ | with_reducible refine Arr.drewN ?_ _ | with_reducible refine Arr.alloc ?_ _ | with_reducible refine Arr.next ?_ hb9 | (with_reducible refine Arr.gk ?_ G8 ?_; rotate_left 1; (focus omega)))); done)); intro zk2; obtain ⟨_, za2, zb2, zc2, zd2, ze2, zf2, zg2, zh2⟩ := id zk2))))
        all_goals (go_wp2_with fail; go_meet; refine ⟨_, rfl, ?_, ?_, ?_, ?_, ?_, ?_⟩; (focus omega); (focus (first | with_reducible exact Box.new _ _ _ _ _ _ | exact Arr.box (Arr.store4 (Arr.box (by assumption))))); (focus (repeat (first | with_reducible assumption | with_reducible refine Arr.alloc ?_ _ | (with_reducible refine Arr.oth4M ?_ ?_ _ _ _ _; rotate_left 1; (focus omega))))); (focus (repeat (first | with_reducible assumption | with_reducible refine Arr.alloc ?_ _ | (with_reducible refine Arr.oth4M ?_ ?_ _ _ _ _; rotate_left 1; (focus omega))))); (focus (first | exact hid (S9.out.alloc _) | exact hid (S9.out.up4 (by omega) _ _ _ _))); (focus (first | exact H9.alloc _ | exact H9.up4 (by omega) _ _ _ _)))
      case rest =>
        obtain ⟨jn, rfl, hjn, ⟨m0, m1, m2, m3, Y10⟩, X10, R10, S10, H10⟩ := hcut
        clear X7 R7 S7 H7 x0 x1 x2 x3
        obtain ⟨_, y0, y1, y2, y3, _⟩ := id Y10
        go_wp2_with fail
        refine (l01Fits_any m0 m1 m2 m3 _).mono ?_
        rintro e w11 ⟨rfl, hb11⟩
        have Y11 := Y10.next hb11
        have X11 := X10.next hb11
        have R11 := R10.next hb11
        have S11 := hid (S10.out.below hb11)
        have H11 := H10.below hb11
        clear Y10 X10 R10 S10 H10 hb11 y0 y1 y2 y3
        obtain ⟨_, y0, y1, y2, y3, _⟩ := id Y11
        obtain ⟨_, x0, x1, x2, x3, _⟩ := id X11
        obtain ⟨_, r0, r1, r2, r3, f0, f1, f2, f3⟩ := id R11
        cases isF m0 m1 m2 m3
        all_goals
          go_wp2_with fail
          refine bodyPost_ret (res_A1 (e := 2) rfl Try.underlying26 (by kernel_rfl) rfl (Arr.store4 R11.box)) rfl ?_
          exact ⟨_, _, _, _, rfl, S11.out.up4 hl _ _ _ _, H11.up4 (Nat.le_refl _) _ _ _ _⟩
    · go_upto_region 13 with fail
      go_cut [5] (fun s5 wx => ∃ jn : Nat, s5 = .pointer (some ⟨jn, 0, none⟩) ∧ j < jn ∧ Box wx jn ∧ Arr wx j z0 z1 z2 z3 ∧ Arr wx w.heap.size 0 0 0 0 ∧ Hid (Src wx k a len cap zs) ∧ Gk k w wx)
      case first =>
        go_region_held3 (fun W => W.cell? ⟨j, 0, none⟩ = some (.int .i64 z0) ∧ W.cell? ⟨j, 1, none⟩ = some (.int .i64 z1) ∧ W.cell? ⟨j, 2, none⟩ = some (.int .i64 z2) ∧ W.cell? ⟨j, 3, none⟩ = some (.int .i64 z3)) (first | with_reducible assumption | with_reducible exact cells4 (by assumption) | exact cells4 (by (repeat (first | with_reducible assumption | with_reducible exact Arr.box (by assumption) | with_reducible exact Box.new _ _ _ _ _ _ | with_reducible exact Arr.new _ _ _ _ _ _ | with_reducible refine Arr.drew ?_ | with_reducible refine Arr.drewN ?_ _ | with_reducible refine Arr.store4 ?_ | with_reducible refine Arr.alloc ?_ _ | with_reducible refine Box.drew ?_ | with_reducible refine Box.drewN ?_ _ | with_reducible refine Box.alloc ?_ _ | with_reducible refine Arr.next ?_ (by assumption) | with_reducible refine Box.next ?_ (by assumption) | refine Arr.oth ?_ (by first | (simp; done) | omega | (simp; omega)) _ | refine Box.oth ?_ (by first | (simp; done) | omega | (simp; omega)) _ | with_reducible exact Arr3.box (by assumption) | with_reducible exact Box3.new _ _ _ _ _ | with_reducible exact Arr3.new _ _ _ _ _ | with_reducible refine Arr3.drew ?_ | with_reducible refine Arr3.drewN ?_ _ | with_reducible refine Arr3.store3 ?_ | with_reducible refine Arr3.alloc ?_ _ | with_reducible refine Box3.drew ?_ | with_reducible refine Box3.drewN ?_ _ | with_reducible refine Box3.alloc ?_ _ | with_reducible refine Arr3.next ?_ (by assumption) | with_reducible refine Box3.next ?_ (by assumption) | refine Arr3.oth ?_ (by first | (simp; done) | omega | (simp; omega)) _ | refine Box3.oth ?_ (by first | (simp; done) | omega | (simp; omega)) _)))) (first | (go_at_call 111; refine (unit_any k a len cap zs _ (Src.below S7.out (by (repeat' (first | with_reducible exact Below.refl _ _ | with_reducible assumption | with_reducible refine gr_alloc ?_ _ | with_reducible refine gr_drew ?_ | with_reducible refine gr_drewN ?_ _ | with_reducible refine gr_trans ?_ (by assumption) | with_reducible refine gr_set ?_ ?_ _ | (simp; done) | omega | (simp; omega)))))).mono ?_; rintro e w8 ⟨p', q', r', s', rfl, S8', G8⟩; have X8 := Arr.gk (Arr.next X7 (by (repeat' (first | with_reducible exact Below.refl _ _ | with_reducible assumption | with_reducible refine gr_alloc ?_ _ | with_reducible refine gr_drew ?_ | with_reducible refine gr_drewN ?_ _ | with_reducible refine gr_trans ?_ (by assumption) | with_reducible refine gr_set ?_ ?_ _ | (simp; done) | omega | (simp; omega))))) G8 (by omega); have R8 := Arr.gk (Arr.next R7 (by (repeat' (first | with_reducible exact Below.refl _ _ | with_reducible assumption | with_reducible refine gr_alloc ?_ _ | with_reducible refine gr_drew ?_ | with_reducible refine gr_drewN ?_ _ | with_reducible refine gr_trans ?_ (by assumption) | with_reducible refine gr_set ?_ ?_ _ | (simp; done) | omega | (simp; omega))))) G8 (by omega); have H8 := Gk.trans (Gk.below H7 (by (repeat' (first | with_reducible exact Below.refl _ _ | with_reducible assumption | with_reducible refine gr_alloc ?_ _ | with_reducible refine gr_drew ?_ | with_reducible refine gr_drewN ?_ _ | with_reducible refine gr_trans ?_ (by assumption) | with_reducible refine gr_set ?_ ?_ _ | (simp; done) | omega | (simp; omega))))) G8; have S8 := hid S8'; have hS8 := S8'.lt; have hX8 := X8.lt; have hz8 := G8.size; (try simp at hz8); (try (refine Arr.elimz (w := w8) (k := W7.heap.size) ?_ ?_; (focus ((repeat (first | with_reducible assumption | with_reducible exact Arr.new _ _ _ _ _ _ | with_reducible refine Arr.drew ?_ | with_reducible refine Arr.drewN ?_ _ | with_reducible refine Arr.alloc ?_ _ | (with_reducible refine Arr.gk ?_ G8 ?_; rotate_left 1; (focus omega)))); done)); intro zk0; obtain ⟨_, za0, zb0, zc0, zd0, ze0, zf0, zg0, zh0⟩ := id zk0))) | (go_at_call 110; refine (sChange0_any z0 z1 z2 z3 p' q' r' s' _).mono ?_; rintro e w9 ⟨rfl, hb9⟩; have hbx : Below w8.heap.size w8 w9 := (by (repeat' (first | with_reducible exact Below.refl _ _ | with_reducible assumption | with_reducible refine gr_alloc ?_ _ | with_reducible refine gr_drew ?_ | with_reducible refine gr_drewN ?_ _ | with_reducible refine gr_trans ?_ (by assumption) | with_reducible refine gr_set ?_ ?_ _ | (simp; done) | omega | (simp; omega)))); have X9 := X8.next hbx; have R9 := R8.next hbx; have S9 := hid (S8.out.below hbx); have H9 := H8.below hbx; have hX9 := X9.lt; have hS9 := S9.out.lt; have hz9 := hb9.size; (try simp at hz9); (try (refine Arr.elimz (w := w9) (k := W7.heap.size) ?_ ?_; (focus ((repeat (first | with_reducible assumption | with_reducible exact Arr.new _ _ _ _ _ _ | with_reducible refine Arr.drew ?_ | with_reducible refine Arr.drewN ?_ _ | with_reducible refine Arr.alloc ?_ _ | with_reducible refine Arr.next ?_ hb9 | (with_reducible refine Arr.gk ?_ G8 ?_; rotate_left 1; (focus omega)))); done)); intro zk1; obtain ⟨_, za1, zb1, zc1, zd1, ze1, zf1, zg1, zh1⟩ := id zk1)); (try (refine Arr.elimz (w := w9) (k := w8.heap.size) ?_ ?_; (focus ((repeat (first | with_reducible assumption | with_reducible exact Arr.new _ _ _ _ _ _ | with_reducible refine Arr.drew ?_ | with_reducible refine Arr.drewN ?_ _ | with_reducible refine Arr.alloc ?_ _ | with_reducible refine Arr.next ?_ hb9 | (with_reducible refine Arr.gk ?_ G8 ?_; rotate_left 1; (focus omega)))); done)); intro zk2; obtain ⟨_, za2, zb2, zc2, zd2, ze2, zf2, zg2, zh2⟩ := id zk2))))
        all_goals (go_wp2_with fail; go_meet; refine ⟨_, rfl, ?_, ?_, ?_, ?_, ?_, ?_⟩; (focus omega); (focus (first | with_reducible exact Box.new _ _ _ _ _ _ | exact Arr.box (Arr.store4 (Arr.box (by assumption))))); (focus (repeat (first | with_reducible assumption | with_reducible refine Arr.alloc ?_ _ | (with_reducible refine Arr.oth4M ?_ ?_ _ _ _ _; rotate_left 1; (focus omega))))); (focus (repeat (first | with_reducible assumption | with_reducible refine Arr.alloc ?_ _ | (with_reducible refine Arr.oth4M ?_ ?_ _ _ _ _; rotate_left 1; (focus omega))))); (focus (first | exact hid (S9.out.alloc _) | exact hid (S9.out.up4 (by omega) _ _ _ _))); (focus (first | exact H9.alloc _ | exact H9.up4 (by omega) _ _ _ _)))
      case rest =>
        obtain ⟨jn, rfl, hjn, ⟨m0, m1, m2, m3, Y10⟩, X10, R10, S10, H10⟩ := hcut
        clear X7 R7 S7 H7 x0 x1 x2 x3
        obtain ⟨_, y0, y1, y2, y3, _⟩ := id Y10
        go_wp2_with fail
        refine (l01Fits_any m0 m1 m2 m3 _).mono ?_
        rintro e w11 ⟨rfl, hb11⟩
        have Y11 := Y10.next hb11
        have X11 := X10.next hb11
        have R11 := R10.next hb11
        have S11 := hid (S10.out.below hb11)
        have H11 := H10.below hb11
        clear Y10 X10 R10 S10 H10 hb11 y0 y1 y2 y3
        obtain ⟨_, y0, y1, y2, y3, _⟩ := id Y11
        obtain ⟨_, x0, x1, x2, x3, _⟩ := id X11
        obtain ⟨_, r0, r1, r2, r3, f0, f1, f2, f3⟩ := id R11
        cases isF m0 m1 m2 m3
        all_goals
          go_wp2_with fail
          refine bodyPost_ret (res_A1 (e := 2) rfl Try.underlying26 (by kernel_rfl) rfl (Arr.store4 R11.box)) rfl ?_
          exact ⟨_, _, _, _, rfl, S11.out.up4 hl _ _ _ _, H11.up4 (Nat.le_refl _) _ _ _ _⟩
    · go_upto_region 13 with fail
      go_cut [5] (fun s5 wx => ∃ jn : Nat, s5 = .pointer (some ⟨jn, 0, none⟩) ∧ j < jn ∧ Box wx jn ∧ Arr wx j z0 z1 z2 z3 ∧ Arr wx w.heap.size 0 0 0 0 ∧ Hid (Src wx k a len cap zs) ∧ Gk k w wx)
      case first =>
        go_region_held3 (fun W => W.cell? ⟨j, 0, none⟩ = some (.int .i64 z0) ∧ W.cell? ⟨j, 1, none⟩ = some (.int .i64 z1) ∧ W.cell? ⟨j, 2, none⟩ = some (.int .i64 z2) ∧ W.cell? ⟨j, 3, none⟩ = some (.int .i64 z3)) (first | with_reducible assumption | with_reducible exact cells4 (by assumption) | exact cells4 (by (repeat (first | with_reducible assumption | with_reducible exact Arr.box (by assumption) | with_reducible exact Box.new _ _ _ _ _ _ | with_reducible exact Arr.new _ _ _ _ _ _ | with_reducible refine Arr.drew ?_ | with_reducible refine Arr.drewN ?_ _ | with_reducible refine Arr.store4 ?_ | with_reducible refine Arr.alloc ?_ _ | with_reducible refine Box.drew ?_ | with_reducible refine Box.drewN ?_ _ | with_reducible refine Box.alloc ?_ _ | with_reducible refine Arr.next ?_ (by assumption) | with_reducible refine Box.next ?_ (by assumption) | refine Arr.oth ?_ (by first | (simp; done) | omega | (simp; omega)) _ | refine Box.oth ?_ (by first | (simp; done) | omega | (simp; omega)) _ | with_reducible exact Arr3.box (by assumption) | with_reducible exact Box3.new _ _ _ _ _ | with_reducible exact Arr3.new _ _ _ _ _ | with_reducible refine Arr3.drew ?_ | with_reducible refine Arr3.drewN ?_ _ | with_reducible refine Arr3.store3 ?_ | with_reducible refine Arr3.alloc ?_ _ | with_reducible refine Box3.drew ?_ | with_reducible refine Box3.drewN ?_ _ | with_reducible refine Box3.alloc ?_ _ | with_reducible refine Arr3.next ?_ (by assumption) | with_reducible refine Box3.next ?_ (by assumption) | refine Arr3.oth ?_ (by first | (simp; done) | omega | (simp; omega)) _ | refine Box3.oth ?_ (by first | (simp; done) | omega | (simp; omega)) _)))) (first | (go_at_call 111; refine (unit_any k a len cap zs _ (Src.below S7.out (by (repeat' (first | with_reducible exact Below.refl _ _ | with_reducible assumption | with_reducible refine gr_alloc ?_ _ | with_reducible refine gr_drew ?_ | with_reducible refine gr_drewN ?_ _ | with_reducible refine gr_trans ?_ (by assumption) | with_reducible refine gr_set ?_ ?_ _ | (simp; done) | omega | (simp; omega)))))).mono ?_; rintro e w8 ⟨p', q', r', s', rfl, S8', G8⟩; have X8 := Arr.gk (Arr.next X7 (by (repeat' (first | with_reducible exact Below.refl _ _ | with_reducible assumption | with_reducible refine gr_alloc ?_ _ | with_reducible refine gr_drew ?_ | with_reducible refine gr_drewN ?_ _ | with_reducible refine gr_trans ?_ (by assumption) | with_reducible refine gr_set ?_ ?_ _ | (simp; done) | omega | (simp; omega))))) G8 (by omega); have R8 := Arr.gk (Arr.next R7 (by (repeat' (first | with_reducible exact Below.refl _ _ | with_reducible assumption | with_reducible refine gr_alloc ?_ _ | with_reducible refine gr_drew ?_ | with_reducible refine gr_drewN ?_ _ | with_reducible refine gr_trans ?_ (by assumption) | with_reducible refine gr_set ?_ ?_ _ | (simp; done) | omega | (simp; omega))))) G8 (by omega); have H8 := Gk.trans (Gk.below H7 (by (repeat' (first | with_reducible exact Below.refl _ _ | with_reducible assumption | with_reducible refine gr_alloc ?_ _ | with_reducible refine gr_drew ?_ | with_reducible refine gr_drewN ?_ _ | with_reducible refine gr_trans ?_ (by assumption) | with_reducible refine gr_set ?_ ?_ _ | (simp; done) | omega | (simp; omega))))) G8; have S8 := hid S8'; have hS8 := S8'.lt; have hX8 := X8.lt; have hz8 := G8.size; (try simp at hz8); (try (refine Arr.elimz (w := w8) (k := W7.heap.size) ?_ ?_; (focus ((repeat (first | with_reducible assumption | with_reducible exact Arr.new _ _ _ _ _ _ | with_reducible refine Arr.drew ?_ | with_reducible refine Arr.drewN ?_ _ | with_reducible refine Arr.alloc ?_ _ | (with_reducible refine Arr.gk ?_ G8 ?_; rotate_left 1; (focus omega)))); done)); intro zk0; obtain ⟨_, za0, zb0, zc0, zd0, ze0, zf0, zg0, zh0⟩ := id zk0))) | (go_at_call 110; refine (sChange0_any z0 z1 z2 z3 p' q' r' s' _).mono ?_; rintro e w9 ⟨rfl, hb9⟩; have hbx : Below w8.heap.size w8 w9 := (by (repeat' (first | with_reducible exact Below.refl _ _ | with_reducible assumption | with_reducible refine gr_alloc ?_ _ | with_reducible refine gr_drew ?_ | with_reducible refine gr_drewN ?_ _ | with_reducible refine gr_trans ?_ (by assumption) | with_reducible refine gr_set ?_ ?_ _ | (simp; done) | omega | (simp; omega)))); have X9 := X8.next hbx; have R9 := R8.next hbx; have S9 := hid (S8.out.below hbx); have H9 := H8.below hbx; have hX9 := X9.lt; have hS9 := S9.out.lt; have hz9 := hb9.size; (try simp at hz9); (try (refine Arr.elimz (w := w9) (k := W7.heap.size) ?_ ?_; (focus ((repeat (first | with_reducible assumption | with_reducible exact Arr.new _ _ _ _ _ _ | with_reducible refine Arr.drew ?_ | with_reducible refine Arr.drewN ?_ _ | with_reducible refine Arr.alloc ?_ _ | with_reducible refine Arr.next ?_ hb9 | (with_reducible refine Arr.gk ?_ G8 ?_; rotate_left 1; (focus omega)))); done)); intro zk1; obtain ⟨_, za1, zb1, zc1, zd1, ze1, zf1, zg1, zh1⟩ := id zk1)); (try (refine Arr.elimz (w := w9) (k := w8.heap.size) ?_ ?_; (focus ((repeat (first | with_reducible assumption | with_reducible exact Arr.new _ _ _ _ _ _ | with_reducible refine Arr.drew ?_ | with_reducible refine Arr.drewN ?_ _ | with_reducible refine Arr.alloc ?_ _ | with_reducible refine Arr.next ?_ hb9 | (with_reducible refine Arr.gk ?_ G8 ?_; rotate_left 1; (focus omega)))); done)); intro zk2; obtain ⟨_, za2, zb2, zc2, zd2, ze2, zf2, zg2, zh2⟩ := id zk2))))
        all_goals (go_wp2_with fail; go_meet; refine ⟨_, rfl, ?_, ?_, ?_, ?_, ?_, ?_⟩; (focus omega); (focus (first | with_reducible exact Box.new _ _ _ _ _ _ | exact Arr.box (Arr.store4 (Arr.box (by assumption))))); (focus (repeat (first | with_reducible assumption | with_reducible refine Arr.alloc ?_ _ | (with_reducible refine Arr.oth4M ?_ ?_ _ _ _ _; rotate_left 1; (focus omega))))); (focus (repeat (first | with_reducible assumption | with_reducible refine Arr.alloc ?_ _ | (with_reducible refine Arr.oth4M ?_ ?_ _ _ _ _; rotate_left 1; (focus omega))))); (focus (first | exact hid (S9.out.alloc _) | exact hid (S9.out.up4 (by omega) _ _ _ _))); (focus (first | exact H9.alloc _ | exact H9.up4 (by omega) _ _ _ _)))
      case rest =>
        obtain ⟨jn, rfl, hjn, ⟨m0, m1, m2, m3, Y10⟩, X10, R10, S10, H10⟩ := hcut
        clear X7 R7 S7 H7 x0 x1 x2 x3
        obtain ⟨_, y0, y1, y2, y3, _⟩ := id Y10
        go_wp2_with fail
        refine (l01Fits_any m0 m1 m2 m3 _).mono ?_
        rintro e w11 ⟨rfl, hb11⟩
        have Y11 := Y10.next hb11
        have X11 := X10.next hb11
        have R11 := R10.next hb11
        have S11 := hid (S10.out.below hb11)
        have H11 := H10.below hb11
        clear Y10 X10 R10 S10 H10 hb11 y0 y1 y2 y3
        obtain ⟨_, y0, y1, y2, y3, _⟩ := id Y11
        obtain ⟨_, x0, x1, x2, x3, _⟩ := id X11
        obtain ⟨_, r0, r1, r2, r3, f0, f1, f2, f3⟩ := id R11
        cases isF m0 m1 m2 m3
        all_goals
          go_wp2_with fail
          refine bodyPost_ret (res_A1 (e := 2) rfl Try.underlying26 (by kernel_rfl) rfl (Arr.store4 R11.box)) rfl ?_
          exact ⟨_, _, _, _, rfl, S11.out.up4 hl _ _ _ _, H11.up4 (Nat.le_refl _) _ _ _ _⟩
  have e3 : (x == 3) = false := by have : x ≠ 3 := (by omega); simpa using this
  have e4 : (x == 4) = false := by have : x ≠ 4 := (by omega); simpa using this
  have e5 : (x == 5) = false := by have : x ≠ 5 := (by omega); simpa using this
  clear h0 h1 h2 h345
  obtain ⟨_, x0, x1, x2, x3, _⟩ := id X4
  obtain ⟨_, r0, r1, r2, r3, f0, f1, f2, f3⟩ := id R4
  go_wp2_with fail
  refine bodyPost_ret (res_A1 (e := 2) rfl Try.underlying26 (by kernel_rfl) rfl (by (repeat (first | with_reducible assumption | with_reducible exact Arr.box (by assumption) | with_reducible apply Arr.drew | with_reducible apply Arr.drewN | with_reducible refine Arr.store4 ?_ | with_reducible apply Arr.alloc | with_reducible refine Box.drew ?_ | with_reducible refine Box.drewN ?_ _ | with_reducible refine Box.alloc ?_ _ | refine Arr.oth ?_ (by first | (simp; done) | omega | (simp; omega)) _ | refine Box.oth ?_ (by first | (simp; done) | omega | (simp; omega)) _)))) rfl ?_
  exact ⟨_, _, _, _, rfl, S4.out.up4 hl _ _ _ _, H4.up4 (Nat.le_refl _) _ _ _ _⟩

end Go.Proofs.Ytikmjefbjejbkaa

/- Draws of chapter 2: pairs of forms. -/
namespace Go.Proofs.Ytikmjefbjejbkaa
open Go.ChangeShapes Go.WideShapes Go.ChangeAt Go.RowKit


set_option maxHeartbeats 2000000 in
theorem drawAut_any (a : Option Addr) (len cap : Nat) (zs : List Int) (w : World) (hR : IsRow .u8 w a len cap zs) (hlen : len ≤ 9223372036854775807) :
    Calls Try.prog 39 #[.slice a len cap] w (FrmO2 w) := by
  have R0 := Arr.new w 0 0 0 0 26
  have U0 := gr_alloc (Below.refl w.heap.size w) (.cells #[.int .i64 0, .int .i64 0, .int .i64 0, .int .i64 0] 26)
  have hR0 := row8_nx hR (gr_alloc (Below.refl w.heap.size w) (.cells #[.int .i64 0, .int .i64 0, .int .i64 0, .int .i64 0] 26))
  clear hR
  go_enter Try.func39, Try.ntmps39
  go_wp2_with fail
  refine (from_any a len cap zs _ hR0 hlen).mono ?_
  rintro e w1 ⟨rfl, S1', hb1⟩
  have R1 := R0.next hb1
  have U1 := gr_trans U0 hb1
  simp only [World.size_alloc] at S1' ⊢
  have S1 := hid S1'
  clear S1' hR0 R0 U0 hb1
  go_wp2_with fail
  refine (l02Draw_any _ a len cap zs _ S1.out).mono ?_
  rintro e w2 ⟨p, q, r, s, rfl, S2', G2⟩
  have R2 := R1.gk G2 (by omega)
  have U2 := Gk.out U1 G2 (by omega)
  clear S1 S2' R1 U1 G2
  obtain ⟨_, r0, r1, r2, r3, f0, f1, f2, f3⟩ := id R2
  go_wp2_with fail
  refine bodyPost_ret (res_A1 (e := 2) rfl Try.underlying26 (by kernel_rfl) rfl (by (repeat (first | with_reducible assumption | with_reducible exact Arr.box (by assumption) | with_reducible apply Arr.drew | with_reducible apply Arr.drewN | with_reducible refine Arr.store4 ?_ | with_reducible apply Arr.alloc | with_reducible refine Box.drew ?_ | with_reducible refine Box.drewN ?_ _ | with_reducible refine Box.alloc ?_ _ | refine Arr.oth ?_ (by first | (simp; done) | omega | (simp; omega)) _ | refine Box.oth ?_ (by first | (simp; done) | omega | (simp; omega)) _)))) rfl ?_
  exact ⟨_, _, _, _, rfl, by (repeat' (first | with_reducible exact Below.refl _ _ | with_reducible assumption | with_reducible refine gr_alloc ?_ _ | with_reducible refine gr_drew ?_ | with_reducible refine gr_drewN ?_ _ | with_reducible refine gr_trans ?_ (by assumption) | with_reducible refine gr_set ?_ ?_ _ | (simp; done) | omega | (simp; omega)))⟩

set_option maxHeartbeats 2000000 in
theorem drawNf_any (a : Option Addr) (len cap : Nat) (zs : List Int) (w : World) (hR : IsRow .u8 w a len cap zs) (hlen : len ≤ 9223372036854775807) :
    Calls Try.prog 20 #[.slice a len cap] w (FrmO2 w) := by
  have R0 := Arr.new w 0 0 0 0 26
  have U0 := gr_alloc (Below.refl w.heap.size w) (.cells #[.int .i64 0, .int .i64 0, .int .i64 0, .int .i64 0] 26)
  have hR0 := row8_nx hR (gr_alloc (Below.refl w.heap.size w) (.cells #[.int .i64 0, .int .i64 0, .int .i64 0, .int .i64 0] 26))
  clear hR
  go_enter Try.func20, Try.ntmps20
  go_wp2_with fail
  refine (from_any a len cap zs _ hR0 hlen).mono ?_
  rintro e w1 ⟨rfl, S1', hb1⟩
  have R1 := R0.next hb1
  have U1 := gr_trans U0 hb1
  simp only [World.size_alloc] at S1' ⊢
  have S1 := hid S1'
  clear S1' hR0 R0 U0 hb1
  go_wp2_with fail
  refine (l02Draw_any _ a len cap zs _ S1.out).mono ?_
  rintro e w2 ⟨p, q, r, s, rfl, S2', G2⟩
  have R2 := R1.gk G2 (by omega)
  have U2 := Gk.out U1 G2 (by omega)
  clear S1 S2' R1 U1 G2
  obtain ⟨_, r0, r1, r2, r3, f0, f1, f2, f3⟩ := id R2
  go_wp2_with fail
  refine bodyPost_ret (res_A1 (e := 2) rfl Try.underlying26 (by kernel_rfl) rfl (by (repeat (first | with_reducible assumption | with_reducible exact Arr.box (by assumption) | with_reducible apply Arr.drew | with_reducible apply Arr.drewN | with_reducible refine Arr.store4 ?_ | with_reducible apply Arr.alloc | with_reducible refine Box.drew ?_ | with_reducible refine Box.drewN ?_ _ | with_reducible refine Box.alloc ?_ _ | refine Arr.oth ?_ (by first | (simp; done) | omega | (simp; omega)) _ | refine Box.oth ?_ (by first | (simp; done) | omega | (simp; omega)) _)))) rfl ?_
  exact ⟨_, _, _, _, rfl, by (repeat' (first | with_reducible exact Below.refl _ _ | with_reducible assumption | with_reducible refine gr_alloc ?_ _ | with_reducible refine gr_drew ?_ | with_reducible refine gr_drewN ?_ _ | with_reducible refine gr_trans ?_ (by assumption) | with_reducible refine gr_set ?_ ?_ _ | (simp; done) | omega | (simp; omega)))⟩

set_option maxRecDepth 100000 in
set_option maxHeartbeats 4000000 in
theorem l02Two_any (a : Option Addr) (len cap : Nat) (zs : List Int) (w : World) (hR : IsRow .u8 w a len cap zs) (hlen : len ≤ 9223372036854775807) :
    Calls Try.prog 81 #[.slice a len cap] w (TwoO2 w) := by
  have R0 := (Arr.new w 0 0 0 0 26).alloc (.cells #[.int .i64 0, .int .i64 0, .int .i64 0, .int .i64 0] 26)
  have Q0 := Arr.new (w.alloc (.cells #[.int .i64 0, .int .i64 0, .int .i64 0, .int .i64 0] 26)) 0 0 0 0 26
  simp only [World.size_alloc] at Q0
  have U0 := gr_alloc (gr_alloc (Below.refl w.heap.size w) (.cells #[.int .i64 0, .int .i64 0, .int .i64 0, .int .i64 0] 26)) (.cells #[.int .i64 0, .int .i64 0, .int .i64 0, .int .i64 0] 26)
  have hR0 := row8_nx hR (gr_alloc (gr_alloc (Below.refl w.heap.size w) (.cells #[.int .i64 0, .int .i64 0, .int .i64 0, .int .i64 0] 26)) (.cells #[.int .i64 0, .int .i64 0, .int .i64 0, .int .i64 0] 26))
  clear hR
  go_enter Try.func81, Try.ntmps81
  go_wp2_with fail
  refine (from_any a len cap zs _ hR0 hlen).mono ?_
  rintro e w1 ⟨rfl, S1', hb1⟩
  have R1 := R0.next hb1
  have Q1 := Q0.next hb1
  have U1 := gr_trans U0 hb1
  simp only [World.size_alloc] at S1' ⊢
  have S1 := hid S1'
  clear S1' hR0 R0 Q0 U0 hb1
  generalize hk : w.heap.size + 1 + 1 = k at S1 ⊢
  go_wp2_with fail
  refine (l02Draw_any _ a len cap zs _ S1.out).mono ?_
  rintro e w2 ⟨z0, z1, z2, z3, rfl, S2', G2⟩
  have R2 := R1.gk G2 (by omega)
  have Q2 := Q1.gk G2 (by omega)
  have U2 := Gk.out U1 G2 (by omega)
  have hk2 := S2'.lt
  have X7 := Arr.new w2 z0 z1 z2 z3 26
  have S7 := hid (S2'.alloc (.cells #[.int .i64 z0, .int .i64 z1, .int .i64 z2, .int .i64 z3] 26))
  have R7 := R2.alloc (.cells #[.int .i64 z0, .int .i64 z1, .int .i64 z2, .int .i64 z3] 26)
  have Q7 := Q2.alloc (.cells #[.int .i64 z0, .int .i64 z1, .int .i64 z2, .int .i64 z3] 26)
  have U7 := gr_alloc U2 (.cells #[.int .i64 z0, .int .i64 z1, .int .i64 z2, .int .i64 z3] 26)
  clear S1 S2' R1 Q1 U1 G2 R2 Q2 U2
  obtain ⟨j, hj⟩ : ∃ j, j = w2.heap.size := ⟨_, rfl⟩
  rw [← hj] at X7 hk2
  go_upto_region 3 with fail
  rw [← hj]
  generalize w2.alloc (.cells #[.int .i64 z0, .int .i64 z1, .int .i64 z2, .int .i64 z3] 26) = W7 at X7 S7 R7 Q7 U7 ⊢
  clear hj
  have hX7 := X7.lt; have hS7 := S7.out.lt; have hR7 := R7.lt; have hQ7 := Q7.lt
  obtain ⟨_, x0, x1, x2, x3, _⟩ := id X7
  go_cut [6] (fun s6 wx => ∃ jn : Nat, s6 = .pointer (some ⟨jn, 0, none⟩) ∧ j < jn ∧ Box wx jn ∧ Arr wx j z0 z1 z2 z3 ∧ Arr wx w.heap.size 0 0 0 0 ∧ Arr wx (w.heap.size + 1) 0 0 0 0 ∧ Hid (Src wx k a len cap zs) ∧ Below w.heap.size w wx)
  case first =>
    go_region_held3 (fun W => W.cell? ⟨j, 0, none⟩ = some (.int .i64 z0) ∧ W.cell? ⟨j, 1, none⟩ = some (.int .i64 z1) ∧ W.cell? ⟨j, 2, none⟩ = some (.int .i64 z2) ∧ W.cell? ⟨j, 3, none⟩ = some (.int .i64 z3)) (first | with_reducible assumption | with_reducible exact cells4 (by assumption) | exact cells4 (by (repeat (first | with_reducible assumption | with_reducible exact Arr.box (by assumption) | with_reducible exact Box.new _ _ _ _ _ _ | with_reducible exact Arr.new _ _ _ _ _ _ | with_reducible refine Arr.drew ?_ | with_reducible refine Arr.drewN ?_ _ | with_reducible refine Arr.store4 ?_ | with_reducible refine Arr.alloc ?_ _ | with_reducible refine Box.drew ?_ | with_reducible refine Box.drewN ?_ _ | with_reducible refine Box.alloc ?_ _ | with_reducible refine Arr.next ?_ (by assumption) | with_reducible refine Box.next ?_ (by assumption) | refine Arr.oth ?_ (by first | (simp; done) | omega | (simp; omega)) _ | refine Box.oth ?_ (by first | (simp; done) | omega | (simp; omega)) _ | with_reducible exact Arr3.box (by assumption) | with_reducible exact Box3.new _ _ _ _ _ | with_reducible exact Arr3.new _ _ _ _ _ | with_reducible refine Arr3.drew ?_ | with_reducible refine Arr3.drewN ?_ _ | with_reducible refine Arr3.store3 ?_ | with_reducible refine Arr3.alloc ?_ _ | with_reducible refine Box3.drew ?_ | with_reducible refine Box3.drewN ?_ _ | with_reducible refine Box3.alloc ?_ _ | with_reducible refine Arr3.next ?_ (by assumption) | with_reducible refine Box3.next ?_ (by assumption) | refine Arr3.oth ?_ (by first | (simp; done) | omega | (simp; omega)) _ | refine Box3.oth ?_ (by first | (simp; done) | omega | (simp; omega)) _)))) (first | (go_at_call 111; refine (unit_any k a len cap zs _ (Src.below S7.out (by (repeat' (first | with_reducible exact Below.refl _ _ | with_reducible assumption | with_reducible refine gr_alloc ?_ _ | with_reducible refine gr_drew ?_ | with_reducible refine gr_drewN ?_ _ | with_reducible refine gr_trans ?_ (by assumption) | with_reducible refine gr_set ?_ ?_ _ | (simp; done) | omega | (simp; omega)))))).mono ?_; rintro e w8 ⟨p', q', r', s', rfl, S8', G8⟩; have X8 := Arr.gk (Arr.next X7 (by (repeat' (first | with_reducible exact Below.refl _ _ | with_reducible assumption | with_reducible refine gr_alloc ?_ _ | with_reducible refine gr_drew ?_ | with_reducible refine gr_drewN ?_ _ | with_reducible refine gr_trans ?_ (by assumption) | with_reducible refine gr_set ?_ ?_ _ | (simp; done) | omega | (simp; omega))))) G8 (by omega); have R8 := Arr.gk (Arr.next R7 (by (repeat' (first | with_reducible exact Below.refl _ _ | with_reducible assumption | with_reducible refine gr_alloc ?_ _ | with_reducible refine gr_drew ?_ | with_reducible refine gr_drewN ?_ _ | with_reducible refine gr_trans ?_ (by assumption) | with_reducible refine gr_set ?_ ?_ _ | (simp; done) | omega | (simp; omega))))) G8 (by omega); have Q8 := Arr.gk (Arr.next Q7 (by (repeat' (first | with_reducible exact Below.refl _ _ | with_reducible assumption | with_reducible refine gr_alloc ?_ _ | with_reducible refine gr_drew ?_ | with_reducible refine gr_drewN ?_ _ | with_reducible refine gr_trans ?_ (by assumption) | with_reducible refine gr_set ?_ ?_ _ | (simp; done) | omega | (simp; omega))))) G8 (by omega); have U8 := Gk.out (gr_trans U7 (by (repeat' (first | with_reducible exact Below.refl _ _ | with_reducible assumption | with_reducible refine gr_alloc ?_ _ | with_reducible refine gr_drew ?_ | with_reducible refine gr_drewN ?_ _ | with_reducible refine gr_trans ?_ (by assumption) | with_reducible refine gr_set ?_ ?_ _ | (simp; done) | omega | (simp; omega))) : Below W7.heap.size W7 _)) G8 (by omega); have S8 := hid S8'; have hS8 := S8'.lt; have hX8 := X8.lt; have hz8 := G8.size; (try simp at hz8); (try (refine Arr.elimz (w := w8) (k := W7.heap.size) ?_ ?_; (focus ((repeat (first | with_reducible assumption | with_reducible exact Arr.new _ _ _ _ _ _ | with_reducible refine Arr.drew ?_ | with_reducible refine Arr.drewN ?_ _ | with_reducible refine Arr.alloc ?_ _ | (with_reducible refine Arr.gk ?_ G8 ?_; rotate_left 1; (focus omega)))); done)); intro zk0; obtain ⟨_, za0, zb0, zc0, zd0, ze0, zf0, zg0, zh0⟩ := id zk0))) | (go_at_call 110; refine (sChange0_any z0 z1 z2 z3 p' q' r' s' _).mono ?_; rintro e w9 ⟨rfl, hb9⟩; have hbx : Below w8.heap.size w8 w9 := (by (repeat' (first | with_reducible exact Below.refl _ _ | with_reducible assumption | with_reducible refine gr_alloc ?_ _ | with_reducible refine gr_drew ?_ | with_reducible refine gr_drewN ?_ _ | with_reducible refine gr_trans ?_ (by assumption) | with_reducible refine gr_set ?_ ?_ _ | (simp; done) | omega | (simp; omega)))); have X9 := X8.next hbx; have R9 := R8.next hbx; have S9 := hid (S8.out.below hbx); have Q9 := Q8.next hbx; have U9 := gr_trans U8 hbx; have hX9 := X9.lt; have hS9 := S9.out.lt; have hz9 := hb9.size; (try simp at hz9); (try (refine Arr.elimz (w := w9) (k := W7.heap.size) ?_ ?_; (focus ((repeat (first | with_reducible assumption | with_reducible exact Arr.new _ _ _ _ _ _ | with_reducible refine Arr.drew ?_ | with_reducible refine Arr.drewN ?_ _ | with_reducible refine Arr.alloc ?_ _ | with_reducible refine Arr.next ?_ hb9 | (with_reducible refine Arr.gk ?_ G8 ?_; rotate_left 1; (focus omega)))); done)); intro zk1; obtain ⟨_, za1, zb1, zc1, zd1, ze1, zf1, zg1, zh1⟩ := id zk1)); (try (refine Arr.elimz (w := w9) (k := w8.heap.size) ?_ ?_; (focus ((repeat (first | with_reducible assumption | with_reducible exact Arr.new _ _ _ _ _ _ | with_reducible refine Arr.drew ?_ | with_reducible refine Arr.drewN ?_ _ | with_reducible refine Arr.alloc ?_ _ | with_reducible refine Arr.next ?_ hb9 | (with_reducible refine Arr.gk ?_ G8 ?_; rotate_left 1; (focus omega)))); done)); intro zk2; obtain ⟨_, za2, zb2, zc2, zd2, ze2, zf2, zg2, zh2⟩ := id zk2))))
    all_goals (go_wp2_with fail; go_meet; refine ⟨_, rfl, ?_, ?_, ?_, ?_, ?_, ?_, ?_⟩; (focus omega); (focus (first | with_reducible exact Box.new _ _ _ _ _ _ | exact Arr.box (Arr.store4 (Arr.box (by assumption))))); (focus (repeat (first | with_reducible assumption | with_reducible refine Arr.alloc ?_ _ | (with_reducible refine Arr.oth4M ?_ ?_ _ _ _ _; rotate_left 1; (focus omega))))); (focus (repeat (first | with_reducible assumption | with_reducible refine Arr.alloc ?_ _ | (with_reducible refine Arr.oth4M ?_ ?_ _ _ _ _; rotate_left 1; (focus omega))))); (focus (repeat (first | with_reducible assumption | with_reducible refine Arr.alloc ?_ _ | (with_reducible refine Arr.oth4M ?_ ?_ _ _ _ _; rotate_left 1; (focus omega))))); (focus (first | exact hid (S9.out.alloc _) | exact hid (S9.out.up4 (by omega) _ _ _ _))); (focus (repeat' (first | with_reducible exact Below.refl _ _ | with_reducible assumption | with_reducible refine gr_alloc ?_ _ | with_reducible refine gr_drew ?_ | with_reducible refine gr_drewN ?_ _ | with_reducible refine gr_trans ?_ (by assumption) | with_reducible refine gr_set ?_ ?_ _ | (simp; done) | omega | (simp; omega)))))
  case rest =>
    obtain ⟨jn, rfl, hjn, ⟨m0, m1, m2, m3, Y10⟩, X10, R10, Q10, S10, U10⟩ := hcut
    clear X7 R7 Q7 S7 U7 x0 x1 x2 x3
    obtain ⟨_, y0, y1, y2, y3, _⟩ := id Y10
    obtain ⟨_, x0, x1, x2, x3, _⟩ := id X10
    have hjl := X10.lt; have hjn2 := Y10.lt; have hkl := S10.out.lt
    go_upto_region 4 with fail
    go_cut [25] (fun s25 wx => ∃ b, s25 = .bool b ∧ Arr wx jn m0 m1 m2 m3 ∧ Arr wx j z0 z1 z2 z3 ∧ Arr wx w.heap.size 0 0 0 0 ∧ Arr wx (w.heap.size + 1) 0 0 0 0 ∧ Hid (Src wx k a len cap zs) ∧ Below w.heap.size w wx)
    case first =>
      go_wp2_with fail
      refine (l01Fits_any m0 m1 m2 m3 _).mono ?_
      rintro e w11 ⟨rfl, hb11⟩
      have Y11 := Y10.next hb11; have X11 := X10.next hb11; have R11 := R10.next hb11; have Q11 := Q10.next hb11
      have S11 := hid (S10.out.below hb11)
      have U11 := gr_trans U10 hb11
      clear Y10 X10 R10 Q10 S10 U10 hb11 y0 y1 y2 y3 x0 x1 x2 x3
      obtain ⟨_, x0, x1, x2, x3, _⟩ := id X11
      cases isF m0 m1 m2 m3 with
      | false =>
        go_wp2_with fail
        go_meet
        exact ⟨_, rfl, Y11, X11, R11, Q11, S11, U11⟩
      | true =>
        go_wp2_with fail
        refine (l01Is_any z0 z1 z2 z3 _).mono ?_
        rintro e w12 ⟨rfl, hb12⟩
        have Y12 := Y11.next hb12; have X12 := X11.next hb12; have R12 := R11.next hb12; have Q12 := Q11.next hb12
        have S12 := hid (S11.out.below hb12)
        have U12 := gr_trans U11 hb12
        clear Y11 X11 R11 Q11 S11 U11 hb12 x0 x1 x2 x3
        cases isF z0 z1 z2 z3 with
        | false =>
          go_wp2_with fail
          go_meet
          exact ⟨_, rfl, Y12, X12, R12, Q12, S12, U12⟩
        | true =>
          go_wp2_with fail
          refine (next_any k a len cap zs 2 _ S12.out).mono ?_
          rintro e w13 ⟨x, rfl, _, _, S13', G13⟩
          have Y13 := Y12.gk G13 (by omega); have X13 := X12.gk G13 (by omega); have R13 := R12.gk G13 (by omega); have Q13 := Q12.gk G13 (by omega)
          have S13 := hid S13'
          have U13 := Gk.out U12 G13 (by omega)
          clear Y12 X12 R12 Q12 S12 U12 S13' G13
          go_wp2_with fail
          go_meet
          exact ⟨_, rfl, Y13, X13, R13, Q13, S13, U13⟩
    case rest =>
      obtain ⟨b, rfl, Y, X, R, Q, S, U⟩ := hcut
      clear Y10 X10 R10 Q10 S10 U10 y0 y1 y2 y3 x0 x1 x2 x3
      obtain ⟨_, x0, x1, x2, x3, _⟩ := id X
      obtain ⟨_, y0, y1, y2, y3, _⟩ := id Y
      obtain ⟨_, r0, r1, r2, r3, f0, f1, f2, f3⟩ := id R
      obtain ⟨_, q0, q1, q2, q3, g0, g1, g2, g3⟩ := id Q
      cases b with
      | true =>
        have X8 := X.drew; have Y8 := Y.drew; have R8 := R.drew; have Q8 := Q.drew; have U8 := gr_drew U
        go_upto_region 5 with fail
        go_region
        go_wp2_with fail
        have R9 : Arr _ w.heap.size z0 z1 z2 z3 := ((Arr.store4 R.box).oth4M (i := w.heap.size + 1) (by omega) (.int .i64 m0) (.int .i64 m1) (.int .i64 m2) (.int .i64 m3)).drew
        have Q9 : Arr _ (w.heap.size + 1) m0 m1 m2 m3 := (Arr.store4 (Q.oth4M (i := w.heap.size) (by omega) (.int .i64 z0) (.int .i64 z1) (.int .i64 z2) (.int .i64 z3)).box).drew
        refine bodyPost_ret (res_AA2 (e := 2) (e' := 2) rfl Try.underlying26 (by kernel_rfl) Try.underlying26 (by kernel_rfl) rfl rfl R9 Q9) rfl ?_
        exact ⟨_, _, _, _, _, _, _, _, rfl, by (repeat' (first | with_reducible exact Below.refl _ _ | with_reducible assumption | with_reducible refine gr_alloc ?_ _ | with_reducible refine gr_drew ?_ | with_reducible refine gr_drewN ?_ _ | with_reducible refine gr_trans ?_ (by assumption) | with_reducible refine gr_set ?_ ?_ _ | (simp; done) | omega | (simp; omega)))⟩
      | false =>
        clear Y y0 y1 y2 y3
        have X8 := X.drew; have R8 := R.drew; have Q8 := Q.drew; have U8 := gr_drew U
        have S8 := hid (S.out.below (gr_drew (Below.refl _ _)))
        go_upto_region 6 with fail
        go_region_held3 (fun W => W.cell? ⟨j, 0, none⟩ = some (.int .i64 z0) ∧ W.cell? ⟨j, 1, none⟩ = some (.int .i64 z1) ∧ W.cell? ⟨j, 2, none⟩ = some (.int .i64 z2) ∧ W.cell? ⟨j, 3, none⟩ = some (.int .i64 z3)) ((refine cells4 ?_; (repeat (first | with_reducible assumption | with_reducible refine Arr.drew ?_ | (with_reducible refine Arr.oth4M ?_ ?_ _ _ _ _; rotate_left 1; (focus omega)))))) ((go_at_call 60; refine (l02Draw_any k a len cap zs _ S8.out).mono ?_; rintro e w9 ⟨p', q', r', s', rfl, S9', G9⟩; have X9 := X8.gk G9 (by omega); have R9 := R8.gk G9 (by omega); have Q9 := Q8.gk G9 (by omega); have U9 := Gk.out U8 G9 (by omega); obtain ⟨_, r90, r91, r92, r93, f90, f91, f92, f93⟩ := id R9; obtain ⟨_, q90, q91, q92, q93, g90, g91, g92, g93⟩ := id Q9))
        all_goals
          go_wp2_with fail
          have R10 : Arr _ w.heap.size z0 z1 z2 z3 := ((Arr.store4 R9.box).oth4M (i := w.heap.size + 1) (by omega) (.int .i64 p') (.int .i64 q') (.int .i64 r') (.int .i64 s'))
          have Q10 : Arr _ (w.heap.size + 1) p' q' r' s' := (Arr.store4 (Q9.oth4M (i := w.heap.size) (by omega) (.int .i64 z0) (.int .i64 z1) (.int .i64 z2) (.int .i64 z3)).box)
          refine bodyPost_ret (res_AA2 (e := 2) (e' := 2) rfl Try.underlying26 (by kernel_rfl) Try.underlying26 (by kernel_rfl) rfl rfl R10 Q10) rfl ?_
          exact ⟨_, _, _, _, _, _, _, _, rfl, by (repeat' (first | with_reducible exact Below.refl _ _ | with_reducible assumption | with_reducible refine gr_alloc ?_ _ | with_reducible refine gr_drew ?_ | with_reducible refine gr_drewN ?_ _ | with_reducible refine gr_trans ?_ (by assumption) | with_reducible refine gr_set ?_ ?_ _ | (simp; done) | omega | (simp; omega)))⟩

set_option maxHeartbeats 2000000 in
theorem drawMB_any (a : Option Addr) (len cap : Nat) (zs : List Int) (w : World) (hR : IsRow .u8 w a len cap zs) (hlen : len ≤ 9223372036854775807) :
    Calls Try.prog 34 #[.slice a len cap] w (TwoO2 w) := by
  have R0 := (Arr.new w 0 0 0 0 26).alloc (.cells #[.int .i64 0, .int .i64 0, .int .i64 0, .int .i64 0] 26)
  have Q0 := Arr.new (w.alloc (.cells #[.int .i64 0, .int .i64 0, .int .i64 0, .int .i64 0] 26)) 0 0 0 0 26
  simp only [World.size_alloc] at Q0
  have U0 := gr_alloc (gr_alloc (Below.refl w.heap.size w) (.cells #[.int .i64 0, .int .i64 0, .int .i64 0, .int .i64 0] 26)) (.cells #[.int .i64 0, .int .i64 0, .int .i64 0, .int .i64 0] 26)
  have hR0 := row8_nx hR (gr_alloc (gr_alloc (Below.refl w.heap.size w) (.cells #[.int .i64 0, .int .i64 0, .int .i64 0, .int .i64 0] 26)) (.cells #[.int .i64 0, .int .i64 0, .int .i64 0, .int .i64 0] 26))
  clear hR
  go_enter Try.func34, Try.ntmps34
  go_wp2_with fail
  refine (l02Two_any a len cap zs _ hR0 hlen).mono ?_
  rintro e w1 ⟨p, q, r, s, p', q', r', s', rfl, hb1⟩
  have R2 := R0.next hb1
  have Q2 := Q0.next hb1
  have U2 := gr_trans U0 hb1
  clear R0 Q0 U0 hR0 hb1
  obtain ⟨_, r0, r1, r2', r3, f0, f1, f2, f3⟩ := id R2
  obtain ⟨_, q0, q1, q2', q3, g0, g1, g2, g3⟩ := id Q2
  go_wp2_with fail
  have R9 : Arr _ w.heap.size p q r s := ((Arr.store4 R2.box).oth4M (i := w.heap.size + 1) (by omega) (.int .i64 p') (.int .i64 q') (.int .i64 r') (.int .i64 s'))
  have Q9 : Arr _ (w.heap.size + 1) p' q' r' s' := (Arr.store4 (Q2.oth4M (i := w.heap.size) (by omega) (.int .i64 p) (.int .i64 q) (.int .i64 r) (.int .i64 s)).box)
  refine bodyPost_ret (res_AA2 (e := 2) (e' := 2) rfl Try.underlying26 (by kernel_rfl) Try.underlying26 (by kernel_rfl) rfl rfl R9 Q9) rfl ?_
  exact ⟨_, _, _, _, _, _, _, _, rfl, by (repeat' (first | with_reducible exact Below.refl _ _ | with_reducible assumption | with_reducible refine gr_alloc ?_ _ | with_reducible refine gr_drew ?_ | with_reducible refine gr_drewN ?_ _ | with_reducible refine gr_trans ?_ (by assumption) | with_reducible refine gr_set ?_ ?_ _ | (simp; done) | omega | (simp; omega)))⟩

set_option maxHeartbeats 2000000 in
theorem drawAE_any (a : Option Addr) (len cap : Nat) (zs : List Int) (w : World) (hR : IsRow .u8 w a len cap zs) (hlen : len ≤ 9223372036854775807) :
    Calls Try.prog 36 #[.slice a len cap] w (TwoO2 w) := by
  have R0 := (Arr.new w 0 0 0 0 26).alloc (.cells #[.int .i64 0, .int .i64 0, .int .i64 0, .int .i64 0] 26)
  have Q0 := Arr.new (w.alloc (.cells #[.int .i64 0, .int .i64 0, .int .i64 0, .int .i64 0] 26)) 0 0 0 0 26
  simp only [World.size_alloc] at Q0
  have U0 := gr_alloc (gr_alloc (Below.refl w.heap.size w) (.cells #[.int .i64 0, .int .i64 0, .int .i64 0, .int .i64 0] 26)) (.cells #[.int .i64 0, .int .i64 0, .int .i64 0, .int .i64 0] 26)
  have hR0 := row8_nx hR (gr_alloc (gr_alloc (Below.refl w.heap.size w) (.cells #[.int .i64 0, .int .i64 0, .int .i64 0, .int .i64 0] 26)) (.cells #[.int .i64 0, .int .i64 0, .int .i64 0, .int .i64 0] 26))
  clear hR
  go_enter Try.func36, Try.ntmps36
  go_wp2_with fail
  refine (l02Two_any a len cap zs _ hR0 hlen).mono ?_
  rintro e w1 ⟨p, q, r, s, p', q', r', s', rfl, hb1⟩
  have R2 := R0.next hb1
  have Q2 := Q0.next hb1
  have U2 := gr_trans U0 hb1
  clear R0 Q0 U0 hR0 hb1
  obtain ⟨_, r0, r1, r2', r3, f0, f1, f2, f3⟩ := id R2
  obtain ⟨_, q0, q1, q2', q3, g0, g1, g2, g3⟩ := id Q2
  go_wp2_with fail
  have R9 : Arr _ w.heap.size p q r s := ((Arr.store4 R2.box).oth4M (i := w.heap.size + 1) (by omega) (.int .i64 p') (.int .i64 q') (.int .i64 r') (.int .i64 s'))
  have Q9 : Arr _ (w.heap.size + 1) p' q' r' s' := (Arr.store4 (Q2.oth4M (i := w.heap.size) (by omega) (.int .i64 p) (.int .i64 q) (.int .i64 r) (.int .i64 s)).box)
  refine bodyPost_ret (res_AA2 (e := 2) (e' := 2) rfl Try.underlying26 (by kernel_rfl) Try.underlying26 (by kernel_rfl) rfl rfl R9 Q9) rfl ?_
  exact ⟨_, _, _, _, _, _, _, _, rfl, by (repeat' (first | with_reducible exact Below.refl _ _ | with_reducible assumption | with_reducible refine gr_alloc ?_ _ | with_reducible refine gr_drew ?_ | with_reducible refine gr_drewN ?_ _ | with_reducible refine gr_trans ?_ (by assumption) | with_reducible refine gr_set ?_ ?_ _ | (simp; done) | omega | (simp; omega)))⟩

end Go.Proofs.Ytikmjefbjejbkaa

/- FnEquivalence, cut: the facts that its pieces carry; the code behind an 'if'. -/
namespace Go.Proofs.Ytikmjefbjejbkaa
open Go.ChangeShapes Go.WideShapes Go.ChangeAt Go.RowKit

def hasCondE (t : Nat) : Code → Bool
  | .cond (.tmp k) _ _ => k == t
  | .seq a b => hasCondE t a || hasCondE t b
  | .block _ c => hasCondE t c
  | _ => false
def afterE (t : Nat) : Code → Code
  | .seq a b => if hasCondE t a then b else afterE t b
  | .scope c => afterE t c
  | _ => .skip
noncomputable def eseg (t : Nat) : Code := afterE t (Try.f6.body.getD .skip)
/-- Two boxes and a list. -/
structure EvB (w : World) (jf jg : Nat) (a b c d p q r s : Int) (v : Value) (n : Nat) (G : Nat → Int) : Prop where
  F : Arr w jf a b c d
  G' : Arr w jg p q r s
  V : RdX w v n G
theorem RdX.next9 {w w' : World} {v : Value} {n : Nat} {g : Nat → Int} (h : RdX w v n g) (hb : Below w.heap.size w w') : RdX w' v n g := by
  rcases h with h | ⟨b, cap, h1, h2, h3, h4, h5⟩
  · exact .inl h
  · exact .inr ⟨b, cap, h1, h2, h3, Nat.lt_of_lt_of_le h4 hb.size, fun i hi => (hb.cell (p := ⟨b, i, none⟩) h4).trans (h5 i hi)⟩
theorem EvB.next {w w' : World} {jf jg : Nat} {a b c d p q r s : Int} {v : Value} {n : Nat} {G : Nat → Int} (h : EvB w jf jg a b c d p q r s v n G) (hb : Below w.heap.size w w') : EvB w' jf jg a b c d p q r s v n G := ⟨h.F.next hb, h.G'.next hb, h.V.next9 hb⟩
def ChC (a b c d p q r s x y z t : Int) : Prop := ∀ W : World, Calls Try.prog 32 #[.agg #[.int .i64 a, .int .i64 b, .int .i64 c, .int .i64 d], .agg #[.int .i64 x, .int .i64 y, .int .i64 z, .int .i64 t]] W fun e w' => e = .returned (.tuple #[.agg #[.int .i64 p, .int .i64 q, .int .i64 r, .int .i64 s], .int .i64 0]) ∧ Below W.heap.size W w'
def AeC (a b c d p q r s : Int) (e0 : Bool) : Prop := ∀ W : World, Calls Try.prog 37 #[.agg #[.int .i64 a, .int .i64 b, .int .i64 c, .int .i64 d], .agg #[.int .i64 p, .int .i64 q, .int .i64 r, .int .i64 s]] W fun e w' => e = .returned (.tuple #[.bool e0, .int .i64 0]) ∧ Below W.heap.size W w'
def EvQ3 (a b c d p q r s : Int) (n : Nat) (G : Nat → Int) (k : Int) : Prop := (k ≠ 0 → n = 0) ∧ (k = 0 → AeC a b c d p q r s (decide ((0 : Int) < (n : Int))) ∧ ∀ i, i < n → ChC a b c d p q r s (G (i * 4)) (G (i * 4 + 1)) (G (i * 4 + 2)) (G (i * 4 + 3)))
def EvQ2 (a b c d : Int) (n : Nat) (G : Nat → Int) (k : Int) : Prop := k = 0 → (n = 1 ∨ n = 2 ∨ n = 3 ∨ n = 6) ∧ ∀ i, i < n → ChC a b c d a b c d (G (i * 4)) (G (i * 4 + 1)) (G (i * 4 + 2)) (G (i * 4 + 3))
def EvQ1 (a b c d p q r s : Int) (sb : Bool) (k : Int) : Prop := k = 0 → AeC p q r s a b c d sb
theorem chC_of {a b c d p q r s : Int} {m : Red.F4} (h : ChTo (a, b, c, d) (p, q, r, s) m) : ChC a b c d p q r s m.1 m.2.1 m.2.2.1 m.2.2.2 := fun W => by
  have k := iChangeForm_any a b c d m.1 m.2.1 m.2.2.1 m.2.2.2 W
  obtain ⟨h0, h1, h2, h3, h4⟩ := h
  dsimp only at h0 h1 h2 h3 h4
  rw [h0, h1, h2, h3, h4] at k
  simp only [if0, if_true] at k
  exact k
theorem evQ3 (a b c d p q r s : Int) : EvQ3 a b c d p q r s (if mbc a b c d p q r s = 0 then (mbt (a, b, c, d) (p, q, r, s)).length else 0) (fun i => ((mbt (a, b, c, d) (p, q, r, s)).flatMap gm4).getD i 0) (mbc a b c d p q r s) := by
  refine ⟨fun h => if_neg h, fun h => ⟨fun W => ?_, fun i hi => ?_⟩⟩
  · have k := iAreEq_any a b c d p q r s W
    obtain ⟨h1, h2⟩ := aeq_len h
    rw [if_pos h, ← h2]
    rw [h1] at k
    exact k
  · rw [if_pos h] at hi
    obtain ⟨m, _, hm, e0, e1, e2, e3⟩ := row_at hi
    dsimp only
    rw [e0, e1, e2, e3]
    exact chC_of (mb_at h hm)
theorem evQ2 (a b c d : Int) : EvQ2 a b c d (if mbc a b c d a b c d = 0 then (mbt (a, b, c, d) (a, b, c, d)).length else 0) (fun i => ((mbt (a, b, c, d) (a, b, c, d)).flatMap gm4).getD i 0) (mbc a b c d a b c d) := fun h => by
  refine ⟨by rw [if_pos h]; exact aut_len h, fun i hi => ?_⟩
  rw [if_pos h] at hi
  obtain ⟨m, _, hm, e0, e1, e2, e3⟩ := row_at hi
  dsimp only
  rw [e0, e1, e2, e3]
  exact chC_of (mb_at h hm)
theorem evQ1 (a b c d p q r s : Int) : EvQ1 a b c d p q r s (aeq a b c d p q r s) (rcd2 a b c d p q r s) := fun h W => by
  have k := iAreEq_any p q r s a b c d W
  obtain ⟨h1, h2⟩ := aeq_sym h
  rw [h1, h2] at k
  exact k
theorem rdX_at {w : World} {v : Value} {n : Nat} {G : Nat → Int} (h : RdX w v n G) (hn : 0 < n) : ∃ b cap, v = .slice (some ⟨b, 0, none⟩) n cap ∧ n ≤ cap ∧ cap ≤ maxLen ∧ ∀ i, i < n → At4 w b (i * 4) (G (i * 4)) (G (i * 4 + 1)) (G (i * 4 + 2)) (G (i * 4 + 3)) := by
  rcases h with ⟨_, h0⟩ | ⟨b, cap, h1, h2, h3, h4, h5⟩
  · omega
  · exact ⟨b, cap, h1, h2, h3, fun i hi => RdX.at4 h4 h5 hi⟩
theorem rdX_val {w : World} {v : Value} {n : Nat} {G : Nat → Int} (h : RdX w v n G) : ∃ a cap, v = .slice a n cap := by
  rcases h with ⟨rfl, rfl⟩ | ⟨b, cap, h1, _⟩
  · exact ⟨_, _, rfl⟩
  · exact ⟨_, _, h1⟩
theorem At4.oth4E {w : World} {b o i : Nat} {x y z t : Int} (h : At4 w b o x y z t) (hne : b ≠ i) (p q r s : Value) : At4 ((((w.setCell ⟨i, 0, none⟩ p).setCell ⟨i, 1, none⟩ q).setCell ⟨i, 2, none⟩ r).setCell ⟨i, 3, none⟩ s) b o x y z t := by
  have hb := set4_heap (W := w) (z := i) (k := b) hne p q r s
  exact ⟨by simp only [World.size_setCell]; exact h.lt, (cell_heap hb _).trans h.c0, (cell_heap hb _).trans h.c1, (cell_heap hb _).trans h.c2, (cell_heap hb _).trans h.c3⟩
theorem cells8E {W : World} {i b o : Nat} {a b' c d x y z t : Int} (A : Arr W i a b' c d) (B : At4 W b o x y z t) :
    W.cell? ⟨i, 0, none⟩ = some (.int .i64 a) ∧ W.cell? ⟨i, 1, none⟩ = some (.int .i64 b') ∧ W.cell? ⟨i, 2, none⟩ = some (.int .i64 c) ∧ W.cell? ⟨i, 3, none⟩ = some (.int .i64 d) ∧ W.cell? ⟨b, o, none⟩ = some (.int .i64 x) ∧ W.cell? ⟨b, o + 1, none⟩ = some (.int .i64 y) ∧ W.cell? ⟨b, o + 2, none⟩ = some (.int .i64 z) ∧ W.cell? ⟨b, o + 3, none⟩ = some (.int .i64 t) :=
  ⟨A.c0, A.c1, A.c2, A.c3, B.c0, B.c1, B.c2, B.c3⟩

end Go.Proofs.Ytikmjefbjejbkaa

/- FnEquivalence, cut: the last piece. -/
namespace Go.Proofs.Ytikmjefbjejbkaa
open Go.ChangeShapes Go.WideShapes Go.ChangeAt Go.RowKit

set_option maxRecDepth 1000000 in
set_option maxHeartbeats 8000000 in
theorem eseg147_any (w : World) (a0 : Option Addr) (len0 cap0 : Nat) (wc : World) (hcut : Below w.heap.size w wc) (jf jg : Nat) (a b c d p q r s : Int) (v5 : Value) (n : Nat) (G : Nat → Int) (k6 : Int) (hE : Hid (EvB wc jf jg a b c d p q r s v5 n G)) (hQ : Hid (EvQ3 a b c d p q r s n G k6)) (u1 u2 u7 u8 u9 u10 u11 u12 u13 u14 u15 u16 u17 u18 u19 u20 u21 u22 u23 u24 u25 u26 u27 u28 u29 u30 u31 u32 u33 u34 u35 u36 u37 u38 u39 u40 u41 u42 u43 u44 u45 u46 u47 u48 u49 u50 u51 u52 u53 u54 u55 u56 u57 u58 u59 u60 u61 u62 u63 u64 u65 u66 u67 u68 u69 u70 u71 u72 u73 u74 u75 u76 u77 u78 u79 u80 u81 u82 u83 u84 u85 u86 u87 u88 u89 u90 u91 u92 u93 u94 u95 u96 u97 u98 u99 u100 u101 u102 u103 u104 u105 u106 u107 u108 u109 u110 u111 u112 u113 u114 u115 u116 u117 u118 u119 u120 u121 u122 u123 u124 u125 u126 u127 u128 u129 u130 u131 u132 u133 u134 u135 u136 u137 u138 u139 u140 u141 u142 u143 u144 u145 u146 u147 u148 u149 u150 u151 u152 u153 u154 u155 u156 u157 u158 u159 u160 u161 u162 u163 u164 u165 u166 u167 u168 u169 u170 u171 u172 u173 u174 u175 u176 u177 u178 u179 u180 u181 u182 u183 u184 u185 u186 u187 u188 u189 u190 u191 u192 u193 u194 u195 u196 u197 u198 u199 u200 u201 u202 : Value) :
    Code.wp Try.prog (eseg 147) (bodyPost Try.prog Try.f6 fun e w' => e = .returned (.bool true) ∧ Below w.heap.size w w') ⟨#[.slice a0 len0 cap0, u1, u2, .pointer (some ⟨jf, 0, none⟩), .pointer (some ⟨jg, 0, none⟩), v5, .int .i64 k6, u7, u8, u9, u10, u11, u12, u13, u14, u15, u16, u17, u18, u19, u20, u21, u22, u23, u24, u25, u26, u27, u28, u29, u30, u31, u32, u33, u34, u35, u36, u37, u38, u39, u40, u41, u42, u43, u44, u45, u46, u47, u48, u49, u50, u51, u52, u53, u54, u55, u56, u57, u58, u59, u60, u61, u62, u63, u64, u65, u66, u67, u68, u69, u70, u71, u72, u73, u74, u75, u76, u77, u78, u79, u80, u81, u82, u83, u84, u85, u86, u87, u88, u89, u90, u91, u92, u93, u94, u95, u96, u97, u98, u99, u100, u101, u102, u103, u104, u105, u106, u107, u108, u109, u110, u111, u112, u113, u114, u115, u116, u117, u118, u119, u120, u121, u122, u123, u124, u125, u126, u127, u128, u129, u130, u131, u132, u133, u134, u135, u136, u137, u138, u139, u140, u141, u142, u143, u144, u145, u146, u147, u148, u149, u150, u151, u152, u153, u154, u155, u156, u157, u158, u159, u160, u161, u162, u163, u164, u165, u166, u167, u168, u169, u170, u171, u172, u173, u174, u175, u176, u177, u178, u179, u180, u181, u182, u183, u184, u185, u186, u187, u188, u189, u190, u191, u192, u193, u194, u195, u196, u197, u198, u199, u200, u201, u202], []⟩ wc := by
  conv => arg 2; whnf
  by_cases hk6 : k6 = 0
  · subst hk6
    obtain ⟨hAE, hCH⟩ := hQ.out.2 rfl
    have HX := hid hE.out.F; have HT := hid hE.out.G'; have HV := hid hE.out.V
    have HC := hid hCH
    obtain ⟨av, cv, rfl⟩ := rdX_val hE.out.V
    unfold AeC at hAE
    clear hCH hE hQ
    obtain ⟨_, x0, x1, x2, x3, _⟩ := id HX.out
    obtain ⟨_, t0, t1, t2, t3, _⟩ := id HT.out
    have hn0 : (0 : Int) ≤ (n : Int) := by omega
    obtain ⟨nb, hnb⟩ : ∃ nb, nb = decide ((0 : Int) < (n : Int)) := ⟨_, rfl⟩
    rw [← hnb] at hAE
    have HAE := hid hAE
    have hnb' := hnb.symm
    clear hAE hnb
    go_wp2_with fail
    refine (HAE.out _).mono ?_
    rintro e w2 ⟨rfl, hb2⟩
    have U2 := gr_trans hcut hb2
    have HX2 := hid (HX.out.next hb2); have HT2 := hid (HT.out.next hb2); have HV2 := hid (HV.out.next9 hb2)
    clear HX HT HV hb2 hcut HAE x0 x1 x2 x3 t0 t1 t2 t3
    have HX := HX2; have HT := HT2; have HV := HV2
    clear HX2 HT2 HV2
    have hnn : (!nb == nb) = false := by cases nb <;> rfl
    have hnb2 : decide (0 < n) = nb := by rw [← hnb']; congr 1; exact propext (by omega)
    clear hnb'
    go_upto_region 36 with fail
    go_wp2_with fail
    go_loopw [27] (fun s27 wr => ∃ k : Nat, s27 = .int .i64 ((k : Int)) ∧ k ≤ n ∧ Below w2.heap.size w2 wr) (fun s27 _ => n - (intOf s27).toNat)
    case atStart => exact ⟨0, rfl, Nat.zero_le _, Below.refl _ _⟩
    case round =>
      obtain ⟨k, rfl, hk, hB⟩ := hrel
      by_cases hlt : k < n
      · have e2 : decide ((k : Int) < (n : Int)) = true := by simp; omega
        have hk0 : (0 : Int) ≤ (k : Int) := by omega
        have hkn : (k : Int) < (n : Int) := by omega
        obtain ⟨bl, cpl, hvl, hc1, hc2, hat⟩ := rdX_at HV.out (by omega)
        cases hvl
        have Y0 := (hat k hlt).next hB (hat k hlt).lt
        have HCk := hid (HC.out k hlt)
        clear hat
        generalize G (k * 4) = y0 at Y0 HCk
        generalize G (k * 4 + 1) = y1 at Y0 HCk
        generalize G (k * 4 + 2) = y2 at Y0 HCk
        generalize G (k * 4 + 3) = y3 at Y0 HCk
        unfold maxLen at hc2
        have X0 := HX.out.next hB; have T0 := HT.out.next hB
        unfold ChC at HCk
        obtain ⟨_, c0, c1, c2, c3⟩ := id Y0
        obtain ⟨_, x0, x1, x2, x3, _⟩ := id X0
        go_upto_region 39 with fail
        have hX0 := X0.lt; have hT0 := T0.lt; have hY0 := Y0.lt; have hBs := hB.size
        obtain ⟨w5, hw5⟩ : ∃ w5, w5 = wr := ⟨_, rfl⟩
        subst hw5
        go_cut [28, 29] (fun s28 s29 wx => ∃ jn, s28 = .pointer (some ⟨jn, 0, none⟩) ∧ s29 = .int .i64 0 ∧ Arr wx jn p q r s ∧ Arr wx jg p q r s ∧ Below w2.heap.size w2 wx)
        case first =>
          have X1 := X0.drew; have T1 := T0.drew; have Y1 := Y0.drew; have B1 := gr_drew hB
          go_region_held3 (fun W => W.cell? ⟨jf, 0, none⟩ = some (.int .i64 a) ∧ W.cell? ⟨jf, 1, none⟩ = some (.int .i64 b) ∧ W.cell? ⟨jf, 2, none⟩ = some (.int .i64 c) ∧ W.cell? ⟨jf, 3, none⟩ = some (.int .i64 d) ∧ W.cell? ⟨bl, k * 4, none⟩ = some (.int .i64 y0) ∧ W.cell? ⟨bl, k * 4 + 1, none⟩ = some (.int .i64 y1) ∧ W.cell? ⟨bl, k * 4 + 2, none⟩ = some (.int .i64 y2) ∧ W.cell? ⟨bl, k * 4 + 3, none⟩ = some (.int .i64 y3)) ((refine cells8E ?_ ?_; (focus (repeat (first | with_reducible assumption | with_reducible refine Arr.drew ?_ | with_reducible refine Arr.alloc ?_ _ | with_reducible refine Arr.next ?_ (by assumption) | (with_reducible refine Arr.oth4M ?_ ?_ _ _ _ _; rotate_left 1; (focus omega))))); (focus (repeat (first | with_reducible assumption | with_reducible refine At4.drew ?_ | with_reducible refine At4.alloc ?_ _ | (with_reducible refine At4.oth4E ?_ ?_ _ _ _ _; rotate_left 1; (focus omega)) | (with_reducible refine At4.next ?_ (by assumption) ?_; rotate_left 1; (focus omega))))))) ((go_at_call 32; refine (HCk.out _).mono ?_; rintro e w6 ⟨rfl, hb6⟩; have hz6 := hb6.size; (try simp at hz6); have hbx : Below w5.heap.size w5 w6 := (by (repeat' (first | with_reducible exact Below.refl _ _ | with_reducible assumption | with_reducible refine gr_alloc ?_ _ | with_reducible refine gr_drew ?_ | with_reducible refine gr_drewN ?_ _ | with_reducible refine gr_trans ?_ (by assumption) | with_reducible refine gr_set ?_ ?_ _ | (simp; done) | omega | (simp; omega)))); have X6 := X0.next hbx; have T6 := T0.next hbx; have Y6 := Y0.next hbx hY0; have B6 := gr_trans hB hbx; (try (refine Arr.elimz (w := w6) (k := w5.heap.size) ?_ ?_; (focus ((repeat (first | with_reducible assumption | with_reducible exact Arr.new _ _ _ _ _ _ | with_reducible refine Arr.drew ?_ | with_reducible refine Arr.alloc ?_ _ | with_reducible refine Arr.next ?_ hb6)); done)); intro zk1; obtain ⟨_, za1, zb1, zc1, zd1, ze1, zf1, zg1, zh1⟩ := id zk1))))
          all_goals (go_wp2_with fail; go_meet; refine ⟨_, rfl, rfl, ?_, ?_, ?_⟩; (focus (first | with_reducible exact Arr.new _ _ _ _ _ _ | exact Arr.store4 (Arr.box (by assumption)))); (focus (repeat (first | with_reducible assumption | with_reducible refine Arr.alloc ?_ _ | (with_reducible refine Arr.oth4M ?_ ?_ _ _ _ _; rotate_left 1; (focus omega))))); (focus (repeat' (first | with_reducible exact Below.refl _ _ | with_reducible assumption | with_reducible refine gr_alloc ?_ _ | with_reducible refine gr_drew ?_ | with_reducible refine gr_drewN ?_ _ | with_reducible refine gr_trans ?_ (by assumption) | with_reducible refine gr_set ?_ ?_ _ | (simp; done) | omega | (simp; omega)))))
        case rest =>
          obtain ⟨jn, rfl, rfl, N7, T7, B7⟩ := hcut
          clear X0 T0 Y0 c0 c1 c2 c3 x0 x1 x2 x3 hX0 hT0 hY0 hB hBs HCk
          obtain ⟨_, c0, c1, c2, c3, _⟩ := id N7
          obtain ⟨_, t0, t1, t2, t3, _⟩ := id T7
          have heq := eqForm_run
          have hee := eqF_4 p q r s
          go_wp2_with fail
          refine ⟨⟨k + 1, by go_num, by omega, B7⟩, ?_⟩
          simp only [intOf]
          omega
      · have e2 : decide ((k : Int) < (n : Int)) = false := by simp; omega
        go_wp2_with fail
        go_ret
        exact ⟨rfl, gr_trans U2 hB⟩
  · have hn := hQ.out.1 hk6
    subst hn
    have hkb : (k6 == 0) = false := by simpa using hk6
    obtain ⟨av, cv, rfl⟩ := rdX_val hE.out.V
    clear hk6 hQ hE
    go_wp2_with fail
    go_ret
    exact ⟨rfl, hcut⟩

end Go.Proofs.Ytikmjefbjejbkaa

/- FnEquivalence, cut: equivalence the other way round. -/
namespace Go.Proofs.Ytikmjefbjejbkaa
open Go.ChangeShapes Go.WideShapes Go.ChangeAt Go.RowKit

set_option maxRecDepth 1000000 in
set_option maxHeartbeats 8000000 in
theorem eseg105_any (w : World) (a0 : Option Addr) (len0 cap0 : Nat) (wc : World) (hcut : Below w.heap.size w wc) (jf jg jh jk : Nat) (a b c d p q r s h0 h1 h2 h3 g0 g1 g2 g3 : Int) (v5 : Value) (n : Nat) (G : Nat → Int) (k6 k12 : Int) (sb : Bool) (hE : Hid (EvB wc jf jg a b c d p q r s v5 n G)) (hQ : Hid (EvQ3 a b c d p q r s n G k6))
    (hH : Hid (Arr wc jh h0 h1 h2 h3)) (hK : Hid (Arr wc jk g0 g1 g2 g3)) (hQ1 : Hid (EvQ1 h0 h1 h2 h3 g0 g1 g2 g3 sb k12)) (u1 u2 u7 u8 u13 u14 u15 u16 u17 u18 u19 u20 u21 u22 u23 u24 u25 u26 u27 u28 u29 u30 u31 u32 u33 u34 u35 u36 u37 u38 u39 u40 u41 u42 u43 u44 u45 u46 u47 u48 u49 u50 u51 u52 u53 u54 u55 u56 u57 u58 u59 u60 u61 u62 u63 u64 u65 u66 u67 u68 u69 u70 u71 u72 u73 u74 u75 u76 u77 u78 u79 u80 u81 u82 u83 u84 u85 u86 u87 u88 u89 u90 u91 u92 u93 u94 u95 u96 u97 u98 u99 u100 u101 u102 u103 u104 u105 u106 u107 u108 u109 u110 u111 u112 u113 u114 u115 u116 u117 u118 u119 u120 u121 u122 u123 u124 u125 u126 u127 u128 u129 u130 u131 u132 u133 u134 u135 u136 u137 u138 u139 u140 u141 u142 u143 u144 u145 u146 u147 u148 u149 u150 u151 u152 u153 u154 u155 u156 u157 u158 u159 u160 u161 u162 u163 u164 u165 u166 u167 u168 u169 u170 u171 u172 u173 u174 u175 u176 u177 u178 u179 u180 u181 u182 u183 u184 u185 u186 u187 u188 u189 u190 u191 u192 u193 u194 u195 u196 u197 u198 u199 u200 u201 u202 : Value) :
    Code.wp Try.prog (eseg 105) (bodyPost Try.prog Try.f6 fun e w' => e = .returned (.bool true) ∧ Below w.heap.size w w') ⟨#[.slice a0 len0 cap0, u1, u2, .pointer (some ⟨jf, 0, none⟩), .pointer (some ⟨jg, 0, none⟩), v5, .int .i64 k6, u7, u8, .pointer (some ⟨jh, 0, none⟩), .pointer (some ⟨jk, 0, none⟩), .bool sb, .int .i64 k12, u13, u14, u15, u16, u17, u18, u19, u20, u21, u22, u23, u24, u25, u26, u27, u28, u29, u30, u31, u32, u33, u34, u35, u36, u37, u38, u39, u40, u41, u42, u43, u44, u45, u46, u47, u48, u49, u50, u51, u52, u53, u54, u55, u56, u57, u58, u59, u60, u61, u62, u63, u64, u65, u66, u67, u68, u69, u70, u71, u72, u73, u74, u75, u76, u77, u78, u79, u80, u81, u82, u83, u84, u85, u86, u87, u88, u89, u90, u91, u92, u93, u94, u95, u96, u97, u98, u99, u100, u101, u102, u103, u104, u105, u106, u107, u108, u109, u110, u111, u112, u113, u114, u115, u116, u117, u118, u119, u120, u121, u122, u123, u124, u125, u126, u127, u128, u129, u130, u131, u132, u133, u134, u135, u136, u137, u138, u139, u140, u141, u142, u143, u144, u145, u146, u147, u148, u149, u150, u151, u152, u153, u154, u155, u156, u157, u158, u159, u160, u161, u162, u163, u164, u165, u166, u167, u168, u169, u170, u171, u172, u173, u174, u175, u176, u177, u178, u179, u180, u181, u182, u183, u184, u185, u186, u187, u188, u189, u190, u191, u192, u193, u194, u195, u196, u197, u198, u199, u200, u201, u202], []⟩ wc := by
  conv => arg 2; whnf
  go_upto_if 147 with (fail)
  go_cut [] (fun wx => Hid (EvB wx jf jg a b c d p q r s v5 n G) ∧ Below w.heap.size w wx)
  case first =>
    by_cases hk : k12 = 0
    · have HA := hid (hQ1.out hk)
      subst hk
      unfold AeC at HA
      obtain ⟨_, x0, x1, x2, x3, _⟩ := id hH.out
      obtain ⟨_, t0, t1, t2, t3, _⟩ := id hK.out
      clear hQ1 hQ hH hK
      have hnn : (!sb == sb) = false := by cases sb <;> rfl
      go_wp2_with fail
      refine (HA.out _).mono ?_
      rintro e w2 ⟨rfl, hb2⟩
      have E2 := hid (hE.out.next hb2)
      have U2 := gr_trans hcut hb2
      clear hE hcut hb2 HA x0 x1 x2 x3 t0 t1 t2 t3
      go_wp2_with fail
      go_meet
      exact ⟨E2, U2⟩
    · have hkb : (k12 == 0) = false := by simpa using hk
      clear hk hQ1 hQ
      go_wp2_with fail
      go_meet
      exact ⟨hE, hcut⟩
  case rest =>
    obtain ⟨E2, U2⟩ := hcut
    go_step
    exact eseg147_any w a0 len0 cap0 _ U2 jf jg a b c d p q r s v5 n G k6 E2 hQ _ _ _ _ _ _ _ _ _ _ _ _ _ _ _ _ _ _ _ _ _ _ _ _ _ _ _ _ _ _ _ _ _ _ _ _ _ _ _ _ _ _ _ _ _ _ _ _ _ _ _ _ _ _ _ _ _ _ _ _ _ _ _ _ _ _ _ _ _ _ _ _ _ _ _ _ _ _ _ _ _ _ _ _ _ _ _ _ _ _ _ _ _ _ _ _ _ _ _ _ _ _ _ _ _ _ _ _ _ _ _ _ _ _ _ _ _ _ _ _ _ _ _ _ _ _ _ _ _ _ _ _ _ _ _ _ _ _ _ _ _ _ _ _ _ _ _ _ _ _ _ _ _ _ _ _ _ _ _ _ _ _ _ _ _ _ _ _ _ _ _ _ _ _ _ _ _ _ _ _ _ _ _ _ _ _ _ _ _ _ _ _ _ _ _ _ _ _

end Go.Proofs.Ytikmjefbjejbkaa

/- FnEquivalence, cut: automorphisms. -/
namespace Go.Proofs.Ytikmjefbjejbkaa
open Go.ChangeShapes Go.WideShapes Go.ChangeAt Go.RowKit

set_option maxRecDepth 1000000 in
set_option maxHeartbeats 8000000 in
theorem eseg103_any (w : World) (a0 : Option Addr) (len0 cap0 : Nat) (wc : World) (hcut0 : Below w.heap.size w wc) (jf jg jh jk ju : Nat) (a b c d p q r s h0 h1 h2 h3 g0 g1 g2 g3 o0 o1 o2 o3 : Int) (v5 v16 : Value) (n m : Nat) (G F : Nat → Int) (k6 k12 k17 : Int) (sb : Bool) (hE : Hid (EvB wc jf jg a b c d p q r s v5 n G)) (hQ : Hid (EvQ3 a b c d p q r s n G k6))
    (hH : Hid (Arr wc jh h0 h1 h2 h3)) (hK : Hid (Arr wc jk g0 g1 g2 g3)) (hQ1 : Hid (EvQ1 h0 h1 h2 h3 g0 g1 g2 g3 sb k12)) (hU : Hid (Arr wc ju o0 o1 o2 o3)) (hV : Hid (RdX wc v16 m F)) (hQ2 : Hid (EvQ2 o0 o1 o2 o3 m F k17)) (u1 u2 u7 u8 u13 u14 u18 u19 u20 u21 u22 u23 u24 u25 u26 u27 u28 u29 u30 u31 u32 u33 u34 u35 u36 u37 u38 u39 u40 u41 u42 u43 u44 u45 u46 u47 u48 u49 u50 u51 u52 u53 u54 u55 u56 u57 u58 u59 u60 u61 u62 u63 u64 u65 u66 u67 u68 u69 u70 u71 u72 u73 u74 u75 u76 u77 u78 u79 u80 u81 u82 u83 u84 u85 u86 u87 u88 u89 u90 u91 u92 u93 u94 u95 u96 u97 u98 u99 u100 u101 u102 u103 u104 u105 u106 u107 u108 u109 u110 u111 u112 u113 u114 u115 u116 u117 u118 u119 u120 u121 u122 u123 u124 u125 u126 u127 u128 u129 u130 u131 u132 u133 u134 u135 u136 u137 u138 u139 u140 u141 u142 u143 u144 u145 u146 u147 u148 u149 u150 u151 u152 u153 u154 u155 u156 u157 u158 u159 u160 u161 u162 u163 u164 u165 u166 u167 u168 u169 u170 u171 u172 u173 u174 u175 u176 u177 u178 u179 u180 u181 u182 u183 u184 u185 u186 u187 u188 u189 u190 u191 u192 u193 u194 u195 u196 u197 u198 u199 u200 u201 u202 : Value) :
    Code.wp Try.prog (eseg 103) (bodyPost Try.prog Try.f6 fun e w' => e = .returned (.bool true) ∧ Below w.heap.size w w') ⟨#[.slice a0 len0 cap0, u1, u2, .pointer (some ⟨jf, 0, none⟩), .pointer (some ⟨jg, 0, none⟩), v5, .int .i64 k6, u7, u8, .pointer (some ⟨jh, 0, none⟩), .pointer (some ⟨jk, 0, none⟩), .bool sb, .int .i64 k12, u13, u14, .pointer (some ⟨ju, 0, none⟩), v16, .int .i64 k17, u18, u19, u20, u21, u22, u23, u24, u25, u26, u27, u28, u29, u30, u31, u32, u33, u34, u35, u36, u37, u38, u39, u40, u41, u42, u43, u44, u45, u46, u47, u48, u49, u50, u51, u52, u53, u54, u55, u56, u57, u58, u59, u60, u61, u62, u63, u64, u65, u66, u67, u68, u69, u70, u71, u72, u73, u74, u75, u76, u77, u78, u79, u80, u81, u82, u83, u84, u85, u86, u87, u88, u89, u90, u91, u92, u93, u94, u95, u96, u97, u98, u99, u100, u101, u102, u103, u104, u105, u106, u107, u108, u109, u110, u111, u112, u113, u114, u115, u116, u117, u118, u119, u120, u121, u122, u123, u124, u125, u126, u127, u128, u129, u130, u131, u132, u133, u134, u135, u136, u137, u138, u139, u140, u141, u142, u143, u144, u145, u146, u147, u148, u149, u150, u151, u152, u153, u154, u155, u156, u157, u158, u159, u160, u161, u162, u163, u164, u165, u166, u167, u168, u169, u170, u171, u172, u173, u174, u175, u176, u177, u178, u179, u180, u181, u182, u183, u184, u185, u186, u187, u188, u189, u190, u191, u192, u193, u194, u195, u196, u197, u198, u199, u200, u201, u202], []⟩ wc := by
  conv => arg 2; whnf
  go_upto_if 105 with (fail)
  go_cut [] (fun wx => Hid (Below wc.heap.size wc wx))
  case first =>
    by_cases hk : k17 = 0
    · obtain ⟨hm, hch⟩ := hQ2.out hk
      subst hk
      have HC := hid hch
      have HM := hid hm
      have HX := hU; have HT := hU; have HV := hV
      obtain ⟨av, cv, rfl⟩ := rdX_val hV.out
      clear hQ1 hQ hH hK hE hQ2 hch hm hV hU
      have hn0 : (0 : Int) ≤ (m : Int) := by omega
      go_upto_region 19 with fail
      go_cut [123] (fun s123 wx => s123 = .bool false ∧ wc = wx)
      case first =>
        rcases HM.out with rfl | rfl | rfl | rfl
        all_goals (go_wp2_with fail; go_meet; exact ⟨rfl, rfl⟩)
      case rest =>
        obtain ⟨rfl, rfl⟩ := hcut
        go_wp2_with fail
        go_loopw [20] (fun s20 wr => ∃ k : Nat, s20 = .int .i64 ((k : Int)) ∧ k ≤ m ∧ Below wc.heap.size wc wr) (fun s20 _ => m - (intOf s20).toNat)
        case atStart => exact ⟨0, rfl, Nat.zero_le _, Below.refl _ _⟩
        case round =>
          obtain ⟨k, rfl, hk, hB⟩ := hrel
          by_cases hlt : k < m
          · have e2 : decide ((k : Int) < (m : Int)) = true := by simp; omega
            have hk0 : (0 : Int) ≤ (k : Int) := by omega
            have hkn : (k : Int) < (m : Int) := by omega
            obtain ⟨bl, cpl, hvl, hc1, hc2, hat⟩ := rdX_at HV.out (by omega)
            cases hvl
            have Y0 := (hat k hlt).next hB (hat k hlt).lt
            have HCk := hid (HC.out k hlt)
            clear hat
            generalize F (k * 4) = y0 at Y0 HCk
            generalize F (k * 4 + 1) = y1 at Y0 HCk
            generalize F (k * 4 + 2) = y2 at Y0 HCk
            generalize F (k * 4 + 3) = y3 at Y0 HCk
            unfold maxLen at hc2
            have X0 := HX.out.next hB; have T0 := HT.out.next hB
            unfold ChC at HCk
            obtain ⟨_, c0, c1, c2, c3⟩ := id Y0
            obtain ⟨_, x0, x1, x2, x3, _⟩ := id X0
            go_upto_region 24 with fail
            have hX0 := X0.lt; have hT0 := T0.lt; have hY0 := Y0.lt; have hBs := hB.size
            obtain ⟨w5, hw5⟩ : ∃ w5, w5 = wr := ⟨_, rfl⟩
            subst hw5
            go_cut [21, 22] (fun s21 s22 wx => ∃ jn, s21 = .pointer (some ⟨jn, 0, none⟩) ∧ s22 = .int .i64 0 ∧ Arr wx jn o0 o1 o2 o3 ∧ Arr wx ju o0 o1 o2 o3 ∧ Below wc.heap.size wc wx)
            case first =>
              have X1 := X0.drew; have T1 := T0.drew; have Y1 := Y0.drew; have B1 := gr_drew hB
              go_region_held3 (fun W => W.cell? ⟨ju, 0, none⟩ = some (.int .i64 o0) ∧ W.cell? ⟨ju, 1, none⟩ = some (.int .i64 o1) ∧ W.cell? ⟨ju, 2, none⟩ = some (.int .i64 o2) ∧ W.cell? ⟨ju, 3, none⟩ = some (.int .i64 o3) ∧ W.cell? ⟨bl, k * 4, none⟩ = some (.int .i64 y0) ∧ W.cell? ⟨bl, k * 4 + 1, none⟩ = some (.int .i64 y1) ∧ W.cell? ⟨bl, k * 4 + 2, none⟩ = some (.int .i64 y2) ∧ W.cell? ⟨bl, k * 4 + 3, none⟩ = some (.int .i64 y3)) ((refine cells8E ?_ ?_; (focus (repeat (first | with_reducible assumption | with_reducible refine Arr.drew ?_ | with_reducible refine Arr.alloc ?_ _ | with_reducible refine Arr.next ?_ (by assumption) | (with_reducible refine Arr.oth4M ?_ ?_ _ _ _ _; rotate_left 1; (focus omega))))); (focus (repeat (first | with_reducible assumption | with_reducible refine At4.drew ?_ | with_reducible refine At4.alloc ?_ _ | (with_reducible refine At4.oth4E ?_ ?_ _ _ _ _; rotate_left 1; (focus omega)) | (with_reducible refine At4.next ?_ (by assumption) ?_; rotate_left 1; (focus omega))))))) ((go_at_call 32; refine (HCk.out _).mono ?_; rintro e w6 ⟨rfl, hb6⟩; have hz6 := hb6.size; (try simp at hz6); have hbx : Below w5.heap.size w5 w6 := (by (repeat' (first | with_reducible exact Below.refl _ _ | with_reducible assumption | with_reducible refine gr_alloc ?_ _ | with_reducible refine gr_drew ?_ | with_reducible refine gr_drewN ?_ _ | with_reducible refine gr_trans ?_ (by assumption) | with_reducible refine gr_set ?_ ?_ _ | (simp; done) | omega | (simp; omega)))); have X6 := X0.next hbx; have T6 := T0.next hbx; have Y6 := Y0.next hbx hY0; have B6 := gr_trans hB hbx; (try (refine Arr.elimz (w := w6) (k := w5.heap.size) ?_ ?_; (focus ((repeat (first | with_reducible assumption | with_reducible exact Arr.new _ _ _ _ _ _ | with_reducible refine Arr.drew ?_ | with_reducible refine Arr.alloc ?_ _ | with_reducible refine Arr.next ?_ hb6)); done)); intro zk1; obtain ⟨_, za1, zb1, zc1, zd1, ze1, zf1, zg1, zh1⟩ := id zk1))))
              all_goals (go_wp2_with fail; go_meet; refine ⟨_, rfl, rfl, ?_, ?_, ?_⟩; (focus (first | with_reducible exact Arr.new _ _ _ _ _ _ | exact Arr.store4 (Arr.box (by assumption)))); (focus (repeat (first | with_reducible assumption | with_reducible refine Arr.alloc ?_ _ | (with_reducible refine Arr.oth4M ?_ ?_ _ _ _ _; rotate_left 1; (focus omega))))); (focus (repeat' (first | with_reducible exact Below.refl _ _ | with_reducible assumption | with_reducible refine gr_alloc ?_ _ | with_reducible refine gr_drew ?_ | with_reducible refine gr_drewN ?_ _ | with_reducible refine gr_trans ?_ (by assumption) | with_reducible refine gr_set ?_ ?_ _ | (simp; done) | omega | (simp; omega)))))
            case rest =>
              obtain ⟨jn, rfl, rfl, N7, T7, B7⟩ := hcut
              clear X0 T0 Y0 c0 c1 c2 c3 x0 x1 x2 x3 hX0 hT0 hY0 hB hBs HCk
              obtain ⟨_, c0, c1, c2, c3, _⟩ := id N7
              obtain ⟨_, t0, t1, t2, t3, _⟩ := id T7
              have heq := eqForm_run
              have hee := eqF_4 o0 o1 o2 o3
              go_wp2_with fail
              refine ⟨⟨k + 1, by go_num, by omega, B7⟩, ?_⟩
              simp only [intOf]
              omega
          · have e2 : decide ((k : Int) < (m : Int)) = false := by simp; omega
            go_wp2_with fail
            go_meet
            exact hid hB
    · have hkb : (k17 == 0) = false := by simpa using hk
      clear hk hQ2 hQ hQ1 hE hH hK hU hV
      go_wp2_with fail
      go_meet
      exact hid (Below.refl _ _)
  case rest =>
    have B2 := hcut.out
    go_step
    exact eseg105_any w a0 len0 cap0 _ (gr_trans hcut0 B2) jf jg jh jk a b c d p q r s h0 h1 h2 h3 g0 g1 g2 g3 v5 n G k6 k12 sb (hid (hE.out.next B2)) hQ (hid (hH.out.next B2)) (hid (hK.out.next B2)) hQ1 _ _ _ _ _ _ _ _ _ _ _ _ _ _ _ _ _ _ _ _ _ _ _ _ _ _ _ _ _ _ _ _ _ _ _ _ _ _ _ _ _ _ _ _ _ _ _ _ _ _ _ _ _ _ _ _ _ _ _ _ _ _ _ _ _ _ _ _ _ _ _ _ _ _ _ _ _ _ _ _ _ _ _ _ _ _ _ _ _ _ _ _ _ _ _ _ _ _ _ _ _ _ _ _ _ _ _ _ _ _ _ _ _ _ _ _ _ _ _ _ _ _ _ _ _ _ _ _ _ _ _ _ _ _ _ _ _ _ _ _ _ _ _ _ _ _ _ _ _ _ _ _ _ _ _ _ _ _ _ _ _ _ _ _ _ _ _ _ _ _ _ _ _ _ _ _ _ _ _ _ _ _ _ _ _ _ _ _ _ _ _ _ _ _

end Go.Proofs.Ytikmjefbjejbkaa
