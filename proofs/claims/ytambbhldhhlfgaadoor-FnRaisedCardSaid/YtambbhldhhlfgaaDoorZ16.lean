/- Several texts in one: XDraw21, XC1i. -/
import Derived.Test.YtambbhldhhlfgaaDoorDraw20
import Derived.Test.YtambbhldhhlfgaaDoorOm
import Derived.Test.YtambbhldhhlfgaaDoorOi
import Derived.Deep.RegionWith
import Derived.Test.YtambbhldhhlfgaaDoorZ7

/- Draws of chapter 6: a form, a prime and a point; a form and a prime. -/
namespace Go.Proofs.YtambbhldhhlfgaaDoor
open Go.ChangeShapes Go.WideShapes Go.ChangeAt Go.RowKit

/-- A form and two numbers. -/
def FNNOut (w : World) (e : Ending) (w' : World) : Prop := ∃ p q r s m n : Int, e = .returned (.tuple #[.agg #[.int .i64 p, .int .i64 q, .int .i64 r, .int .i64 s], .int .i64 m, .int .i64 n]) ∧ Below w.heap.size w w'
theorem res_FNN {P : Program} {fn : Func} {p u v : Tmp} {ty e : TypeId} {tmps : Array Value} {w : World} {b : Nat} {x0 x1 x2 x3 x y : Int} (h : fn.results = #[.cell p ty, .tmp u, .tmp v]) (hu : P.underlying ty = some (.array 4 e)) (hi : (P.info? ty).map (·.size) = some 4)
    (hp : tmps.getD p undef = .pointer (some ⟨b, 0, none⟩)) (h1 : tmps.getD u undef = .int .i64 x) (h2 : tmps.getD v undef = .int .i64 y) (hA : Arr w b x0 x1 x2 x3) :
    (results fn tmps).run P w = .ok (.tuple #[.agg #[.int .i64 x0, .int .i64 x1, .int .i64 x2, .int .i64 x3], .int .i64 x, .int .i64 y]) w := by
  have hq : tmps[p]?.getD undef = .pointer (some ⟨b, 0, none⟩) := by simpa using hp
  have h1' : tmps[u]?.getD undef = .int .i64 x := by simpa using h1
  have h2' : tmps[v]?.getD undef = .int .i64 y := by simpa using h2
  simp [results, h, hq, h1', h2', asAddr, loadVar4 w b ty e _ _ _ _ hu hi hA.c0 hA.c1 hA.c2 hA.c3]
theorem rd_ex {w : World} {v : Value} {n : Nat} {g : Nat → Int} (h : Rd w v n g) (hn : 0 < n) : ∃ b cap, v = .slice (some ⟨b, 0, none⟩) n cap ∧ n ≤ cap ∧ cap ≤ maxLen ∧ b < w.heap.size ∧ ∀ i, i < n → w.cell? ⟨b, i, none⟩ = some (.int .i64 (g i)) := by
  rcases h with ⟨_, h0⟩ | ⟨b, cap, h1, h2, h3, h4, h5⟩
  · omega
  · exact ⟨b, cap, h1, h2, h3, h4, h5⟩
theorem Rd.gkc {u w : World} {k b n c : Nat} {g : Nat → Int} (h : Rd u (.slice (some ⟨b, 0, none⟩) n c) n g) (hg : Gk k u w) (hk : b ≠ k) (i : Nat) (hi : i < n) : w.cell? ⟨b, i, none⟩ = some (.int .i64 (g i)) := by
  rcases h with ⟨h0, _⟩ | ⟨b', cap, h1, h2, h3, h4, h5⟩
  · cases h0
  · cases h1
    exact (hg.cell (p := ⟨b, i, none⟩) h4 hk).trans (h5 i hi)
theorem Rd.gkL {u w : World} {k b n c : Nat} {g : Nat → Int} (h : Rd u (.slice (some ⟨b, 0, none⟩) n c) n g) (hg : Gk k u w) (hk : b ≠ k) : Rd w (.slice (some ⟨b, 0, none⟩) n c) n g := by
  rcases h with ⟨h0, _⟩ | ⟨b', cap, h1, h2, h3, h4, h5⟩
  · cases h0
  · cases h1
    exact .inr ⟨b, c, rfl, h2, h3, Nat.lt_of_lt_of_le h4 hg.size, fun i hi => (hg.cell (p := ⟨b, i, none⟩) h4 hk).trans (h5 i hi)⟩
theorem lstS {w : World} {b n c : Nat} {g : Nat → Int} (h : Rd w (.slice (some ⟨b, 0, none⟩) n c) n g) : ∀ i, i < n → w.cell? ⟨b, i, none⟩ = some (.int .i64 (g i)) := by
  rcases h with ⟨h0, _⟩ | ⟨b', cap, h1, h2, h3, h4, h5⟩
  · cases h0
  · cases h1; exact h5
theorem Rd.set4 {w : World} {b n c r : Nat} {g : Nat → Int} (h : Rd w (.slice (some ⟨b, 0, none⟩) n c) n g) (hr : b ≠ r) {x y z u : Value} : Rd ((((w.setCell ⟨r, 0, none⟩ x).setCell ⟨r, 1, none⟩ y).setCell ⟨r, 2, none⟩ z).setCell ⟨r, 3, none⟩ u) (.slice (some ⟨b, 0, none⟩) n c) n g := by
  rcases h with ⟨h0, _⟩ | ⟨b', cap, h1, h2, h3, h4, h5⟩
  · cases h0
  · cases h1
    have ne : ∀ (o i : Nat), (⟨r, o, none⟩ : Addr) ≠ ⟨b, i, none⟩ := fun o i e => hr (by cases e; rfl)
    exact .inr ⟨b, c, rfl, h2, h3, by simpa only [World.size_setCell] using h4, fun i hi => (World.cell?_setCell_other _ _ _ _ (ne 3 i)).trans ((World.cell?_setCell_other _ _ _ _ (ne 2 i)).trans ((World.cell?_setCell_other _ _ _ _ (ne 1 i)).trans ((World.cell?_setCell_other _ _ _ _ (ne 0 i)).trans (h5 i hi))))⟩
theorem rd_sl {w : World} {v : Value} {n : Nat} {g : Nat → Int} (h : Rd w v n g) : ∃ a c, v = .slice a n c := by
  rcases h with ⟨rfl, rfl⟩ | ⟨b, cap, rfl, _⟩
  · exact ⟨_, _, rfl⟩
  · exact ⟨_, _, rfl⟩

set_option maxRecDepth 100000 in
set_option maxHeartbeats 4000000 in
theorem drawPR_any (a : Option Addr) (len cap : Nat) (zs : List Int) (w : World) (hR : IsRow .u8 w a len cap zs) (hlen : len ≤ 9223372036854775807) :
    Calls Tryd.prog 83 #[.slice a len cap] w (WithOut w) := by
  have R0 := Arr.new w 0 0 0 0 25
  have U0 := gr_alloc (Below.refl w.heap.size w) (.cells #[.int .i64 0, .int .i64 0, .int .i64 0, .int .i64 0] 25)
  have hR0 := row8_next hR U0
  clear hR
  go_enter Tryd.func83, Tryd.ntmps83
  go_wp2_with fail
  refine (from_any a len cap zs _ hR0 hlen).mono ?_
  rintro e w1 ⟨rfl, S1', hb1⟩
  have S1 := hid S1'
  have R1 := R0.next hb1
  have U1 := gr_trans U0 hb1
  clear S1' hR0 R0 U0 hb1
  simp only [World.size_alloc] at S1 ⊢
  generalize hk : w.heap.size + 1 = k at S1 ⊢
  go_wp2_with fail
  refine (l06Draw_any k a len cap zs _ S1.out).mono ?_
  rintro e w2 ⟨p, q, r, s, n, rfl, S2, G2⟩
  have hS2 := S2.lt
  have R2 := R1.gk G2 (by omega)
  have U2 := Gk.out U1 G2 (by omega)
  have hR2 := R2.lt
  have X3 := Arr.new w2 p q r s 25
  have R3 := R2.alloc (.cells #[.int .i64 p, .int .i64 q, .int .i64 r, .int .i64 s] 25)
  have U3 := gr_alloc U2 (.cells #[.int .i64 p, .int .i64 q, .int .i64 r, .int .i64 s] 25)
  clear S1 S2 R1 U1 G2 R2 U2
  go_upto_region 2 with fail
  obtain ⟨j, hj⟩ : ∃ j, j = w2.heap.size := ⟨_, rfl⟩
  rw [← hj] at X3 hR2
  rw [← hj]
  generalize w2.alloc (.cells #[.int .i64 p, .int .i64 q, .int .i64 r, .int .i64 s] 25) = W3 at X3 R3 U3 ⊢
  clear hj
  obtain ⟨_, x0, x1, x2, x3, _⟩ := id X3
  obtain ⟨_, r0, r1, r2, r3, f0, f1, f2, f3⟩ := id R3
  go_wp2_with fail
  refine bodyPost_ret (res_AN (e := 2) rfl Tryd.underlying25 (by kernel_rfl) rfl rfl (Arr.store4 R3.box)) rfl ?_
  exact ⟨_, _, _, _, _, rfl, by (repeat' (first | with_reducible exact Below.refl _ _ | with_reducible assumption | with_reducible refine gr_alloc ?_ _ | with_reducible refine gr_drew ?_ | with_reducible refine gr_drewN ?_ _ | with_reducible refine gr_trans ?_ (by assumption) | with_reducible refine gr_set ?_ ?_ _ | (simp; done) | omega | (simp; omega)))⟩

set_option maxRecDepth 100000 in
set_option maxHeartbeats 4000000 in
theorem drawDv_any (a : Option Addr) (len cap : Nat) (zs : List Int) (w : World) (hR : IsRow .u8 w a len cap zs) (hlen : len ≤ 9223372036854775807) :
    Calls Tryd.prog 14 #[.slice a len cap] w (WithOut w) := by
  have R0 := Arr.new w 0 0 0 0 25
  have U0 := gr_alloc (Below.refl w.heap.size w) (.cells #[.int .i64 0, .int .i64 0, .int .i64 0, .int .i64 0] 25)
  have hR0 := row8_next hR U0
  clear hR
  go_enter Tryd.func14, Tryd.ntmps14
  go_wp2_with fail
  refine (drawPR_any a len cap zs _ hR0 hlen).mono ?_
  rintro e w1 ⟨p, q, r, s, n, rfl, hb1⟩
  have R1 := R0.next hb1
  have U1 := gr_trans U0 hb1
  clear hR0 R0 U0 hb1
  obtain ⟨_, r0, r1, r2, r3, f0, f1, f2, f3⟩ := id R1
  go_wp2_with fail
  refine bodyPost_ret (res_AN (e := 2) rfl Tryd.underlying25 (by kernel_rfl) rfl rfl (Arr.store4 R1.box)) rfl ?_
  exact ⟨_, _, _, _, _, rfl, by (repeat' (first | with_reducible exact Below.refl _ _ | with_reducible assumption | with_reducible refine gr_alloc ?_ _ | with_reducible refine gr_drew ?_ | with_reducible refine gr_drewN ?_ _ | with_reducible refine gr_trans ?_ (by assumption) | with_reducible refine gr_set ?_ ?_ _ | (simp; done) | omega | (simp; omega)))⟩

set_option maxRecDepth 100000 in
set_option maxHeartbeats 4000000 in
theorem l06Point_any (a : Option Addr) (len cap : Nat) (zs : List Int) (w : World) (hR : IsRow .u8 w a len cap zs) (hlen : len ≤ 9223372036854775807) :
    Calls Tryd.prog 73 #[.slice a len cap] w (FNNOut w) := by
  have R0 := Arr.new w 0 0 0 0 25
  have U0 := gr_alloc (Below.refl w.heap.size w) (.cells #[.int .i64 0, .int .i64 0, .int .i64 0, .int .i64 0] 25)
  have hR0 := row8_next hR U0
  clear hR
  go_enter Tryd.func73, Tryd.ntmps73
  go_wp2_with fail
  refine (from_any a len cap zs _ hR0 hlen).mono ?_
  rintro e w1 ⟨rfl, S1', hb1⟩
  have S1 := hid S1'
  have R1 := R0.next hb1
  have U1 := gr_trans U0 hb1
  clear S1' hR0 R0 U0 hb1
  simp only [World.size_alloc] at S1 ⊢
  generalize hk : w.heap.size + 1 = k at S1 ⊢
  go_wp2_with fail
  refine (l06Draw_any k a len cap zs _ S1.out).mono ?_
  rintro e w2 ⟨p, q, r, s, n, rfl, S2', G2⟩
  have hS2 := S2'.lt
  have R2 := R1.gk G2 (by omega)
  have U2 := Gk.out U1 G2 (by omega)
  have hR2 := R2.lt
  have X3 := Arr.new w2 p q r s 25
  have S3 := hid (S2'.alloc (.cells #[.int .i64 p, .int .i64 q, .int .i64 r, .int .i64 s] 25))
  have R3 := R2.alloc (.cells #[.int .i64 p, .int .i64 q, .int .i64 r, .int .i64 s] 25)
  have U3 := gr_alloc U2 (.cells #[.int .i64 p, .int .i64 q, .int .i64 r, .int .i64 s] 25)
  clear S1 S2' R1 U1 G2 R2 U2
  go_upto_region 3 with fail
  obtain ⟨j, hj⟩ : ∃ j, j = w2.heap.size := ⟨_, rfl⟩
  rw [← hj] at X3 hS2 hR2
  rw [← hj]
  generalize w2.alloc (.cells #[.int .i64 p, .int .i64 q, .int .i64 r, .int .i64 s] 25) = W3 at X3 S3 R3 U3 ⊢
  clear hj
  have HP := hid (fun W => sPoints_any p q r s n W)
  have hln98 : fpc p q r s n = 0 → (prp p q r s n).length ≤ 98 := fun h => by
    obtain ⟨_, hp⟩ := fpc_0.1 h
    obtain ⟨h2, h97⟩ := prm_rng hp
    exact prp_len h97
  have HC := hid (fun W => l06Code_any p q r s n W)
  have HR : Hid (fpc p q r s n = 0 → ∀ W, Calls Tryd.prog 92 #[.agg #[.int .i64 p, .int .i64 q, .int .i64 r, .int .i64 s], .int .i64 n] W (LstV (ptK (lOk p q r s n) (n.toNat + 1)).length (fun i => (ptK (lOk p q r s n) (n.toNat + 1)).getD i 0) W)) := hid (fun h W => by
    obtain ⟨hF, hp⟩ := fpc_0.1 h
    obtain ⟨ha, hb, hc, hd⟩ := isF_t hF
    obtain ⟨h2, h97⟩ := prm_rng hp
    exact l06Roots_any p q r s n W ha hb hc hd h2 h97)
  have hrl : fpc p q r s n = 0 → (ptK (lOk p q r s n) (n.toNat + 1)).length ≤ 98 := fun h => by
    obtain ⟨hF, hp⟩ := fpc_0.1 h
    obtain ⟨h2, h97⟩ := prm_rng hp
    have := ptK_len (lOk p q r s n) (n.toNat + 1)
    omega
  generalize ptK (lOk p q r s n) (n.toNat + 1) = RL at HR hrl
  generalize (fun i => (prp p q r s n).getD i 0) = gp at HP
  generalize (prp p q r s n).length = ln at HP hln98
  generalize fpc p q r s n = fc at HP HC HR hln98 hrl
  unfold LstOut at HP
  have HL98 := hid hln98; have HRL := hid hrl
  clear hln98 hrl
  obtain ⟨_, x0, x1, x2, x3, _⟩ := id X3
  go_wp2_with fail
  refine (HP.out _).mono ?_
  rintro e w4 ⟨v, rfl, hV, hb4⟩
  have hS3 := S3.out.lt
  have X4 := X3.next hb4
  have R4 := R3.next hb4
  have U4 := gr_trans U3 hb4
  have S4 := hid (S3.out.below hb4)
  clear X3 R3 U3 S3 hb4 HP x0 x1 x2 x3
  obtain ⟨sn, hsn⟩ : ∃ sn : Nat, sn = (if fc = 0 then ln else 0) := ⟨_, rfl⟩
  rw [← hsn] at hV
  have hsn' : fc = 0 → sn = ln := fun h => by rw [hsn, if_pos h]
  clear hsn
  obtain ⟨a', c', rfl⟩ := rd_sl hV.rd
  have hvv : fc = 0 → 0 < sn → ∃ b, a' = some ⟨b, 0, none⟩ ∧ k < b ∧ b < w4.heap.size ∧ sn ≤ c' ∧ c' ≤ maxLen ∧ ∀ i, i < sn → w4.cell? ⟨b, i, none⟩ = some (.int .i64 (gp i)) := fun h h' => by
    rcases hV with ⟨_, h0⟩ | ⟨b, cp, h1, h2, h3, h4, h5, h6⟩
    · omega
    · cases h1
      exact ⟨b, rfl, by omega, h3, h4, h5, fun i hi => (h6 i hi).1⟩
  have HVV := hid hvv
  clear hvv hV
  go_upto_region 4 with fail
  go_cut [35] (fun s35 wx => ∃ bb : Bool, s35 = .bool bb ∧ (bb = true → fc = 0 ∧ 0 < sn) ∧ Hid (Src wx k a len cap zs) ∧ Arr wx j p q r s ∧ Arr wx w.heap.size 0 0 0 0 ∧ Below w.heap.size w wx ∧ Gk k w4 wx)
  case first =>
    by_cases hfc : fc = 0
    · have hft : (fc == 0) = true := by simpa using hfc
      have h98 : sn ≤ 98 := by rw [hsn' hfc]; exact HL98.out hfc
      have HFC := hid hfc
      clear hfc
      by_cases hln : 0 < sn
      · have hlt : decide ((0 : Int) < (sn : Int)) = true := by simp; omega
        go_wp2_with fail
        refine (next_any k a len cap zs _ _ S4.out).mono ?_
        rintro e w5 ⟨y, rfl, _, _, S5, G5⟩
        have X5 := X4.gk G5 (by omega)
        have R5 := R4.gk G5 (by omega)
        have U5 := Gk.out U4 G5 (by omega)
        have S5' := hid S5
        clear S4 X4 R4 U4 S5
        go_wp2_with fail
        go_meet
        exact ⟨_, rfl, fun _ => ⟨HFC.out, hln⟩, S5', X5, R5, U5, G5⟩
      · have hlt : decide ((0 : Int) < (sn : Int)) = false := by simp; omega
        go_wp2_with fail
        go_meet
        exact ⟨false, rfl, (fun h => by cases h), S4, X4, R4, U4, Gk.refl _ _⟩
    · have hft : (fc == 0) = false := by simpa using hfc
      go_wp2_with fail
      go_meet
      exact ⟨false, rfl, (fun h => by cases h), S4, X4, R4, U4, Gk.refl _ _⟩
  case rest =>
    obtain ⟨bb, rfl, hbb, S5, X5, R5, U5, G5⟩ := hcut
    clear S4 X4 R4 U4
    go_upto_if 35 with (fail)
    go_cut [] (fun wx => Hid (Src wx k a len cap zs) ∧ Arr wx j p q r s ∧ Arr wx w.heap.size 0 0 0 0 ∧ Below w.heap.size w wx)
    case first =>
      cases bb with
      | false =>
        go_wp2_with fail
        go_meet
        exact ⟨S5, X5, R5, U5⟩
      | true =>
        obtain ⟨hfc, hln⟩ := hbb rfl
        have h98 : sn ≤ 98 := by rw [hsn' hfc]; exact HL98.out hfc
        obtain ⟨b, rfl, hbB, hbs, hc1, hc2, hat⟩ := HVV.out hfc hln
        clear hfc hbb
        have hc2' := hc2
        unfold maxLen at hc2
        have L5 : Rd _ (.slice (some ⟨b, 0, none⟩) sn c') sn gp := .inr ⟨b, c', rfl, hc1, hc2', Nat.lt_of_lt_of_le hbs G5.size, fun i hi => (G5.cell (p := ⟨b, i, none⟩) hbs (by show b ≠ k; omega)).trans (hat i hi)⟩
        clear hat HVV hc2'
        obtain ⟨_, x0, x1, x2, x3, _⟩ := id X5
        obtain ⟨_, q0, q1, q2, q3, g0, g1, g2, g3⟩ := id R5
        have hX5 := X5.lt
        have hG5 := G5.size
        have hS5 := S5.out.lt
        go_upto_region 5 with fail
        go_region_held3 (fun W => (W.cell? ⟨j, 0, none⟩ = some (.int .i64 p) ∧ W.cell? ⟨j, 1, none⟩ = some (.int .i64 q) ∧ W.cell? ⟨j, 2, none⟩ = some (.int .i64 r) ∧ W.cell? ⟨j, 3, none⟩ = some (.int .i64 s)) ∧ ∀ i, i < sn → W.cell? ⟨b, i, none⟩ = some (.int .i64 (gp i))) (first | with_reducible assumption | exact ⟨cells4 (by assumption), lstS (by assumption)⟩ | exact ⟨cells4 (by (repeat (first | with_reducible assumption | with_reducible exact Arr.box (by assumption) | with_reducible exact Box.new _ _ _ _ _ _ | with_reducible exact Arr.new _ _ _ _ _ _ | with_reducible refine Arr.drew ?_ | with_reducible refine Arr.drewN ?_ _ | with_reducible refine Arr.store4 ?_ | with_reducible refine Arr.alloc ?_ _ | with_reducible refine Box.drew ?_ | with_reducible refine Box.drewN ?_ _ | with_reducible refine Box.alloc ?_ _ | with_reducible refine Arr.next ?_ (by assumption) | with_reducible refine Box.next ?_ (by assumption) | refine Arr.oth ?_ (by first | (simp; done) | omega | (simp; omega)) _ | refine Box.oth ?_ (by first | (simp; done) | omega | (simp; omega)) _ | with_reducible exact Arr3.box (by assumption) | with_reducible exact Box3.new _ _ _ _ _ | with_reducible exact Arr3.new _ _ _ _ _ | with_reducible refine Arr3.drew ?_ | with_reducible refine Arr3.drewN ?_ _ | with_reducible refine Arr3.store3 ?_ | with_reducible refine Arr3.alloc ?_ _ | with_reducible refine Box3.drew ?_ | with_reducible refine Box3.drewN ?_ _ | with_reducible refine Box3.alloc ?_ _ | with_reducible refine Arr3.next ?_ (by assumption) | with_reducible refine Box3.next ?_ (by assumption) | refine Arr3.oth ?_ (by first | (simp; done) | omega | (simp; omega)) _ | refine Box3.oth ?_ (by first | (simp; done) | omega | (simp; omega)) _))), lstS (by assumption)⟩ | exact ⟨cells4 (by (repeat (first | with_reducible assumption | with_reducible exact Arr.box (by assumption) | with_reducible exact Box.new _ _ _ _ _ _ | with_reducible exact Arr.new _ _ _ _ _ _ | with_reducible refine Arr.drew ?_ | with_reducible refine Arr.drewN ?_ _ | with_reducible refine Arr.store4 ?_ | with_reducible refine Arr.alloc ?_ _ | with_reducible refine Box.drew ?_ | with_reducible refine Box.drewN ?_ _ | with_reducible refine Box.alloc ?_ _ | with_reducible refine Arr.next ?_ (by assumption) | with_reducible refine Box.next ?_ (by assumption) | refine Arr.oth ?_ (by first | (simp; done) | omega | (simp; omega)) _ | refine Box.oth ?_ (by first | (simp; done) | omega | (simp; omega)) _ | with_reducible exact Arr3.box (by assumption) | with_reducible exact Box3.new _ _ _ _ _ | with_reducible exact Arr3.new _ _ _ _ _ | with_reducible refine Arr3.drew ?_ | with_reducible refine Arr3.drewN ?_ _ | with_reducible refine Arr3.store3 ?_ | with_reducible refine Arr3.alloc ?_ _ | with_reducible refine Box3.drew ?_ | with_reducible refine Box3.drewN ?_ _ | with_reducible refine Box3.alloc ?_ _ | with_reducible refine Arr3.next ?_ (by assumption) | with_reducible refine Box3.next ?_ (by assumption) | refine Arr3.oth ?_ (by first | (simp; done) | omega | (simp; omega)) _ | refine Box3.oth ?_ (by first | (simp; done) | omega | (simp; omega)) _))), lstS (Rd.set4 (by assumption) (by omega))⟩ | exact ⟨cells4 (by (repeat (first | with_reducible assumption | with_reducible exact Arr.box (by assumption) | with_reducible exact Box.new _ _ _ _ _ _ | with_reducible exact Arr.new _ _ _ _ _ _ | with_reducible refine Arr.drew ?_ | with_reducible refine Arr.drewN ?_ _ | with_reducible refine Arr.store4 ?_ | with_reducible refine Arr.alloc ?_ _ | with_reducible refine Box.drew ?_ | with_reducible refine Box.drewN ?_ _ | with_reducible refine Box.alloc ?_ _ | with_reducible refine Arr.next ?_ (by assumption) | with_reducible refine Box.next ?_ (by assumption) | refine Arr.oth ?_ (by first | (simp; done) | omega | (simp; omega)) _ | refine Box.oth ?_ (by first | (simp; done) | omega | (simp; omega)) _ | with_reducible exact Arr3.box (by assumption) | with_reducible exact Box3.new _ _ _ _ _ | with_reducible exact Arr3.new _ _ _ _ _ | with_reducible refine Arr3.drew ?_ | with_reducible refine Arr3.drewN ?_ _ | with_reducible refine Arr3.store3 ?_ | with_reducible refine Arr3.alloc ?_ _ | with_reducible refine Box3.drew ?_ | with_reducible refine Box3.drewN ?_ _ | with_reducible refine Box3.alloc ?_ _ | with_reducible refine Arr3.next ?_ (by assumption) | with_reducible refine Box3.next ?_ (by assumption) | refine Arr3.oth ?_ (by first | (simp; done) | omega | (simp; omega)) _ | refine Box3.oth ?_ (by first | (simp; done) | omega | (simp; omega)) _))), lstS (Rd.next (by assumption) (by (repeat' (first | with_reducible exact Below.refl _ _ | with_reducible assumption | with_reducible refine gr_alloc ?_ _ | with_reducible refine gr_drew ?_ | with_reducible refine gr_drewN ?_ _ | with_reducible refine gr_trans ?_ (by assumption) | with_reducible refine gr_set ?_ ?_ _ | (simp; done) | omega | (simp; omega)))))⟩) (first | (go_at_call 102; refine (next_any k a len cap zs _ _ (Src.below S5.out (by (repeat' (first | with_reducible exact Below.refl _ _ | with_reducible assumption | with_reducible refine gr_alloc ?_ _ | with_reducible refine gr_drew ?_ | with_reducible refine gr_drewN ?_ _ | with_reducible refine gr_trans ?_ (by assumption) | with_reducible refine gr_set ?_ ?_ _ | (simp; done) | omega | (simp; omega)))))).mono ?_; rintro e w6 ⟨t, rfl, ht0, ht1, S6, G6⟩; obtain ⟨i, rfl⟩ : ∃ i : Nat, t = i := ⟨t.toNat, (by omega)⟩; have hi : i < sn := (by omega); have hi1 : (0 : Int) ≤ (i : Int) := (by omega); have hi2 : (i : Int) < (sn : Int) := (by omega); have X6 := Arr.gk (X5.next (by (repeat' (first | with_reducible exact Below.refl _ _ | with_reducible assumption | with_reducible refine gr_alloc ?_ _ | with_reducible refine gr_drew ?_ | with_reducible refine gr_drewN ?_ _ | with_reducible refine gr_trans ?_ (by assumption) | with_reducible refine gr_set ?_ ?_ _ | (simp; done) | omega | (simp; omega))))) G6 (by omega); have R6 := Arr.gk (R5.next (by (repeat' (first | with_reducible exact Below.refl _ _ | with_reducible assumption | with_reducible refine gr_alloc ?_ _ | with_reducible refine gr_drew ?_ | with_reducible refine gr_drewN ?_ _ | with_reducible refine gr_trans ?_ (by assumption) | with_reducible refine gr_set ?_ ?_ _ | (simp; done) | omega | (simp; omega))))) G6 (by omega); have L6 := Rd.gkL (L5.next (by (repeat' (first | with_reducible exact Below.refl _ _ | with_reducible assumption | with_reducible refine gr_alloc ?_ _ | with_reducible refine gr_drew ?_ | with_reducible refine gr_drewN ?_ _ | with_reducible refine gr_trans ?_ (by assumption) | with_reducible refine gr_set ?_ ?_ _ | (simp; done) | omega | (simp; omega))))) G6 (by omega); have U6 := Gk.out (gr_trans U5 (by (repeat' (first | with_reducible exact Below.refl _ _ | with_reducible assumption | with_reducible refine gr_alloc ?_ _ | with_reducible refine gr_drew ?_ | with_reducible refine gr_drewN ?_ _ | with_reducible refine gr_trans ?_ (by assumption) | with_reducible refine gr_set ?_ ?_ _ | (simp; done) | omega | (simp; omega))))) G6 (by omega); have hcl := lstS L6 i hi; obtain ⟨_, y0, y1, y2, y3, _⟩ := id X6; obtain ⟨_, r0, r1, r2, r3, f0, f1, f2, f3⟩ := id R6))
        all_goals (go_wp2_with fail; refine bodyPost_ret (res_FNN (e := 2) rfl Tryd.underlying25 (by kernel_rfl) rfl rfl rfl (by (repeat (first | with_reducible assumption | with_reducible exact Arr.box (by assumption) | with_reducible exact Box.new _ _ _ _ _ _ | with_reducible exact Arr.new _ _ _ _ _ _ | with_reducible refine Arr.drew ?_ | with_reducible refine Arr.drewN ?_ _ | with_reducible refine Arr.store4 ?_ | with_reducible refine Arr.alloc ?_ _ | with_reducible refine Box.drew ?_ | with_reducible refine Box.drewN ?_ _ | with_reducible refine Box.alloc ?_ _ | with_reducible refine Arr.next ?_ (by assumption) | with_reducible refine Box.next ?_ (by assumption) | refine Arr.oth ?_ (by first | (simp; done) | omega | (simp; omega)) _ | refine Box.oth ?_ (by first | (simp; done) | omega | (simp; omega)) _ | with_reducible exact Arr3.box (by assumption) | with_reducible exact Box3.new _ _ _ _ _ | with_reducible exact Arr3.new _ _ _ _ _ | with_reducible refine Arr3.drew ?_ | with_reducible refine Arr3.drewN ?_ _ | with_reducible refine Arr3.store3 ?_ | with_reducible refine Arr3.alloc ?_ _ | with_reducible refine Box3.drew ?_ | with_reducible refine Box3.drewN ?_ _ | with_reducible refine Box3.alloc ?_ _ | with_reducible refine Arr3.next ?_ (by assumption) | with_reducible refine Box3.next ?_ (by assumption) | refine Arr3.oth ?_ (by first | (simp; done) | omega | (simp; omega)) _ | refine Box3.oth ?_ (by first | (simp; done) | omega | (simp; omega)) _)))) rfl ?_; exact ⟨_, _, _, _, _, _, rfl, by (repeat' (first | with_reducible exact Below.refl _ _ | with_reducible assumption | with_reducible refine gr_alloc ?_ _ | with_reducible refine gr_drew ?_ | with_reducible refine gr_drewN ?_ _ | with_reducible refine gr_trans ?_ (by assumption) | with_reducible refine gr_set ?_ ?_ _ | (simp; done) | omega | (simp; omega)))⟩)
    case rest =>
      obtain ⟨S6, X6, R6, U6⟩ := hcut
      clear S5 X5 R5 U5 G5 hbb HVV hsn'
      obtain ⟨_, x0, x1, x2, x3, _⟩ := id X6
      go_upto_region 6 with fail
      go_cut [53] (fun s53 wx => ∃ bb : Bool, s53 = .bool bb ∧ (bb = true → fc = 0) ∧ Hid (Src wx k a len cap zs) ∧ Arr wx j p q r s ∧ Arr wx w.heap.size 0 0 0 0 ∧ Below w.heap.size w wx)
      case first =>
        go_wp2_with fail
        refine (HC.out _).mono ?_
        rintro e w7 ⟨rfl, hb7⟩
        have S7 := hid (S6.out.below hb7)
        have X7 := X6.next hb7
        have R7 := R6.next hb7
        have U7 := gr_trans U6 hb7
        clear S6 X6 R6 U6 x0 x1 x2 x3 hb7
        by_cases hfc : fc = 0
        · have hft : (fc == 0) = true := by simpa using hfc
          have HFC := hid hfc
          clear hfc
          go_wp2_with fail
          refine (next_any k a len cap zs _ _ S7.out).mono ?_
          rintro e w8 ⟨y, rfl, _, _, S8', G8⟩
          have S8 := hid S8'
          have X8 := X7.gk G8 (by omega)
          have R8 := R7.gk G8 (by omega)
          have U8 := Gk.out U7 G8 (by omega)
          clear S7 X7 R7 U7 S8' G8
          go_wp2_with fail
          go_meet
          exact ⟨_, rfl, fun _ => HFC.out, S8, X8, R8, U8⟩
        · have hft : (fc == 0) = false := by simpa using hfc
          go_wp2_with fail
          go_meet
          exact ⟨false, rfl, (fun h => by cases h), S7, X7, R7, U7⟩
      case rest =>
        obtain ⟨bb, rfl, hbb, S7, X7, R7, U7⟩ := hcut
        clear S6 X6 R6 U6 x0 x1 x2 x3
        go_upto_if 53 with (fail)
        go_cut [] (fun wx => Hid (Src wx k a len cap zs) ∧ Arr wx j p q r s ∧ Arr wx w.heap.size 0 0 0 0 ∧ Below w.heap.size w wx)
        case first =>
          cases bb with
          | false =>
            go_wp2_with fail
            go_meet
            exact ⟨S7, X7, R7, U7⟩
          | true =>
            have hfc := hbb rfl
            have HRF := hid (HR.out hfc)
            have h98 := HRL.out hfc
            clear hfc hbb
            generalize (fun i => RL.getD i 0) = gr at HRF
            generalize RL.length = rn at HRF h98
            obtain ⟨_, x0, x1, x2, x3, _⟩ := id X7
            go_wp2_with fail
            refine (HRF.out _).mono ?_
            rintro e w8 ⟨v2, rfl, hV2, hb8⟩
            have hS7 := S7.out.lt
            have S8 := hid (S7.out.below hb8)
            have X8 := X7.next hb8
            have R8 := R7.next hb8
            have U8 := gr_trans U7 hb8
            clear S7 X7 R7 U7 hb8 x0 x1 x2 x3 HRF
            by_cases hln : 0 < rn
            · have hlt : decide ((0 : Int) < (rn : Int)) = true := by simp; omega
              obtain ⟨_, h0⟩ | ⟨b, cp, rfl, hbB, hbs, hc1, hc2, hat⟩ := hV2
              · omega
              have hc2' := hc2
              unfold maxLen at hc2
              have L8 : Rd _ (.slice (some ⟨b, 0, none⟩) rn cp) rn gr := .inr ⟨b, cp, rfl, hc1, hc2', hbs, fun i hi => (hat i hi).1⟩
              clear hat hc2'
              obtain ⟨_, x0, x1, x2, x3, _⟩ := id X8
              obtain ⟨_, q0, q1, q2, q3, g0, g1, g2, g3⟩ := id R8
              have hX8 := X8.lt
              have hS8 := S8.out.lt
              go_upto_region 9 with fail
              go_region_held3 (fun W => (W.cell? ⟨j, 0, none⟩ = some (.int .i64 p) ∧ W.cell? ⟨j, 1, none⟩ = some (.int .i64 q) ∧ W.cell? ⟨j, 2, none⟩ = some (.int .i64 r) ∧ W.cell? ⟨j, 3, none⟩ = some (.int .i64 s)) ∧ ∀ i, i < rn → W.cell? ⟨b, i, none⟩ = some (.int .i64 (gr i))) (first | with_reducible assumption | exact ⟨cells4 (by assumption), lstS (by assumption)⟩ | exact ⟨cells4 (by (repeat (first | with_reducible assumption | with_reducible exact Arr.box (by assumption) | with_reducible exact Box.new _ _ _ _ _ _ | with_reducible exact Arr.new _ _ _ _ _ _ | with_reducible refine Arr.drew ?_ | with_reducible refine Arr.drewN ?_ _ | with_reducible refine Arr.store4 ?_ | with_reducible refine Arr.alloc ?_ _ | with_reducible refine Box.drew ?_ | with_reducible refine Box.drewN ?_ _ | with_reducible refine Box.alloc ?_ _ | with_reducible refine Arr.next ?_ (by assumption) | with_reducible refine Box.next ?_ (by assumption) | refine Arr.oth ?_ (by first | (simp; done) | omega | (simp; omega)) _ | refine Box.oth ?_ (by first | (simp; done) | omega | (simp; omega)) _ | with_reducible exact Arr3.box (by assumption) | with_reducible exact Box3.new _ _ _ _ _ | with_reducible exact Arr3.new _ _ _ _ _ | with_reducible refine Arr3.drew ?_ | with_reducible refine Arr3.drewN ?_ _ | with_reducible refine Arr3.store3 ?_ | with_reducible refine Arr3.alloc ?_ _ | with_reducible refine Box3.drew ?_ | with_reducible refine Box3.drewN ?_ _ | with_reducible refine Box3.alloc ?_ _ | with_reducible refine Arr3.next ?_ (by assumption) | with_reducible refine Box3.next ?_ (by assumption) | refine Arr3.oth ?_ (by first | (simp; done) | omega | (simp; omega)) _ | refine Box3.oth ?_ (by first | (simp; done) | omega | (simp; omega)) _))), lstS (by assumption)⟩ | exact ⟨cells4 (by (repeat (first | with_reducible assumption | with_reducible exact Arr.box (by assumption) | with_reducible exact Box.new _ _ _ _ _ _ | with_reducible exact Arr.new _ _ _ _ _ _ | with_reducible refine Arr.drew ?_ | with_reducible refine Arr.drewN ?_ _ | with_reducible refine Arr.store4 ?_ | with_reducible refine Arr.alloc ?_ _ | with_reducible refine Box.drew ?_ | with_reducible refine Box.drewN ?_ _ | with_reducible refine Box.alloc ?_ _ | with_reducible refine Arr.next ?_ (by assumption) | with_reducible refine Box.next ?_ (by assumption) | refine Arr.oth ?_ (by first | (simp; done) | omega | (simp; omega)) _ | refine Box.oth ?_ (by first | (simp; done) | omega | (simp; omega)) _ | with_reducible exact Arr3.box (by assumption) | with_reducible exact Box3.new _ _ _ _ _ | with_reducible exact Arr3.new _ _ _ _ _ | with_reducible refine Arr3.drew ?_ | with_reducible refine Arr3.drewN ?_ _ | with_reducible refine Arr3.store3 ?_ | with_reducible refine Arr3.alloc ?_ _ | with_reducible refine Box3.drew ?_ | with_reducible refine Box3.drewN ?_ _ | with_reducible refine Box3.alloc ?_ _ | with_reducible refine Arr3.next ?_ (by assumption) | with_reducible refine Box3.next ?_ (by assumption) | refine Arr3.oth ?_ (by first | (simp; done) | omega | (simp; omega)) _ | refine Box3.oth ?_ (by first | (simp; done) | omega | (simp; omega)) _))), lstS (Rd.set4 (by assumption) (by omega))⟩ | exact ⟨cells4 (by (repeat (first | with_reducible assumption | with_reducible exact Arr.box (by assumption) | with_reducible exact Box.new _ _ _ _ _ _ | with_reducible exact Arr.new _ _ _ _ _ _ | with_reducible refine Arr.drew ?_ | with_reducible refine Arr.drewN ?_ _ | with_reducible refine Arr.store4 ?_ | with_reducible refine Arr.alloc ?_ _ | with_reducible refine Box.drew ?_ | with_reducible refine Box.drewN ?_ _ | with_reducible refine Box.alloc ?_ _ | with_reducible refine Arr.next ?_ (by assumption) | with_reducible refine Box.next ?_ (by assumption) | refine Arr.oth ?_ (by first | (simp; done) | omega | (simp; omega)) _ | refine Box.oth ?_ (by first | (simp; done) | omega | (simp; omega)) _ | with_reducible exact Arr3.box (by assumption) | with_reducible exact Box3.new _ _ _ _ _ | with_reducible exact Arr3.new _ _ _ _ _ | with_reducible refine Arr3.drew ?_ | with_reducible refine Arr3.drewN ?_ _ | with_reducible refine Arr3.store3 ?_ | with_reducible refine Arr3.alloc ?_ _ | with_reducible refine Box3.drew ?_ | with_reducible refine Box3.drewN ?_ _ | with_reducible refine Box3.alloc ?_ _ | with_reducible refine Arr3.next ?_ (by assumption) | with_reducible refine Box3.next ?_ (by assumption) | refine Arr3.oth ?_ (by first | (simp; done) | omega | (simp; omega)) _ | refine Box3.oth ?_ (by first | (simp; done) | omega | (simp; omega)) _))), lstS (Rd.next (by assumption) (by (repeat' (first | with_reducible exact Below.refl _ _ | with_reducible assumption | with_reducible refine gr_alloc ?_ _ | with_reducible refine gr_drew ?_ | with_reducible refine gr_drewN ?_ _ | with_reducible refine gr_trans ?_ (by assumption) | with_reducible refine gr_set ?_ ?_ _ | (simp; done) | omega | (simp; omega)))))⟩) (first | (go_at_call 102; refine (next_any k a len cap zs _ _ (Src.below S8.out (by (repeat' (first | with_reducible exact Below.refl _ _ | with_reducible assumption | with_reducible refine gr_alloc ?_ _ | with_reducible refine gr_drew ?_ | with_reducible refine gr_drewN ?_ _ | with_reducible refine gr_trans ?_ (by assumption) | with_reducible refine gr_set ?_ ?_ _ | (simp; done) | omega | (simp; omega)))))).mono ?_; rintro e w6 ⟨t, rfl, ht0, ht1, S6, G6⟩; obtain ⟨i, rfl⟩ : ∃ i : Nat, t = i := ⟨t.toNat, (by omega)⟩; have hi : i < rn := (by omega); have hi1 : (0 : Int) ≤ (i : Int) := (by omega); have hi2 : (i : Int) < (rn : Int) := (by omega); have X6 := Arr.gk (X8.next (by (repeat' (first | with_reducible exact Below.refl _ _ | with_reducible assumption | with_reducible refine gr_alloc ?_ _ | with_reducible refine gr_drew ?_ | with_reducible refine gr_drewN ?_ _ | with_reducible refine gr_trans ?_ (by assumption) | with_reducible refine gr_set ?_ ?_ _ | (simp; done) | omega | (simp; omega))))) G6 (by omega); have R6 := Arr.gk (R8.next (by (repeat' (first | with_reducible exact Below.refl _ _ | with_reducible assumption | with_reducible refine gr_alloc ?_ _ | with_reducible refine gr_drew ?_ | with_reducible refine gr_drewN ?_ _ | with_reducible refine gr_trans ?_ (by assumption) | with_reducible refine gr_set ?_ ?_ _ | (simp; done) | omega | (simp; omega))))) G6 (by omega); have L6 := Rd.gkL (L8.next (by (repeat' (first | with_reducible exact Below.refl _ _ | with_reducible assumption | with_reducible refine gr_alloc ?_ _ | with_reducible refine gr_drew ?_ | with_reducible refine gr_drewN ?_ _ | with_reducible refine gr_trans ?_ (by assumption) | with_reducible refine gr_set ?_ ?_ _ | (simp; done) | omega | (simp; omega))))) G6 (by omega); have U6 := Gk.out (gr_trans U8 (by (repeat' (first | with_reducible exact Below.refl _ _ | with_reducible assumption | with_reducible refine gr_alloc ?_ _ | with_reducible refine gr_drew ?_ | with_reducible refine gr_drewN ?_ _ | with_reducible refine gr_trans ?_ (by assumption) | with_reducible refine gr_set ?_ ?_ _ | (simp; done) | omega | (simp; omega))))) G6 (by omega); have hcl := lstS L6 i hi; obtain ⟨_, y0, y1, y2, y3, _⟩ := id X6; obtain ⟨_, r0, r1, r2, r3, f0, f1, f2, f3⟩ := id R6))
              all_goals (go_wp2_with fail; refine bodyPost_ret (res_FNN (e := 2) rfl Tryd.underlying25 (by kernel_rfl) rfl rfl rfl (by (repeat (first | with_reducible assumption | with_reducible exact Arr.box (by assumption) | with_reducible exact Box.new _ _ _ _ _ _ | with_reducible exact Arr.new _ _ _ _ _ _ | with_reducible refine Arr.drew ?_ | with_reducible refine Arr.drewN ?_ _ | with_reducible refine Arr.store4 ?_ | with_reducible refine Arr.alloc ?_ _ | with_reducible refine Box.drew ?_ | with_reducible refine Box.drewN ?_ _ | with_reducible refine Box.alloc ?_ _ | with_reducible refine Arr.next ?_ (by assumption) | with_reducible refine Box.next ?_ (by assumption) | refine Arr.oth ?_ (by first | (simp; done) | omega | (simp; omega)) _ | refine Box.oth ?_ (by first | (simp; done) | omega | (simp; omega)) _ | with_reducible exact Arr3.box (by assumption) | with_reducible exact Box3.new _ _ _ _ _ | with_reducible exact Arr3.new _ _ _ _ _ | with_reducible refine Arr3.drew ?_ | with_reducible refine Arr3.drewN ?_ _ | with_reducible refine Arr3.store3 ?_ | with_reducible refine Arr3.alloc ?_ _ | with_reducible refine Box3.drew ?_ | with_reducible refine Box3.drewN ?_ _ | with_reducible refine Box3.alloc ?_ _ | with_reducible refine Arr3.next ?_ (by assumption) | with_reducible refine Box3.next ?_ (by assumption) | refine Arr3.oth ?_ (by first | (simp; done) | omega | (simp; omega)) _ | refine Box3.oth ?_ (by first | (simp; done) | omega | (simp; omega)) _)))) rfl ?_; exact ⟨_, _, _, _, _, _, rfl, by (repeat' (first | with_reducible exact Below.refl _ _ | with_reducible assumption | with_reducible refine gr_alloc ?_ _ | with_reducible refine gr_drew ?_ | with_reducible refine gr_drewN ?_ _ | with_reducible refine gr_trans ?_ (by assumption) | with_reducible refine gr_set ?_ ?_ _ | (simp; done) | omega | (simp; omega)))⟩)
            · have hlt : decide ((0 : Int) < (rn : Int)) = false := by simp; omega
              obtain ⟨a2, c2, rfl⟩ := rd_sl hV2.rd
              clear hV2
              go_wp2_with fail
              go_meet
              exact ⟨S8, X8, R8, U8⟩
        case rest =>
          obtain ⟨S8, X8, R8, U8⟩ := hcut
          clear S7 X7 R7 U7 hbb HR HC HRL HL98
          obtain ⟨_, x0, x1, x2, x3, _⟩ := id X8
          obtain ⟨_, q0, q1, q2, q3, g0, g1, g2, g3⟩ := id R8
          have hX8 := X8.lt
          have hS8 := S8.out.lt
          go_upto_region 10 with fail
          go_region_held3 (fun W => W.cell? ⟨j, 0, none⟩ = some (.int .i64 p) ∧ W.cell? ⟨j, 1, none⟩ = some (.int .i64 q) ∧ W.cell? ⟨j, 2, none⟩ = some (.int .i64 r) ∧ W.cell? ⟨j, 3, none⟩ = some (.int .i64 s)) (first | with_reducible assumption | exact cells4 (by assumption) | exact cells4 (by (repeat (first | with_reducible assumption | with_reducible exact Arr.box (by assumption) | with_reducible exact Box.new _ _ _ _ _ _ | with_reducible exact Arr.new _ _ _ _ _ _ | with_reducible refine Arr.drew ?_ | with_reducible refine Arr.drewN ?_ _ | with_reducible refine Arr.store4 ?_ | with_reducible refine Arr.alloc ?_ _ | with_reducible refine Box.drew ?_ | with_reducible refine Box.drewN ?_ _ | with_reducible refine Box.alloc ?_ _ | with_reducible refine Arr.next ?_ (by assumption) | with_reducible refine Box.next ?_ (by assumption) | refine Arr.oth ?_ (by first | (simp; done) | omega | (simp; omega)) _ | refine Box.oth ?_ (by first | (simp; done) | omega | (simp; omega)) _ | with_reducible exact Arr3.box (by assumption) | with_reducible exact Box3.new _ _ _ _ _ | with_reducible exact Arr3.new _ _ _ _ _ | with_reducible refine Arr3.drew ?_ | with_reducible refine Arr3.drewN ?_ _ | with_reducible refine Arr3.store3 ?_ | with_reducible refine Arr3.alloc ?_ _ | with_reducible refine Box3.drew ?_ | with_reducible refine Box3.drewN ?_ _ | with_reducible refine Box3.alloc ?_ _ | with_reducible refine Arr3.next ?_ (by assumption) | with_reducible refine Box3.next ?_ (by assumption) | refine Arr3.oth ?_ (by first | (simp; done) | omega | (simp; omega)) _ | refine Box3.oth ?_ (by first | (simp; done) | omega | (simp; omega)) _)))) (first | (go_at_call_of 102 (Value.int .i64 24); refine (next_any k a len cap zs _ _ (Src.below S8.out (by (repeat' (first | with_reducible exact Below.refl _ _ | with_reducible assumption | with_reducible refine gr_alloc ?_ _ | with_reducible refine gr_drew ?_ | with_reducible refine gr_drewN ?_ _ | with_reducible refine gr_trans ?_ (by assumption) | with_reducible refine gr_set ?_ ?_ _ | (simp; done) | omega | (simp; omega)))))).mono ?_; rintro e w5 ⟨t, rfl, ht0, ht1, S5, G5⟩; have X5 := Arr.gk (X8.next (by (repeat' (first | with_reducible exact Below.refl _ _ | with_reducible assumption | with_reducible refine gr_alloc ?_ _ | with_reducible refine gr_drew ?_ | with_reducible refine gr_drewN ?_ _ | with_reducible refine gr_trans ?_ (by assumption) | with_reducible refine gr_set ?_ ?_ _ | (simp; done) | omega | (simp; omega))))) G5 (by omega); have R5 := Arr.gk (R8.next (by (repeat' (first | with_reducible exact Below.refl _ _ | with_reducible assumption | with_reducible refine gr_alloc ?_ _ | with_reducible refine gr_drew ?_ | with_reducible refine gr_drewN ?_ _ | with_reducible refine gr_trans ?_ (by assumption) | with_reducible refine gr_set ?_ ?_ _ | (simp; done) | omega | (simp; omega))))) G5 (by omega); have U5 := Gk.out (gr_trans U8 (by (repeat' (first | with_reducible exact Below.refl _ _ | with_reducible assumption | with_reducible refine gr_alloc ?_ _ | with_reducible refine gr_drew ?_ | with_reducible refine gr_drewN ?_ _ | with_reducible refine gr_trans ?_ (by assumption) | with_reducible refine gr_set ?_ ?_ _ | (simp; done) | omega | (simp; omega))))) G5 (by omega); have ht2 : t ≤ 23 := (by omega)) | (go_at_call 102; refine (next_any k a len cap zs _ _ (Src.below S5 (by (repeat' (first | with_reducible exact Below.refl _ _ | with_reducible assumption | with_reducible refine gr_alloc ?_ _ | with_reducible refine gr_drew ?_ | with_reducible refine gr_drewN ?_ _ | with_reducible refine gr_trans ?_ (by assumption) | with_reducible refine gr_set ?_ ?_ _ | (simp; done) | omega | (simp; omega)))))).mono ?_; rintro e w6 ⟨t2, rfl, ht3, ht4, S6, G6⟩; have X6 := Arr.gk (X5.next (by (repeat' (first | with_reducible exact Below.refl _ _ | with_reducible assumption | with_reducible refine gr_alloc ?_ _ | with_reducible refine gr_drew ?_ | with_reducible refine gr_drewN ?_ _ | with_reducible refine gr_trans ?_ (by assumption) | with_reducible refine gr_set ?_ ?_ _ | (simp; done) | omega | (simp; omega))))) G6 (by omega); have R6 := Arr.gk (R5.next (by (repeat' (first | with_reducible exact Below.refl _ _ | with_reducible assumption | with_reducible refine gr_alloc ?_ _ | with_reducible refine gr_drew ?_ | with_reducible refine gr_drewN ?_ _ | with_reducible refine gr_trans ?_ (by assumption) | with_reducible refine gr_set ?_ ?_ _ | (simp; done) | omega | (simp; omega))))) G6 (by omega); have U6 := Gk.out (gr_trans U5 (by (repeat' (first | with_reducible exact Below.refl _ _ | with_reducible assumption | with_reducible refine gr_alloc ?_ _ | with_reducible refine gr_drew ?_ | with_reducible refine gr_drewN ?_ _ | with_reducible refine gr_trans ?_ (by assumption) | with_reducible refine gr_set ?_ ?_ _ | (simp; done) | omega | (simp; omega))))) G6 (by omega); obtain ⟨_, r0, r1, r2, r3, f0, f1, f2, f3⟩ := id R6))
          all_goals (go_wp2_with fail; refine bodyPost_ret (res_FNN (e := 2) rfl Tryd.underlying25 (by kernel_rfl) rfl rfl rfl (by (repeat (first | with_reducible assumption | with_reducible exact Arr.box (by assumption) | with_reducible exact Box.new _ _ _ _ _ _ | with_reducible exact Arr.new _ _ _ _ _ _ | with_reducible refine Arr.drew ?_ | with_reducible refine Arr.drewN ?_ _ | with_reducible refine Arr.store4 ?_ | with_reducible refine Arr.alloc ?_ _ | with_reducible refine Box.drew ?_ | with_reducible refine Box.drewN ?_ _ | with_reducible refine Box.alloc ?_ _ | with_reducible refine Arr.next ?_ (by assumption) | with_reducible refine Box.next ?_ (by assumption) | refine Arr.oth ?_ (by first | (simp; done) | omega | (simp; omega)) _ | refine Box.oth ?_ (by first | (simp; done) | omega | (simp; omega)) _ | with_reducible exact Arr3.box (by assumption) | with_reducible exact Box3.new _ _ _ _ _ | with_reducible exact Arr3.new _ _ _ _ _ | with_reducible refine Arr3.drew ?_ | with_reducible refine Arr3.drewN ?_ _ | with_reducible refine Arr3.store3 ?_ | with_reducible refine Arr3.alloc ?_ _ | with_reducible refine Box3.drew ?_ | with_reducible refine Box3.drewN ?_ _ | with_reducible refine Box3.alloc ?_ _ | with_reducible refine Arr3.next ?_ (by assumption) | with_reducible refine Box3.next ?_ (by assumption) | refine Arr3.oth ?_ (by first | (simp; done) | omega | (simp; omega)) _ | refine Box3.oth ?_ (by first | (simp; done) | omega | (simp; omega)) _)))) rfl ?_; exact ⟨_, _, _, _, _, _, rfl, by (repeat' (first | with_reducible exact Below.refl _ _ | with_reducible assumption | with_reducible refine gr_alloc ?_ _ | with_reducible refine gr_drew ?_ | with_reducible refine gr_drewN ?_ _ | with_reducible refine gr_trans ?_ (by assumption) | with_reducible refine gr_set ?_ ?_ _ | (simp; done) | omega | (simp; omega)))⟩)

set_option maxRecDepth 100000 in
set_option maxHeartbeats 4000000 in
theorem drawRaF_any (a : Option Addr) (len cap : Nat) (zs : List Int) (w : World) (hR : IsRow .u8 w a len cap zs) (hlen : len ≤ 9223372036854775807) :
    Calls Tryd.prog 8 #[.slice a len cap] w (FNNOut w) := by
  have R0 := Arr.new w 0 0 0 0 25
  have U0 := gr_alloc (Below.refl w.heap.size w) (.cells #[.int .i64 0, .int .i64 0, .int .i64 0, .int .i64 0] 25)
  have hR0 := row8_next hR U0
  clear hR
  go_enter Tryd.func8, Tryd.ntmps8
  go_wp2_with fail
  refine (l06Point_any a len cap zs _ hR0 hlen).mono ?_
  rintro e w1 ⟨p, q, r, s, n, m, rfl, hb1⟩
  have R1 := R0.next hb1
  have U1 := gr_trans U0 hb1
  clear hR0 R0 U0 hb1
  obtain ⟨_, r0, r1, r2, r3, f0, f1, f2, f3⟩ := id R1
  go_wp2_with fail
  refine bodyPost_ret (res_FNN (e := 2) rfl Tryd.underlying25 (by kernel_rfl) rfl rfl rfl (Arr.store4 R1.box)) rfl ?_
  exact ⟨_, _, _, _, _, _, rfl, by (repeat' (first | with_reducible exact Below.refl _ _ | with_reducible assumption | with_reducible refine gr_alloc ?_ _ | with_reducible refine gr_drew ?_ | with_reducible refine gr_drewN ?_ _ | with_reducible refine gr_trans ?_ (by assumption) | with_reducible refine gr_set ?_ ?_ _ | (simp; done) | omega | (simp; omega)))⟩

set_option maxRecDepth 100000 in
set_option maxHeartbeats 4000000 in
theorem drawLoF_any (a : Option Addr) (len cap : Nat) (zs : List Int) (w : World) (hR : IsRow .u8 w a len cap zs) (hlen : len ≤ 9223372036854775807) :
    Calls Tryd.prog 11 #[.slice a len cap] w (FNNOut w) := by
  have R0 := Arr.new w 0 0 0 0 25
  have U0 := gr_alloc (Below.refl w.heap.size w) (.cells #[.int .i64 0, .int .i64 0, .int .i64 0, .int .i64 0] 25)
  have hR0 := row8_next hR U0
  clear hR
  go_enter Tryd.func11, Tryd.ntmps11
  go_wp2_with fail
  refine (l06Point_any a len cap zs _ hR0 hlen).mono ?_
  rintro e w1 ⟨p, q, r, s, n, m, rfl, hb1⟩
  have R1 := R0.next hb1
  have U1 := gr_trans U0 hb1
  clear hR0 R0 U0 hb1
  obtain ⟨_, r0, r1, r2, r3, f0, f1, f2, f3⟩ := id R1
  go_wp2_with fail
  refine bodyPost_ret (res_FNN (e := 2) rfl Tryd.underlying25 (by kernel_rfl) rfl rfl rfl (Arr.store4 R1.box)) rfl ?_
  exact ⟨_, _, _, _, _, _, rfl, by (repeat' (first | with_reducible exact Below.refl _ _ | with_reducible assumption | with_reducible refine gr_alloc ?_ _ | with_reducible refine gr_drew ?_ | with_reducible refine gr_drewN ?_ _ | with_reducible refine gr_trans ?_ (by assumption) | with_reducible refine gr_set ?_ ?_ _ | (simp; done) | omega | (simp; omega)))⟩


end Go.Proofs.YtambbhldhhlfgaaDoor

/- Chapter 1: primitive parts. -/
namespace Go.Proofs.YtambbhldhhlfgaaDoor
open Go.RowKit



end Go.Proofs.YtambbhldhhlfgaaDoor
