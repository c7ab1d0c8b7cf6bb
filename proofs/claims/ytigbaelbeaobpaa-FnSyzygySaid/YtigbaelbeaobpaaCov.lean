/- Chapter 3: the covariant. -/
import Derived.Test.YtigbaelbeaobpaaH
import Derived.Test.YtigbaelbeaobpaaZ8
import Derived.Deep.RegionHeld3
import Derived.Deep.DeepCutAuto
namespace Go.Proofs.Ytigbaelbeaobpaa
open Go.RowKit

/-- The four numbers of the covariant, out of the form's and the Hessian's. -/
def k1 (a b P Q : Int) : Int := mi (mu (mu 3 a) Q) (mu (mu 2 b) P)
def k2 (a b c P Q R : Int) : Int := mi (pl (mu (mu 6 a) R) (mu b Q)) (mu (mu 4 c) P)
def k3 (b c d P Q R : Int) : Int := mi (mi (mu (mu 4 b) R) (mu c Q)) (mu (mu 6 d) P)
def k4 (c d Q R : Int) : Int := mi (mu (mu 2 c) R) (mu (mu 3 d) Q)
def cc1 (a b c d : Int) : Int := k1 a b (h1 a b c) (h2 a b c d)
def cc2 (a b c d : Int) : Int := k2 a b c (h1 a b c) (h2 a b c d) (h3 b c d)
def cc3 (a b c d : Int) : Int := k3 b c d (h1 a b c) (h2 a b c d) (h3 b c d)
def cc4 (a b c d : Int) : Int := k4 c d (h2 a b c d) (h3 b c d)

set_option maxRecDepth 100000 in
set_option maxHeartbeats 2000000 in
theorem iCovF_any (a b c d : Int) (w : World) :
    Calls Try.prog 47 #[.agg #[.int .i64 a, .int .i64 b, .int .i64 c, .int .i64 d]] w fun e w' => e = .returned (.agg #[.int .i64 (cc1 a b c d), .int .i64 (cc2 a b c d), .int .i64 (cc3 a b c d), .int .i64 (cc4 a b c d)]) ∧ Below w.heap.size w w' := by
  have hc : ∀ W, Calls Try.prog 65 #[.agg #[.int .i64 a, .int .i64 b, .int .i64 c, .int .i64 d]] W fun e w' => e = .returned (.tuple #[.int .i64 (h1 a b c), .int .i64 (h2 a b c d), .int .i64 (h3 b c d)]) ∧ Below W.heap.size W w' := fun W => iHess_any a b c d W
  unfold cc1 cc2 cc3 cc4
  generalize h1 a b c = P at hc ⊢
  generalize h2 a b c d = Q at hc ⊢
  generalize h3 b c d = R at hc ⊢
  have HC := hid hc
  clear hc
  have A0 := (Arr.new w a b c d 25).alloc (.cells #[.int .i64 0, .int .i64 0, .int .i64 0, .int .i64 0] 25)
  have R0 := Arr.new (w.alloc (.cells #[.int .i64 a, .int .i64 b, .int .i64 c, .int .i64 d] 25)) 0 0 0 0 25
  have U0 := gr_alloc (gr_alloc (Below.refl w.heap.size w) (.cells #[.int .i64 a, .int .i64 b, .int .i64 c, .int .i64 d] 25)) (.cells #[.int .i64 0, .int .i64 0, .int .i64 0, .int .i64 0] 25)
  simp only [World.size_alloc] at R0
  go_enter Try.func47, Try.ntmps47
  go_upto_region 1 with fail
  generalize (w.alloc (.cells #[.int .i64 a, .int .i64 b, .int .i64 c, .int .i64 d] 25)).alloc (.cells #[.int .i64 0, .int .i64 0, .int .i64 0, .int .i64 0] 25) = W0 at A0 R0 U0 ⊢
  obtain ⟨_, a0, a1, a2, a3, _⟩ := id A0
  go_quiet (fail)
  go_wp2_with fail
  refine (HC.out _).mono ?_
  rintro e w1 ⟨rfl, hb1⟩
  have R1 := (R0.drewN _).next hb1
  have U1 := gr_trans (gr_drewN U0 _) hb1
  clear A0 R0 U0 a0 a1 a2 a3
  obtain ⟨_, r0, r1, r2, r3, f0, f1, f2, f3⟩ := id R1
  go_wp2
  refine bodyPost_ret (res_A1 (e := 2) rfl Try.underlying25 (by kernel_rfl) rfl (by (repeat (first | with_reducible assumption | with_reducible exact Arr.box (by assumption) | with_reducible exact Box.new _ _ _ _ _ _ | with_reducible exact Arr.new _ _ _ _ _ _ | with_reducible refine Arr.drew ?_ | with_reducible refine Arr.drewN ?_ _ | with_reducible refine Arr.store4 ?_ | with_reducible refine Arr.alloc ?_ _ | with_reducible refine Box.drew ?_ | with_reducible refine Box.drewN ?_ _ | with_reducible refine Box.alloc ?_ _ | with_reducible refine Arr.next ?_ (by assumption) | with_reducible refine Box.next ?_ (by assumption) | refine Arr.oth ?_ (by first | (simp; done) | omega | (simp; omega)) _ | refine Box.oth ?_ (by first | (simp; done) | omega | (simp; omega)) _)))) rfl ?_
  exact ⟨rfl, by (repeat' (first | with_reducible exact Below.refl _ _ | with_reducible assumption | with_reducible refine gr_alloc ?_ _ | with_reducible refine gr_drew ?_ | with_reducible refine gr_drewN ?_ _ | with_reducible refine gr_trans ?_ (by assumption) | with_reducible refine gr_set ?_ ?_ _ | (simp; done) | omega | (simp; omega)))⟩

set_option maxRecDepth 100000 in
set_option maxHeartbeats 1000000 in
theorem iCovariantOf_any (a b c d : Int) (w : World) :
    Calls Try.prog 22 #[.agg #[.int .i64 a, .int .i64 b, .int .i64 c, .int .i64 d]] w (LstOut (cif a b c d) 4 (q4 (cc1 a b c d) (cc2 a b c d) (cc3 a b c d) (cc4 a b c d)) w) := by
  have hc := fun W => iCovF_any a b c d W
  generalize cc1 a b c d = x at hc ⊢
  generalize cc2 a b c d = y at hc ⊢
  generalize cc3 a b c d = z at hc ⊢
  generalize cc4 a b c d = u at hc ⊢
  have HC := hid hc
  clear hc
  go_enter Try.func22, Try.ntmps22
  go_wp2_with fail
  refine (iIsForm_any a b c d _).mono ?_
  rintro e w1 ⟨rfl, hb1⟩
  have A1 := (Arr.new w a b c d 25).next hb1
  obtain ⟨_, c0, c1, c2, c3, _⟩ := id A1
  by_cases hm : isF a b c d = true
  · go_wp2_with fail
    refine (HC.out _).mono ?_
    rintro e w2 ⟨rfl, hb2⟩
    have V := Arr.new w2 x y z u 25
    have hz := hb2.size
    have hz1 := hb1.size
    simp only [World.size_alloc] at hz1
    go_wp2
    go_ret2
    have k0 : cif a b c d = 0 := by simp [cif, hm]
    rw [k0]
    exact ⟨_, rfl, OwnV.arr V (by omega), by (repeat' (first | with_reducible exact Below.refl _ _ | with_reducible assumption | with_reducible refine gr_alloc ?_ _ | with_reducible refine gr_drew ?_ | with_reducible refine gr_drewN ?_ _ | with_reducible refine gr_trans ?_ (by assumption) | with_reducible refine gr_set ?_ ?_ _ | (simp; done) | omega | (simp; omega)))⟩
  · have hm' : isF a b c d = false := by simpa using hm
    clear hm
    go_wp2
    go_ret2
    have k0 : cif a b c d = 1 := by simp [cif, hm']
    rw [k0]
    exact ⟨_, rfl, .inl ⟨rfl, by simp⟩, by (repeat' (first | with_reducible exact Below.refl _ _ | with_reducible assumption | with_reducible refine gr_alloc ?_ _ | with_reducible refine gr_drew ?_ | with_reducible refine gr_drewN ?_ _ | with_reducible refine gr_trans ?_ (by assumption) | with_reducible refine gr_set ?_ ?_ _ | (simp; done) | omega | (simp; omega)))⟩

set_option maxRecDepth 100000 in
set_option maxHeartbeats 1000000 in
theorem iCovAt_any (a b c d x y : Int) (w : World) :
    Calls Try.prog 9 #[.agg #[.int .i64 a, .int .i64 b, .int .i64 c, .int .i64 d], .int .i64 x, .int .i64 y] w fun e w' => e = .returned (.tuple #[.int .i64 (if0 (plcn 100 a b c d x y) (vl (cc1 a b c d) (cc2 a b c d) (cc3 a b c d) (cc4 a b c d) x y)), .int .i64 (plcn 100 a b c d x y)]) ∧ Below w.heap.size w w' := by
  have hc := fun W => iCovF_any a b c d W
  generalize cc1 a b c d = x1 at hc ⊢
  generalize cc2 a b c d = x2 at hc ⊢
  generalize cc3 a b c d = x3 at hc ⊢
  generalize cc4 a b c d = x4 at hc ⊢
  have hp := fun W => iPlaceN_any a b c d x y 100 W (by omega) (by omega)
  generalize plcn 100 a b c d x y = k at hp ⊢
  have HC := hid hc
  have HP := hid hp
  clear hc hp
  go_enter Try.func9, Try.ntmps9
  go_wp2_with fail
  refine (HP.out _).mono ?_
  rintro e w1 ⟨rfl, hb1⟩
  obtain ⟨_, c0, c1, c2, c3, _⟩ := (Arr.new w a b c d 25).next hb1
  by_cases hk : k = 0
  · subst hk
    go_wp2_with fail
    refine (HC.out _).mono ?_
    rintro e w2 ⟨rfl, hb2⟩
    go_wp2_with fail
    refine (iFormValue_any x1 x2 x3 x4 x y _).mono ?_
    rintro e w3 ⟨rfl, hb3⟩
    go_wp2
    go_ret2
    exact ⟨ret_tup2 (by simp [if0]) rfl, by (repeat' (first | with_reducible exact Below.refl _ _ | with_reducible assumption | with_reducible refine gr_alloc ?_ _ | with_reducible refine gr_drew ?_ | with_reducible refine gr_drewN ?_ _ | with_reducible refine gr_trans ?_ (by assumption) | with_reducible refine gr_set ?_ ?_ _ | (simp; done) | omega | (simp; omega)))⟩
  · have hk' : (k == 0) = false := by simpa using hk
    have HK := hid hk
    clear hk
    go_wp2
    go_ret2
    exact ⟨ret_tup2 (by simp [if0, HK.out]) rfl, by (repeat' (first | with_reducible exact Below.refl _ _ | with_reducible assumption | with_reducible refine gr_alloc ?_ _ | with_reducible refine gr_drew ?_ | with_reducible refine gr_drewN ?_ _ | with_reducible refine gr_trans ?_ (by assumption) | with_reducible refine gr_set ?_ ?_ _ | (simp; done) | omega | (simp; omega)))⟩

set_option maxRecDepth 100000 in
set_option maxHeartbeats 4000000 in
theorem sCov0_any (a b c d : Int) (w : World) :
    Calls Try.prog 43 #[.agg #[.int .i64 a, .int .i64 b, .int .i64 c, .int .i64 d]] w fun e w' => ∃ k, e = .returned (.slice (some ⟨k, 0, none⟩) 4 4) ∧ w.heap.size ≤ k ∧ Arr w' k (cc1 a b c d) (cc2 a b c d) (cc3 a b c d) (cc4 a b c d) ∧ Below w.heap.size w w' := by
  have hc := fun W => sHess0_any a b c d W
  unfold cc1 cc2 cc3 cc4
  generalize h1 a b c = P at hc ⊢
  generalize h2 a b c d = Q at hc ⊢
  generalize h3 b c d = R at hc ⊢
  have HC := hid hc
  clear hc
  have A0 := Arr.new w a b c d 25
  have U0 := gr_alloc (Below.refl w.heap.size w) (.cells #[.int .i64 a, .int .i64 b, .int .i64 c, .int .i64 d] 25)
  go_enter Try.func43, Try.ntmps43
  go_upto_region 1 with fail
  generalize w.alloc (.cells #[.int .i64 a, .int .i64 b, .int .i64 c, .int .i64 d] 25) = W0 at A0 U0 ⊢
  obtain ⟨_, a0, a1, a2, a3, _⟩ := id A0
  go_cut [3, 4, 5, 6, 7] (fun s3 s4 s5 s6 s7 wx => ∃ g : Nat, s3 = .int .i64 a ∧ s4 = .int .i64 b ∧ s5 = .int .i64 c ∧ s6 = .int .i64 d ∧ s7 = .pointer (some ⟨g, 0, none⟩) ∧ Arr3 wx g P Q R ∧ Below w.heap.size w wx)
  case first =>
    go_region_held3 (fun W => W.cell? ⟨w.heap.size, 0, none⟩ = some (.int .i64 a) ∧ W.cell? ⟨w.heap.size, 1, none⟩ = some (.int .i64 b) ∧ W.cell? ⟨w.heap.size, 2, none⟩ = some (.int .i64 c) ∧ W.cell? ⟨w.heap.size, 3, none⟩ = some (.int .i64 d)) (refine cells4 ?_ <;> (repeat (first | with_reducible assumption | with_reducible exact Arr.box (by assumption) | with_reducible exact Box.new _ _ _ _ _ _ | with_reducible exact Arr.new _ _ _ _ _ _ | with_reducible refine Arr.drew ?_ | with_reducible refine Arr.drewN ?_ _ | with_reducible refine Arr.store4 ?_ | with_reducible refine Arr.alloc ?_ _ | with_reducible refine Box.drew ?_ | with_reducible refine Box.drewN ?_ _ | with_reducible refine Box.alloc ?_ _ | with_reducible refine Arr.next ?_ (by assumption) | with_reducible refine Box.next ?_ (by assumption) | refine Arr.oth ?_ (by first | (simp; done) | omega | (simp; omega)) _ | refine Box.oth ?_ (by first | (simp; done) | omega | (simp; omega)) _ | with_reducible exact Arr3.box (by assumption) | with_reducible exact Box3.new _ _ _ _ _ | with_reducible exact Arr3.new _ _ _ _ _ | with_reducible refine Arr3.drew ?_ | with_reducible refine Arr3.drewN ?_ _ | with_reducible refine Arr3.store3 ?_ | with_reducible refine Arr3.alloc ?_ _ | with_reducible refine Box3.drew ?_ | with_reducible refine Box3.drewN ?_ _ | with_reducible refine Box3.alloc ?_ _ | with_reducible refine Arr3.next ?_ (by assumption) | with_reducible refine Box3.next ?_ (by assumption) | refine Arr3.oth ?_ (by first | (simp; done) | omega | (simp; omega)) _ | refine Box3.oth ?_ (by first | (simp; done) | omega | (simp; omega)) _))) ((go_at_call 41; refine (HC.out _).mono ?_; rintro e w1 ⟨rfl, hb1⟩; have hz1 := hb1.size; (try simp at hz1); (first | (refine Box3.elim (w := w1) (k := W0.heap.size) ?_ ?_; (repeat (first | with_reducible assumption | with_reducible exact Arr.box (by assumption) | with_reducible exact Box.new _ _ _ _ _ _ | with_reducible exact Arr.new _ _ _ _ _ _ | with_reducible refine Arr.drew ?_ | with_reducible refine Arr.drewN ?_ _ | with_reducible refine Arr.store4 ?_ | with_reducible refine Arr.alloc ?_ _ | with_reducible refine Box.drew ?_ | with_reducible refine Box.drewN ?_ _ | with_reducible refine Box.alloc ?_ _ | with_reducible refine Arr.next ?_ (by assumption) | with_reducible refine Box.next ?_ (by assumption) | refine Arr.oth ?_ (by first | (simp; done) | omega | (simp; omega)) _ | refine Box.oth ?_ (by first | (simp; done) | omega | (simp; omega)) _ | with_reducible exact Arr3.box (by assumption) | with_reducible exact Box3.new _ _ _ _ _ | with_reducible exact Arr3.new _ _ _ _ _ | with_reducible refine Arr3.drew ?_ | with_reducible refine Arr3.drewN ?_ _ | with_reducible refine Arr3.store3 ?_ | with_reducible refine Arr3.alloc ?_ _ | with_reducible refine Box3.drew ?_ | with_reducible refine Box3.drewN ?_ _ | with_reducible refine Box3.alloc ?_ _ | with_reducible refine Arr3.next ?_ (by assumption) | with_reducible refine Box3.next ?_ (by assumption) | refine Arr3.oth ?_ (by first | (simp; done) | omega | (simp; omega)) _ | refine Box3.oth ?_ (by first | (simp; done) | omega | (simp; omega)) _)); intro y0 y1 y2 hR'; obtain ⟨_, x0, x1, x2, g0, g1, g2⟩ := id hR') | skip)))
    all_goals (go_wp2_with fail; go_meet; exact ⟨_, rfl, rfl, rfl, rfl, rfl, by (repeat (first | with_reducible assumption | with_reducible exact Arr.box (by assumption) | with_reducible exact Box.new _ _ _ _ _ _ | with_reducible exact Arr.new _ _ _ _ _ _ | with_reducible refine Arr.drew ?_ | with_reducible refine Arr.drewN ?_ _ | with_reducible refine Arr.store4 ?_ | with_reducible refine Arr.alloc ?_ _ | with_reducible refine Box.drew ?_ | with_reducible refine Box.drewN ?_ _ | with_reducible refine Box.alloc ?_ _ | with_reducible refine Arr.next ?_ (by assumption) | with_reducible refine Box.next ?_ (by assumption) | refine Arr.oth ?_ (by first | (simp; done) | omega | (simp; omega)) _ | refine Box.oth ?_ (by first | (simp; done) | omega | (simp; omega)) _ | with_reducible exact Arr3.box (by assumption) | with_reducible exact Box3.new _ _ _ _ _ | with_reducible exact Arr3.new _ _ _ _ _ | with_reducible refine Arr3.drew ?_ | with_reducible refine Arr3.drewN ?_ _ | with_reducible refine Arr3.store3 ?_ | with_reducible refine Arr3.alloc ?_ _ | with_reducible refine Box3.drew ?_ | with_reducible refine Box3.drewN ?_ _ | with_reducible refine Box3.alloc ?_ _ | with_reducible refine Arr3.next ?_ (by assumption) | with_reducible refine Box3.next ?_ (by assumption) | refine Arr3.oth ?_ (by first | (simp; done) | omega | (simp; omega)) _ | refine Box3.oth ?_ (by first | (simp; done) | omega | (simp; omega)) _)), by (repeat' (first | with_reducible exact Below.refl _ _ | with_reducible assumption | with_reducible refine gr_alloc ?_ _ | with_reducible refine gr_drew ?_ | with_reducible refine gr_drewN ?_ _ | with_reducible refine gr_trans ?_ (by assumption) | with_reducible refine gr_set ?_ ?_ _ | (simp; done) | omega | (simp; omega)))⟩)
  case rest =>
    obtain ⟨g, rfl, rfl, rfl, rfl, rfl, hG, hU⟩ := hcut
    clear A0 U0 a0 a1 a2 a3
    obtain ⟨_, x0, x1, x2, _⟩ := id hG
    have hz := hU.size
    go_upto_region 2 with fail
    go_quiet (fail)
    go_wp2
    go_ret
    exact ⟨_, rfl, by first | exact hz | omega | (simp; omega), Arr.new _ _ _ _ _ _, by (repeat' (first | with_reducible exact Below.refl _ _ | with_reducible assumption | with_reducible refine gr_alloc ?_ _ | with_reducible refine gr_drew ?_ | with_reducible refine gr_drewN ?_ _ | with_reducible refine gr_trans ?_ (by assumption) | with_reducible refine gr_set ?_ ?_ _ | (simp; done) | omega | (simp; omega)))⟩

set_option maxHeartbeats 400000 in
theorem sCubic_any (k : Nat) (a b c d x y : Int) (w : World) (hA : Arr w k a b c d) :
    Calls Try.prog 42 #[.slice (some ⟨k, 0, none⟩) 4 4, .int .i64 x, .int .i64 y] w fun e w' => e = .returned (.int .i64 (vl a b c d x y)) ∧ Below w.heap.size w w' := by
  obtain ⟨_, a0, a1, a2, a3, _⟩ := id hA
  go_enter Try.func42, Try.ntmps42
  go_wp2
  go_quiet (fail)
  go_wp2
  go_ret
  exact ⟨rfl, by (repeat' (first | with_reducible exact Below.refl _ _ | with_reducible assumption | with_reducible refine gr_alloc ?_ _ | with_reducible refine gr_drew ?_ | with_reducible refine gr_drewN ?_ _ | with_reducible refine gr_trans ?_ (by assumption) | with_reducible refine gr_set ?_ ?_ _ | (simp; done) | omega | (simp; omega)))⟩

set_option maxRecDepth 100000 in
set_option maxHeartbeats 1000000 in
theorem sCovariantOf_any (a b c d : Int) (w : World) :
    Calls Try.prog 23 #[.agg #[.int .i64 a, .int .i64 b, .int .i64 c, .int .i64 d]] w (LstOut (cif a b c d) 4 (q4 (cc1 a b c d) (cc2 a b c d) (cc3 a b c d) (cc4 a b c d)) w) := by
  have hc := fun W => sCov0_any a b c d W
  generalize cc1 a b c d = x at hc ⊢
  generalize cc2 a b c d = y at hc ⊢
  generalize cc3 a b c d = z at hc ⊢
  generalize cc4 a b c d = u at hc ⊢
  have HC := hid hc
  clear hc
  go_enter Try.func23, Try.ntmps23
  go_wp2_with fail
  refine (l01Is_any a b c d _).mono ?_
  rintro e w1 ⟨rfl, hb1⟩
  have A1 := (Arr.new w a b c d 25).next hb1
  obtain ⟨_, c0, c1, c2, c3, _⟩ := id A1
  by_cases hm : isF a b c d = true
  · go_wp2_with fail
    refine (HC.out _).mono ?_
    rintro e w2 ⟨k, rfl, hk, hV, hb2⟩
    have hz1 := hb1.size
    simp only [World.size_alloc] at hz1
    go_wp2
    go_ret2
    have k0 : cif a b c d = 0 := by simp [cif, hm]
    rw [k0]
    exact ⟨_, rfl, OwnV.arr hV (by omega), by (repeat' (first | with_reducible exact Below.refl _ _ | with_reducible assumption | with_reducible refine gr_alloc ?_ _ | with_reducible refine gr_drew ?_ | with_reducible refine gr_drewN ?_ _ | with_reducible refine gr_trans ?_ (by assumption) | with_reducible refine gr_set ?_ ?_ _ | (simp; done) | omega | (simp; omega)))⟩
  · have hm' : isF a b c d = false := by simpa using hm
    clear hm
    go_wp2
    go_ret2
    have k0 : cif a b c d = 1 := by simp [cif, hm']
    rw [k0]
    exact ⟨_, rfl, .inl ⟨rfl, by simp⟩, by (repeat' (first | with_reducible exact Below.refl _ _ | with_reducible assumption | with_reducible refine gr_alloc ?_ _ | with_reducible refine gr_drew ?_ | with_reducible refine gr_drewN ?_ _ | with_reducible refine gr_trans ?_ (by assumption) | with_reducible refine gr_set ?_ ?_ _ | (simp; done) | omega | (simp; omega)))⟩

set_option maxRecDepth 100000 in
set_option maxHeartbeats 1000000 in
theorem sCovAt_any (a b c d x y : Int) (w : World) :
    Calls Try.prog 25 #[.agg #[.int .i64 a, .int .i64 b, .int .i64 c, .int .i64 d], .int .i64 x, .int .i64 y] w fun e w' => e = .returned (.tuple #[.int .i64 (if0 (plcn 100 a b c d x y) (vl (cc1 a b c d) (cc2 a b c d) (cc3 a b c d) (cc4 a b c d) x y)), .int .i64 (plcn 100 a b c d x y)]) ∧ Below w.heap.size w w' := by
  have hc := fun W => sCov0_any a b c d W
  have hk1 : isF a b c d = true → nr x y = true → plcn 100 a b c d x y = 0 := fun h h' => by unfold nr at h'; simp [plcn, h, h']
  have hk2 : isF a b c d = true → nr x y = false → plcn 100 a b c d x y = 2 := fun h h' => by unfold nr at h'; simp [plcn, h, h']
  have hk3 : isF a b c d = false → plcn 100 a b c d x y = 1 := fun h => by simp [plcn, h]
  generalize plcn 100 a b c d x y = k at hk1 hk2 hk3 ⊢
  generalize cc1 a b c d = x1 at hc ⊢
  generalize cc2 a b c d = x2 at hc ⊢
  generalize cc3 a b c d = x3 at hc ⊢
  generalize cc4 a b c d = x4 at hc ⊢
  have HC := hid hc
  have K1 := hid hk1; have K2 := hid hk2; have K3 := hid hk3
  clear hc hk1 hk2 hk3
  go_enter Try.func25, Try.ntmps25
  go_wp2_with fail
  refine (l01Is_any a b c d _).mono ?_
  rintro e w1 ⟨rfl, hb1⟩
  obtain ⟨_, c0, c1, c2, c3, _⟩ := (Arr.new w a b c d 25).next hb1
  by_cases hm : isF a b c d = true
  · go_wp2_with fail
    refine (sNear_any x y _).mono ?_
    rintro e w2 ⟨rfl, rfl⟩
    by_cases hn : nr x y = true
    · go_wp2_with fail
      refine (HC.out _).mono ?_
      rintro e w3 ⟨kk, rfl, hk, hV, hb3⟩
      go_wp2_with fail
      refine (sCubic_any kk x1 x2 x3 x4 x y _ hV).mono ?_
      rintro e w4 ⟨rfl, hb4⟩
      go_wp2
      go_ret2
      have k0 := K1.out hm hn
      exact ⟨ret_tup2 (by simp [if0, k0]) (by simp [k0]), by (repeat' (first | with_reducible exact Below.refl _ _ | with_reducible assumption | with_reducible refine gr_alloc ?_ _ | with_reducible refine gr_drew ?_ | with_reducible refine gr_drewN ?_ _ | with_reducible refine gr_trans ?_ (by assumption) | with_reducible refine gr_set ?_ ?_ _ | (simp; done) | omega | (simp; omega)))⟩
    · have hn' : nr x y = false := by simpa using hn
      clear hn
      go_wp2
      go_ret2
      have k0 := K2.out hm hn'
      exact ⟨ret_tup2 (by simp [if0, k0]) (by simp [k0]), by (repeat' (first | with_reducible exact Below.refl _ _ | with_reducible assumption | with_reducible refine gr_alloc ?_ _ | with_reducible refine gr_drew ?_ | with_reducible refine gr_drewN ?_ _ | with_reducible refine gr_trans ?_ (by assumption) | with_reducible refine gr_set ?_ ?_ _ | (simp; done) | omega | (simp; omega)))⟩
  · have hm' : isF a b c d = false := by simpa using hm
    clear hm
    go_wp2
    go_ret2
    have k0 := K3.out hm'
    exact ⟨ret_tup2 (by simp [if0, k0]) (by simp [k0]), by (repeat' (first | with_reducible exact Below.refl _ _ | with_reducible assumption | with_reducible refine gr_alloc ?_ _ | with_reducible refine gr_drew ?_ | with_reducible refine gr_drewN ?_ _ | with_reducible refine gr_trans ?_ (by assumption) | with_reducible refine gr_set ?_ ?_ _ | (simp; done) | omega | (simp; omega)))⟩

end Go.Proofs.Ytigbaelbeaobpaa
