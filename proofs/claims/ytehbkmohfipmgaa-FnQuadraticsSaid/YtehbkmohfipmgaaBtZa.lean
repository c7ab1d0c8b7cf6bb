/- Chapter 10: triple forms and their root forms. -/
import Derived.Test.YtehbkmohfipmgaaBtZ14
import Derived.Test.YtehbkmohfipmgaaBtZ5
namespace Go.Proofs.Ytehbkmohfipmgaa
open Go.RowKit

/-- Is the form triple? -/
def tri (a b c d : Int) : Bool := isF a b c d && (decide (b.tmod 3 = 0) && decide (c.tmod 3 = 0))
def cf10 (a b c d : Int) : Int := if isF a b c d then 0 else 1
theorem ret_bi {p q : Bool} {a b : Int} (h : p = q) (h' : a = b) : Ending.returned (.tuple #[.bool p, .int .i64 a]) = .returned (.tuple #[.bool q, .int .i64 b]) := by rw [h, h']

set_option maxHeartbeats 400000 in
theorem iIsTriple_any (a b c d : Int) (w : World) : Calls Try.prog 27 #[.agg #[.int .i64 a, .int .i64 b, .int .i64 c, .int .i64 d]] w fun e w' => e = .returned (.tuple #[.bool (tri a b c d), .int .i64 (cf10 a b c d)]) ∧ Below w.heap.size w w' := by
  go_enter Try.func27, Try.ntmps27
  go_wp2_with fail
  refine (iIsForm_any a b c d _).mono ?_
  rintro e w1 ⟨rfl, hb1⟩
  obtain ⟨_, c0, c1, c2, c3, _⟩ := (Arr.new w a b c d 42).next hb1
  cases hF : isF a b c d with
  | false =>
    go_wp2_with fail
    go_ret2
    exact ⟨ret_bi (by simp [tri, hF]) (by simp [cf10, hF]), by (repeat' (first | with_reducible exact Below.refl _ _ | with_reducible assumption | with_reducible refine gr_alloc ?_ _ | with_reducible refine gr_drew ?_ | with_reducible refine gr_drewN ?_ _ | with_reducible refine gr_trans ?_ (by assumption) | with_reducible refine gr_set ?_ ?_ _ | (simp; done) | omega | (simp; omega)))⟩
  | true =>
    go_wp2_with fail
    refine (isMultiple_any b 3 _ (by omega) (by omega)).mono ?_
    rintro e w2 ⟨rfl, rfl⟩
    rw [mul0_p (by omega)]
    cases hB : decide (b.tmod 3 = 0) with
    | false =>
      go_wp2_with fail
      go_ret2
      exact ⟨ret_bi (by simp [tri, hF, hB]) (by simp [cf10, hF]), by (repeat' (first | with_reducible exact Below.refl _ _ | with_reducible assumption | with_reducible refine gr_alloc ?_ _ | with_reducible refine gr_drew ?_ | with_reducible refine gr_drewN ?_ _ | with_reducible refine gr_trans ?_ (by assumption) | with_reducible refine gr_set ?_ ?_ _ | (simp; done) | omega | (simp; omega)))⟩
    | true =>
      go_wp2_with fail
      refine (isMultiple_any c 3 _ (by omega) (by omega)).mono ?_
      rintro e w2 ⟨rfl, rfl⟩
      rw [mul0_p (by omega)]
      go_wp2
      go_ret2
      exact ⟨ret_bi (by simp [tri, hF, hB]) (by simp [cf10, hF]), by (repeat' (first | with_reducible exact Below.refl _ _ | with_reducible assumption | with_reducible refine gr_alloc ?_ _ | with_reducible refine gr_drew ?_ | with_reducible refine gr_drewN ?_ _ | with_reducible refine gr_trans ?_ (by assumption) | with_reducible refine gr_set ?_ ?_ _ | (simp; done) | omega | (simp; omega)))⟩

set_option maxHeartbeats 400000 in
theorem sIsTriple_any (a b c d : Int) (w : World) : Calls Try.prog 28 #[.agg #[.int .i64 a, .int .i64 b, .int .i64 c, .int .i64 d]] w fun e w' => e = .returned (.tuple #[.bool (tri a b c d), .int .i64 (cf10 a b c d)]) ∧ Below w.heap.size w w' := by
  go_enter Try.func28, Try.ntmps28
  go_wp2_with fail
  refine (l01Is_any a b c d _).mono ?_
  rintro e w1 ⟨rfl, hb1⟩
  obtain ⟨_, c0, c1, c2, c3, _⟩ := (Arr.new w a b c d 42).next hb1
  cases hF : isF a b c d with
  | false =>
    go_wp2_with fail
    go_ret2
    exact ⟨ret_bi (by simp [tri, hF]) (by simp [cf10, hF]), by (repeat' (first | with_reducible exact Below.refl _ _ | with_reducible assumption | with_reducible refine gr_alloc ?_ _ | with_reducible refine gr_drew ?_ | with_reducible refine gr_drewN ?_ _ | with_reducible refine gr_trans ?_ (by assumption) | with_reducible refine gr_set ?_ ?_ _ | (simp; done) | omega | (simp; omega)))⟩
  | true =>
    obtain ⟨_, ⟨hb, hb'⟩, ⟨hc, hc'⟩, _⟩ := isF_t hF
    have hB := tmod_6 b 3 (by omega) (by omega)
    have hC := tmod_6 c 3 (by omega) (by omega)
    cases hB : (b.tmod 3 == 0) with
    | false =>
      go_wp2
      go_ret2
      exact ⟨ret_bi (by rw [beq_dec] at hB; simp [tri, hF, hB]) (by simp [cf10, hF]), by (repeat' (first | with_reducible exact Below.refl _ _ | with_reducible assumption | with_reducible refine gr_alloc ?_ _ | with_reducible refine gr_drew ?_ | with_reducible refine gr_drewN ?_ _ | with_reducible refine gr_trans ?_ (by assumption) | with_reducible refine gr_set ?_ ?_ _ | (simp; done) | omega | (simp; omega)))⟩
    | true =>
      go_wp2
      go_ret2
      exact ⟨ret_bi (by rw [beq_dec] at hB; simp [tri, hF, hB, beq_dec]) (by simp [cf10, hF]), by (repeat' (first | with_reducible exact Below.refl _ _ | with_reducible assumption | with_reducible refine gr_alloc ?_ _ | with_reducible refine gr_drew ?_ | with_reducible refine gr_drewN ?_ _ | with_reducible refine gr_trans ?_ (by assumption) | with_reducible refine gr_set ?_ ?_ _ | (simp; done) | omega | (simp; omega)))⟩

/-- The root form of a, 3 e, 3 g, d. -/
def rt1 (a e g : Int) : Int := e * e - a * g
def rt2 (a e g d : Int) : Int := e * g - a * d
def rt3 (e g d : Int) : Int := g * g - e * d
theorem rt_wr {x : Int} (h : -2000000 ≤ x ∧ x ≤ 2000000) : wrap64 (9 * x) = 9 * x := wr_in (by omega)
theorem bd2 {x y : Int} (hx : -1000 ≤ x ∧ x ≤ 1000) (hy : -1000 ≤ y ∧ y ≤ 1000) : -1000000 ≤ x * y ∧ x * y ≤ 1000000 := mulb (A := 1000) (B := 1000) hx hy
theorem sub_bd {x y : Int} (hx : -1000000 ≤ x ∧ x ≤ 1000000) (hy : -1000000 ≤ y ∧ y ≤ 1000000) : -2000000 ≤ x - y ∧ x - y ≤ 2000000 := by omega

set_option maxHeartbeats 400000 in
theorem iRoot_any (a e g d : Int) (w : World) (ha : -1000 ≤ a ∧ a ≤ 1000) (he : -1000 ≤ e ∧ e ≤ 1000) (hg : -1000 ≤ g ∧ g ≤ 1000) (hd : -1000 ≤ d ∧ d ≤ 1000) :
    Calls Try.prog 61 #[.agg #[.int .i64 a, .int .i64 (3 * e), .int .i64 (3 * g), .int .i64 d]] w fun e' w' => e' = .returned (.agg #[.int .i64 (rt1 a e g), .int .i64 (rt2 a e g d), .int .i64 (rt3 e g d)]) ∧ Below w.heap.size w w' := by
  have hc := fun W => iHess_any a (3 * e) (3 * g) d W
  have e1 : hs1 a (3 * e) (3 * g) = 9 * rt1 a e g := by simp only [hs1, rt1]; grind
  have e2 : hs2 a (3 * e) (3 * g) d = 9 * rt2 a e g d := by simp only [hs2, rt2]; grind
  have e3 : hs3 (3 * e) (3 * g) d = 9 * rt3 e g d := by simp only [hs3, rt3]; grind
  have b1 : -2000000 ≤ rt1 a e g ∧ rt1 a e g ≤ 2000000 := sub_bd (bd2 he he) (bd2 ha hg)
  have b2 : -2000000 ≤ rt2 a e g d ∧ rt2 a e g d ≤ 2000000 := sub_bd (bd2 he hg) (bd2 ha hd)
  have b3 : -2000000 ≤ rt3 e g d ∧ rt3 e g d ≤ 2000000 := sub_bd (bd2 hg hg) (bd2 he hd)
  rw [e1, e2, e3] at hc
  generalize rt1 a e g = x at hc b1 ⊢
  generalize rt2 a e g d = y at hc b2 ⊢
  generalize rt3 e g d = z at hc b3 ⊢
  rw [rt_wr b1, rt_wr b2, rt_wr b3] at hc
  have t1 : (9 * x).tdiv 9 = x := Int.mul_tdiv_cancel_left _ (by omega)
  have t2 : (9 * y).tdiv 9 = y := Int.mul_tdiv_cancel_left _ (by omega)
  have t3 : (9 * z).tdiv 9 = z := Int.mul_tdiv_cancel_left _ (by omega)
  have HC := hid hc
  clear hc e1 e2 e3 ha he hg hd
  have R0 := Arr3.new (w.alloc (.cells #[.int .i64 a, .int .i64 (3 * e), .int .i64 (3 * g), .int .i64 d] 42)) 0 0 0 25
  simp only [World.size_alloc] at R0
  obtain ⟨b11, b12⟩ := b1; obtain ⟨b21, b22⟩ := b2; obtain ⟨b31, b32⟩ := b3
  go_enter Try.func61, Try.ntmps61
  go_wp2_with fail
  refine (HC.out _).mono ?_
  rintro e w1 ⟨rfl, hb1⟩
  have R1 := R0.next hb1
  obtain ⟨_, r0, r1, r2, f0, f1, f2⟩ := id R1
  go_wp2
  refine bodyPost_ret (res_A31 (e := 2) rfl Try.underlying25 (by kernel_rfl) rfl (by (repeat (first | with_reducible assumption | with_reducible exact Arr.box (by assumption) | with_reducible exact Box.new _ _ _ _ _ _ | with_reducible exact Arr.new _ _ _ _ _ _ | with_reducible refine Arr.drew ?_ | with_reducible refine Arr.drewN ?_ _ | with_reducible refine Arr.store4 ?_ | with_reducible refine Arr.alloc ?_ _ | with_reducible refine Box.drew ?_ | with_reducible refine Box.drewN ?_ _ | with_reducible refine Box.alloc ?_ _ | with_reducible refine Arr.next ?_ (by assumption) | with_reducible refine Box.next ?_ (by assumption) | refine Arr.oth ?_ (by first | (simp; done) | omega | (simp; omega)) _ | refine Box.oth ?_ (by first | (simp; done) | omega | (simp; omega)) _ | with_reducible exact Arr3.box (by assumption) | with_reducible exact Box3.new _ _ _ _ _ | with_reducible exact Arr3.new _ _ _ _ _ | with_reducible refine Arr3.drew ?_ | with_reducible refine Arr3.drewN ?_ _ | with_reducible refine Arr3.store3 ?_ | with_reducible refine Arr3.alloc ?_ _ | with_reducible refine Box3.drew ?_ | with_reducible refine Box3.drewN ?_ _ | with_reducible refine Box3.alloc ?_ _ | with_reducible refine Arr3.next ?_ (by assumption) | with_reducible refine Box3.next ?_ (by assumption) | refine Arr3.oth ?_ (by first | (simp; done) | omega | (simp; omega)) _ | refine Box3.oth ?_ (by first | (simp; done) | omega | (simp; omega)) _)))) rfl ?_
  exact ⟨rfl, by (repeat' (first | with_reducible exact Below.refl _ _ | with_reducible assumption | with_reducible refine gr_alloc ?_ _ | with_reducible refine gr_drew ?_ | with_reducible refine gr_drewN ?_ _ | with_reducible refine gr_trans ?_ (by assumption) | with_reducible refine gr_set ?_ ?_ _ | (simp; done) | omega | (simp; omega)))⟩

set_option maxHeartbeats 400000 in
theorem l10Root_any (a e g d : Int) (w : World) (ha : -1000 ≤ a ∧ a ≤ 1000) (he : -1000 ≤ e ∧ e ≤ 1000) (hg : -1000 ≤ g ∧ g ≤ 1000) (hd : -1000 ≤ d ∧ d ≤ 1000) :
    Calls Try.prog 63 #[.int .i64 a, .int .i64 e, .int .i64 g, .int .i64 d] w fun e' w' => e' = .returned (.agg #[.int .i64 (rt1 a e g), .int .i64 (rt2 a e g d), .int .i64 (rt3 e g d)]) ∧ Below w.heap.size w w' := by
  have b1 := bd2 he he; have b2 := bd2 ha hg; have b3 := bd2 he hg; have b4 := bd2 ha hd; have b5 := bd2 hg hg; have b6 := bd2 he hd
  have H1 : Hid (rt1 a e g = e * e - a * g) := hid rfl
  have H2 : Hid (rt2 a e g d = e * g - a * d) := hid rfl
  have H3 : Hid (rt3 e g d = g * g - e * d) := hid rfl
  have R0 := Arr3.new w 0 0 0 25
  obtain ⟨_, r0, r1, r2, f0, f1, f2⟩ := id R0
  obtain ⟨b11, b12⟩ := b1; obtain ⟨b21, b22⟩ := b2; obtain ⟨b31, b32⟩ := b3; obtain ⟨b41, b42⟩ := b4; obtain ⟨b51, b52⟩ := b5; obtain ⟨b61, b62⟩ := b6
  clear ha he hg hd
  go_enter Try.func63, Try.ntmps63
  go_wp2
  refine bodyPost_ret (res_A31 (e := 2) rfl Try.underlying25 (by kernel_rfl) rfl (by (repeat (first | with_reducible assumption | with_reducible exact Arr.box (by assumption) | with_reducible exact Box.new _ _ _ _ _ _ | with_reducible exact Arr.new _ _ _ _ _ _ | with_reducible refine Arr.drew ?_ | with_reducible refine Arr.drewN ?_ _ | with_reducible refine Arr.store4 ?_ | with_reducible refine Arr.alloc ?_ _ | with_reducible refine Box.drew ?_ | with_reducible refine Box.drewN ?_ _ | with_reducible refine Box.alloc ?_ _ | with_reducible refine Arr.next ?_ (by assumption) | with_reducible refine Box.next ?_ (by assumption) | refine Arr.oth ?_ (by first | (simp; done) | omega | (simp; omega)) _ | refine Box.oth ?_ (by first | (simp; done) | omega | (simp; omega)) _ | with_reducible exact Arr3.box (by assumption) | with_reducible exact Box3.new _ _ _ _ _ | with_reducible exact Arr3.new _ _ _ _ _ | with_reducible refine Arr3.drew ?_ | with_reducible refine Arr3.drewN ?_ _ | with_reducible refine Arr3.store3 ?_ | with_reducible refine Arr3.alloc ?_ _ | with_reducible refine Box3.drew ?_ | with_reducible refine Box3.drewN ?_ _ | with_reducible refine Box3.alloc ?_ _ | with_reducible refine Arr3.next ?_ (by assumption) | with_reducible refine Box3.next ?_ (by assumption) | refine Arr3.oth ?_ (by first | (simp; done) | omega | (simp; omega)) _ | refine Box3.oth ?_ (by first | (simp; done) | omega | (simp; omega)) _)))) rfl ?_
  rw [H1.out, H2.out, H3.out]
  exact ⟨rfl, by (repeat' (first | with_reducible exact Below.refl _ _ | with_reducible assumption | with_reducible refine gr_alloc ?_ _ | with_reducible refine gr_drew ?_ | with_reducible refine gr_drewN ?_ _ | with_reducible refine gr_trans ?_ (by assumption) | with_reducible refine gr_set ?_ ?_ _ | (simp; done) | omega | (simp; omega)))⟩

/-- The code of a root form; its numbers. -/
def rfc (a b c d : Int) : Int := if isF a b c d then (if tri a b c d then 0 else 5) else 1
def rfv (a b c d x : Int) : Int := if rfc a b c d = 0 then x else 0
theorem tri_mul {a b c d : Int} (h : tri a b c d = true) : isF a b c d = true ∧ b = 3 * b.tdiv 3 ∧ c = 3 * c.tdiv 3 := by
  simp only [tri, Bool.and_eq_true, decide_eq_true_eq] at h
  obtain ⟨h0, h1, h2⟩ := h
  refine ⟨h0, ?_, ?_⟩
  · have := Int.mul_tdiv_add_tmod b 3; omega
  · have := Int.mul_tdiv_add_tmod c 3; omega

set_option maxHeartbeats 400000 in
theorem iRootForm_any (a b c d : Int) (w : World) : Calls Try.prog 25 #[.agg #[.int .i64 a, .int .i64 b, .int .i64 c, .int .i64 d]] w fun e' w' => e' = .returned (.tuple #[.agg #[.int .i64 (rfv a b c d (rt1 a (b.tdiv 3) (c.tdiv 3))), .int .i64 (rfv a b c d (rt2 a (b.tdiv 3) (c.tdiv 3) d)), .int .i64 (rfv a b c d (rt3 (b.tdiv 3) (c.tdiv 3) d))], .int .i64 (rfc a b c d)]) ∧ Below w.heap.size w w' := by
  have R0 := Arr3.new (w.alloc (.cells #[.int .i64 a, .int .i64 b, .int .i64 c, .int .i64 d] 42)) 0 0 0 25
  have A0 := (Arr.new w a b c d 42).alloc (.cells #[.int .i64 0, .int .i64 0, .int .i64 0] 25)
  simp only [World.size_alloc] at R0
  cases hT : tri a b c d with
  | true =>
    obtain ⟨hF, hb, hc⟩ := tri_mul hT
    obtain ⟨⟨ha1, ha2⟩, ⟨hb1, hb2⟩, ⟨hc1, hc2⟩, ⟨hd1, hd2⟩⟩ := isF_t hF
    have hk : cf10 a b c d = 0 := by simp [cf10, hF]
    have hr : rfc a b c d = 0 := by simp [rfc, hF, hT]
    have hcall := fun W => iRoot_any a (b.tdiv 3) (c.tdiv 3) d W ⟨ha1, ha2⟩ (by omega) (by omega) ⟨hd1, hd2⟩
    rw [← hb, ← hc] at hcall
    have hi := fun W => iIsTriple_any a b c d W
    rw [hT, hk] at hi
    simp only [rfv, hr, if_pos]
    generalize rt1 a (b.tdiv 3) (c.tdiv 3) = x at hcall ⊢
    generalize rt2 a (b.tdiv 3) (c.tdiv 3) d = y at hcall ⊢
    generalize rt3 (b.tdiv 3) (c.tdiv 3) d = z at hcall ⊢
    have HC := hid hcall; have HI := hid hi
    clear hcall hi hT hF hb hc hk hr ha1 ha2 hb1 hb2 hc1 hc2 hd1 hd2
    go_enter Try.func25, Try.ntmps25
    go_wp2_with fail
    refine (HI.out _).mono ?_
    rintro e w1 ⟨rfl, hb1⟩
    have R1 := R0.next hb1
    obtain ⟨_, c0, c1, c2, c3, _⟩ := id (A0.next hb1)
    go_wp2_with fail
    refine (HC.out _).mono ?_
    rintro e w2 ⟨rfl, hb2⟩
    have RR := R1.next hb2
    obtain ⟨_, r0, r1, r2, f0, f1, f2⟩ := id RR
    go_wp2
    refine bodyPost_ret (res_A3 (e := 2) rfl Try.underlying25 (by kernel_rfl) rfl (by (repeat (first | with_reducible assumption | with_reducible exact Arr3.box (by assumption) | with_reducible exact Arr3.new _ _ _ _ _ | with_reducible refine Arr3.drew ?_ | with_reducible refine Arr3.drewN ?_ _ | with_reducible refine Arr3.store3 ?_ | with_reducible refine Arr3.alloc ?_ _ | with_reducible refine Arr3.next ?_ (by assumption) | refine Arr3.oth ?_ (by first | (simp; done) | omega | (simp; omega)) _ )))) rfl ?_
    exact ⟨rfl, by (repeat' (first | with_reducible exact Below.refl _ _ | with_reducible assumption | with_reducible refine gr_alloc ?_ _ | with_reducible refine gr_drew ?_ | with_reducible refine gr_drewN ?_ _ | with_reducible refine gr_trans ?_ (by assumption) | with_reducible refine gr_set ?_ ?_ _ | (simp; done) | omega | (simp; omega)))⟩
  | false =>
    have hi := fun W => iIsTriple_any a b c d W
    have hv : ∀ x, rfv a b c d x = 0 := fun x => by
      have : rfc a b c d ≠ 0 := by unfold rfc; rw [hT]; split <;> simp
      simp [rfv, this]
    simp only [hv]
    rw [hT] at hi
    cases hF : isF a b c d with
    | true =>
      have hk : cf10 a b c d = 0 := by simp [cf10, hF]
      have hr : rfc a b c d = 5 := by simp [rfc, hF, hT]
      rw [hk] at hi
      rw [hr]
      have HI := hid hi
      clear hi hT hF hk hr hv
      go_enter Try.func25, Try.ntmps25
      go_wp2_with fail
      refine (HI.out _).mono ?_
      rintro e w1 ⟨rfl, hb1⟩
      have RR := R0.next hb1
      obtain ⟨_, r0, r1, r2, f0, f1, f2⟩ := id RR
      go_wp2
      refine bodyPost_ret (res_A3 (e := 2) rfl Try.underlying25 (by kernel_rfl) rfl (by (repeat (first | with_reducible assumption | with_reducible exact Arr3.box (by assumption) | with_reducible exact Arr3.new _ _ _ _ _ | with_reducible refine Arr3.drew ?_ | with_reducible refine Arr3.drewN ?_ _ | with_reducible refine Arr3.store3 ?_ | with_reducible refine Arr3.alloc ?_ _ | with_reducible refine Arr3.next ?_ (by assumption) | refine Arr3.oth ?_ (by first | (simp; done) | omega | (simp; omega)) _ )))) rfl ?_
      exact ⟨rfl, by (repeat' (first | with_reducible exact Below.refl _ _ | with_reducible assumption | with_reducible refine gr_alloc ?_ _ | with_reducible refine gr_drew ?_ | with_reducible refine gr_drewN ?_ _ | with_reducible refine gr_trans ?_ (by assumption) | with_reducible refine gr_set ?_ ?_ _ | (simp; done) | omega | (simp; omega)))⟩
    | false =>
      have hk : cf10 a b c d = 1 := by simp [cf10, hF]
      have hr : rfc a b c d = 1 := by simp [rfc, hF]
      rw [hk] at hi
      rw [hr]
      have HI := hid hi
      clear hi hT hF hk hr hv
      go_enter Try.func25, Try.ntmps25
      go_wp2_with fail
      refine (HI.out _).mono ?_
      rintro e w1 ⟨rfl, hb1⟩
      have RR := R0.next hb1
      obtain ⟨_, r0, r1, r2, f0, f1, f2⟩ := id RR
      go_wp2
      refine bodyPost_ret (res_A3 (e := 2) rfl Try.underlying25 (by kernel_rfl) rfl (by (repeat (first | with_reducible assumption | with_reducible exact Arr3.box (by assumption) | with_reducible exact Arr3.new _ _ _ _ _ | with_reducible refine Arr3.drew ?_ | with_reducible refine Arr3.drewN ?_ _ | with_reducible refine Arr3.store3 ?_ | with_reducible refine Arr3.alloc ?_ _ | with_reducible refine Arr3.next ?_ (by assumption) | refine Arr3.oth ?_ (by first | (simp; done) | omega | (simp; omega)) _ )))) rfl ?_
      exact ⟨rfl, by (repeat' (first | with_reducible exact Below.refl _ _ | with_reducible assumption | with_reducible refine gr_alloc ?_ _ | with_reducible refine gr_drew ?_ | with_reducible refine gr_drewN ?_ _ | with_reducible refine gr_trans ?_ (by assumption) | with_reducible refine gr_set ?_ ?_ _ | (simp; done) | omega | (simp; omega)))⟩

set_option maxHeartbeats 400000 in
theorem sRootForm_any (a b c d : Int) (w : World) : Calls Try.prog 26 #[.agg #[.int .i64 a, .int .i64 b, .int .i64 c, .int .i64 d]] w fun e' w' => e' = .returned (.tuple #[.agg #[.int .i64 (rfv a b c d (rt1 a (b.tdiv 3) (c.tdiv 3))), .int .i64 (rfv a b c d (rt2 a (b.tdiv 3) (c.tdiv 3) d)), .int .i64 (rfv a b c d (rt3 (b.tdiv 3) (c.tdiv 3) d))], .int .i64 (rfc a b c d)]) ∧ Below w.heap.size w w' := by
  have R0 := Arr3.new (w.alloc (.cells #[.int .i64 a, .int .i64 b, .int .i64 c, .int .i64 d] 42)) 0 0 0 25
  have A0 := (Arr.new w a b c d 42).alloc (.cells #[.int .i64 0, .int .i64 0, .int .i64 0] 25)
  simp only [World.size_alloc] at R0
  have hi := fun W => l01Is_any a b c d W
  cases hF : isF a b c d with
  | false =>
    have hr : rfc a b c d = 1 := by simp [rfc, hF]
    simp only [rfv, hr]
    rw [hF] at hi
    have HI := hid hi
    clear hi hF hr
    go_enter Try.func26, Try.ntmps26
    go_wp2_with fail
    refine (HI.out _).mono ?_
    rintro e w1 ⟨rfl, hb1⟩
    have RR := R0.next hb1
    obtain ⟨_, r0, r1, r2, f0, f1, f2⟩ := id RR
    go_wp2
    refine bodyPost_ret (res_A3 (e := 2) rfl Try.underlying25 (by kernel_rfl) rfl (by (repeat (first | with_reducible assumption | with_reducible exact Arr3.box (by assumption) | with_reducible exact Arr3.new _ _ _ _ _ | with_reducible refine Arr3.drew ?_ | with_reducible refine Arr3.drewN ?_ _ | with_reducible refine Arr3.store3 ?_ | with_reducible refine Arr3.alloc ?_ _ | with_reducible refine Arr3.next ?_ (by assumption) | refine Arr3.oth ?_ (by first | (simp; done) | omega | (simp; omega)) _ )))) rfl ?_
    exact ⟨rfl, by (repeat' (first | with_reducible exact Below.refl _ _ | with_reducible assumption | with_reducible refine gr_alloc ?_ _ | with_reducible refine gr_drew ?_ | with_reducible refine gr_drewN ?_ _ | with_reducible refine gr_trans ?_ (by assumption) | with_reducible refine gr_set ?_ ?_ _ | (simp; done) | omega | (simp; omega)))⟩
  | true =>
    obtain ⟨⟨ha1, ha2⟩, ⟨hb1, hb2⟩, ⟨hc1, hc2⟩, ⟨hd1, hd2⟩⟩ := isF_t hF
    obtain ⟨tb1, tb2⟩ := tmod_6 b 3 (by omega) (by omega)
    obtain ⟨tc1, tc2⟩ := tmod_6 c 3 (by omega) (by omega)
    have q1 : -1000 ≤ b.tdiv 3 ∧ b.tdiv 3 ≤ 1000 := by
      have := Int.natAbs_tdiv_le_natAbs b 3
      omega
    have q2 : -1000 ≤ c.tdiv 3 ∧ c.tdiv 3 ≤ 1000 := by
      have := Int.natAbs_tdiv_le_natAbs c 3
      omega
    rw [hF] at hi
    cases hB : decide (b.tmod 3 = 0) with
    | false =>
      have hr : rfc a b c d = 5 := by simp [rfc, hF, tri, hB]
      have hB' : (b.tmod 3 == 0) = false := by rw [beq_dec]; exact hB
      have hn : (b.tmod 3 != 0) = true := by simp [bne, hB']
      simp only [rfv, hr]
      have HI := hid hi
      clear hi hF hr hB
      go_enter Try.func26, Try.ntmps26
      go_wp2_with fail
      refine (HI.out _).mono ?_
      rintro e w1 ⟨rfl, hb1⟩
      have RR := R0.next hb1
      obtain ⟨_, r0, r1, r2, f0, f1, f2⟩ := id RR
      obtain ⟨_, c0, c1, c2, c3, _⟩ := id (A0.next hb1)
      go_wp2
      refine bodyPost_ret (res_A3 (e := 2) rfl Try.underlying25 (by kernel_rfl) rfl (by (repeat (first | with_reducible assumption | with_reducible exact Arr3.box (by assumption) | with_reducible exact Arr3.new _ _ _ _ _ | with_reducible refine Arr3.drew ?_ | with_reducible refine Arr3.drewN ?_ _ | with_reducible refine Arr3.store3 ?_ | with_reducible refine Arr3.alloc ?_ _ | with_reducible refine Arr3.next ?_ (by assumption) | refine Arr3.oth ?_ (by first | (simp; done) | omega | (simp; omega)) _ )))) rfl ?_
      exact ⟨rfl, by (repeat' (first | with_reducible exact Below.refl _ _ | with_reducible assumption | with_reducible refine gr_alloc ?_ _ | with_reducible refine gr_drew ?_ | with_reducible refine gr_drewN ?_ _ | with_reducible refine gr_trans ?_ (by assumption) | with_reducible refine gr_set ?_ ?_ _ | (simp; done) | omega | (simp; omega)))⟩
    | true =>
      have hB' : (b.tmod 3 == 0) = true := by rw [beq_dec]; exact hB
      have hn : (b.tmod 3 != 0) = false := by simp [bne, hB']
      cases hC : decide (c.tmod 3 = 0) with
      | false =>
        have hr : rfc a b c d = 5 := by simp [rfc, hF, tri, hC]
        have hC' : (c.tmod 3 == 0) = false := by rw [beq_dec]; exact hC
        have hnc : (c.tmod 3 != 0) = true := by simp [bne, hC']
        simp only [rfv, hr]
        have HI := hid hi
        clear hi hF hr hB hC
        go_enter Try.func26, Try.ntmps26
        go_wp2_with fail
        refine (HI.out _).mono ?_
        rintro e w1 ⟨rfl, hb1⟩
        have RR := R0.next hb1
        obtain ⟨_, r0, r1, r2, f0, f1, f2⟩ := id RR
        obtain ⟨_, c0, c1, c2, c3, _⟩ := id (A0.next hb1)
        go_wp2
        refine bodyPost_ret (res_A3 (e := 2) rfl Try.underlying25 (by kernel_rfl) rfl (by (repeat (first | with_reducible assumption | with_reducible exact Arr3.box (by assumption) | with_reducible exact Arr3.new _ _ _ _ _ | with_reducible refine Arr3.drew ?_ | with_reducible refine Arr3.drewN ?_ _ | with_reducible refine Arr3.store3 ?_ | with_reducible refine Arr3.alloc ?_ _ | with_reducible refine Arr3.next ?_ (by assumption) | refine Arr3.oth ?_ (by first | (simp; done) | omega | (simp; omega)) _ )))) rfl ?_
        exact ⟨rfl, by (repeat' (first | with_reducible exact Below.refl _ _ | with_reducible assumption | with_reducible refine gr_alloc ?_ _ | with_reducible refine gr_drew ?_ | with_reducible refine gr_drewN ?_ _ | with_reducible refine gr_trans ?_ (by assumption) | with_reducible refine gr_set ?_ ?_ _ | (simp; done) | omega | (simp; omega)))⟩
      | true =>
        have hr : rfc a b c d = 0 := by simp [rfc, hF, tri, hB, hC]
        have hC' : (c.tmod 3 == 0) = true := by rw [beq_dec]; exact hC
        have hnc : (c.tmod 3 != 0) = false := by simp [bne, hC']
        have hcall := fun W => l10Root_any a (b.tdiv 3) (c.tdiv 3) d W ⟨ha1, ha2⟩ q1 q2 ⟨hd1, hd2⟩
        simp only [rfv, hr, if_pos]
        generalize rt1 a (b.tdiv 3) (c.tdiv 3) = x at hcall ⊢
        generalize rt2 a (b.tdiv 3) (c.tdiv 3) d = y at hcall ⊢
        generalize rt3 (b.tdiv 3) (c.tdiv 3) d = z at hcall ⊢
        have HI := hid hi
        have HC := hid hcall
        clear hi hF hr hB hC hcall
        go_enter Try.func26, Try.ntmps26
        go_wp2_with fail
        refine (HI.out _).mono ?_
        rintro e w1 ⟨rfl, hb1⟩
        have R1 := R0.next hb1
        obtain ⟨_, c0, c1, c2, c3, _⟩ := id (A0.next hb1)
        go_wp2_with (go_at_call 63; refine (HC.out _).mono ?_; rintro e w2 ⟨rfl, hb2⟩; have RR := R1.next hb2; obtain ⟨_, r0, r1, r2, f0, f1, f2⟩ := id RR)
        refine bodyPost_ret (res_A3 (e := 2) rfl Try.underlying25 (by kernel_rfl) rfl (by (repeat (first | with_reducible assumption | with_reducible exact Arr3.box (by assumption) | with_reducible exact Arr3.new _ _ _ _ _ | with_reducible refine Arr3.drew ?_ | with_reducible refine Arr3.drewN ?_ _ | with_reducible refine Arr3.store3 ?_ | with_reducible refine Arr3.alloc ?_ _ | with_reducible refine Arr3.next ?_ (by assumption) | refine Arr3.oth ?_ (by first | (simp; done) | omega | (simp; omega)) _ )))) rfl ?_
        exact ⟨rfl, by (repeat' (first | with_reducible exact Below.refl _ _ | with_reducible assumption | with_reducible refine gr_alloc ?_ _ | with_reducible refine gr_drew ?_ | with_reducible refine gr_drewN ?_ _ | with_reducible refine gr_trans ?_ (by assumption) | with_reducible refine gr_set ?_ ?_ _ | (simp; done) | omega | (simp; omega)))⟩

end Go.Proofs.Ytehbkmohfipmgaa
