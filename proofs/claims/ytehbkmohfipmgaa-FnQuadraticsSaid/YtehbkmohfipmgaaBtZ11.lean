/- Several texts in one: XZw, XZk. -/
import Derived.Test.YtehbkmohfipmgaaBtZ10
import Derived.Test.YtehbkmohfipmgaaBtZ8
import Derived.Deep.RegionHeld3
import Derived.Deep.DeepCutAuto
import Derived.Deep.LoopGhost

/- Chapter 10: classes are a group: unit, cancelling, orders. Mathematics alone. -/
namespace Go.Proofs.Ytehbkmohfipmgaa
open Go.RowKit

theorem El.comm {D : Int} {q r : Qd} (hq : El D q) (hr : El D r) : cp q r = cp r q := ((hq.comp hr).2.symm.cp hr.pr).symm
/-- The unit of D. -/
def un (D : Int) : Qd := (1, D % 2, thd 1 (D % 2) D)
theorem el_one {D : Int} {t : Qd} (h : El D t) (h1 : t.1 = 1) : t = un D := by
  obtain ⟨p, q, r⟩ := t
  have h1 : p = 1 := h1
  subst h1
  have hd : q * q - 4 * 1 * r = D := h.ds
  have a : -1 < q := h.rd.2.1
  have b : q ≤ 1 := h.rd.2.2.1
  have hq : q = D % 2 := by
    rcases (show q = 0 ∨ q = 1 by omega) with e | e <;> subst e <;> omega
  have hr : thd 1 q D = r := by
    unfold thd
    have : q * q - D = 4 * 1 * r := by omega
    rw [this]
    exact Int.mul_tdiv_cancel_left _ (by omega)
  unfold un
  rw [← hq, hr]
theorem un_el {D : Int} (hD : D < 0) (h4 : D % 4 < 2) : El D (un D) := by
  have h2 : D % 2 = 0 ∨ D % 2 = 1 := by omega
  have hx : D % 2 * (D % 2) = D % 2 := by rcases h2 with e | e <;> rw [e] <;> rfl
  have ht : thd 1 (D % 2) D = (D % 2 - D) / 4 := by
    unfold thd
    rw [hx]
    exact Int.tdiv_eq_ediv_of_nonneg (by omega)
  refine ⟨⟨Int.le_refl 1, ?_, ?_, ?_⟩, Pri.of (x := 1) (y := 0) (z := 0) (by show 1 * 1 + 0 * _ + 0 * _ = (1 : Int); omega), ?_, hD⟩
  · show -1 < D % 2; omega
  · show D % 2 ≤ 1; omega
  · show rdb 1 (D % 2) (thd 1 (D % 2) D) = true
    rw [ht]
    simp [rdb]; omega
  · show D % 2 * (D % 2) - 4 * 1 * thd 1 (D % 2) D = D
    rw [ht, hx]; omega
theorem un_cp {D : Int} {c : Qd} (hc : El D c) : cp (un D) c = c := by
  obtain ⟨a, b, e⟩ := c
  have hd : b * b - 4 * a * e = D := hc.ds
  have hpos : Pos D (1, b, a * e) := ⟨Int.le_refl 1, by show b * b - 4 * 1 * (a * e) = D; rw [← hd]; grind, hc.ng⟩
  have hr := rdd_red hpos
  have hpri : Pri (1, b, a * e) := Pri.of (x := 1) (y := 0) (z := 0) (by show 1 * 1 + 0 * b + 0 * (a * e) = 1; omega)
  have hel : El D (red (1, b, a * e)) := ⟨hr, hpri.eqv (Eqv.red _), (Eqv.red _).dsq.trans hpos.2.1, hc.ng⟩
  have h1 : (red (1, b, a * e)).1 = 1 := Int.le_antisymm (first_le hr (Eqv.red _).symm (Int.le_refl 1)) hr.1
  have hu := el_one hel h1
  have hcm := dirichlet 1 a b e
  rw [Int.one_mul, Int.one_mul] at hcm
  have : Cpd (red (1, b, a * e)) (a, b, e) (a, b, e) := ⟨hc.rd, _, hcm.left (Eqv.red _), Eqv.refl _⟩
  rw [hu] at this
  exact this.cp (hu ▸ hel.pr)
theorem un_el' {D : Int} {c : Qd} (hc : El D c) : El D (un D) := by
  refine un_el hc.ng ?_
  have h : c.2.1 * c.2.1 - 4 * c.1 * c.2.2 = D := hc.ds
  have h1 : c.2.1 * c.2.1 % 4 < 2 := by
    rw [Int.mul_emod]
    have h3 : c.2.1 % 4 = 0 ∨ c.2.1 % 4 = 1 ∨ c.2.1 % 4 = 2 ∨ c.2.1 % 4 = 3 := by omega
    rcases h3 with h | h | h | h <;> rw [h] <;> decide
  have h2 : 4 * c.1 * c.2.2 = 4 * (c.1 * c.2.2) := Int.mul_assoc _ _ _
  omega
theorem El.cancel {D : Int} {x y c : Qd} (hx : El D x) (hy : El D y) (hc : El D c) (h : cp x c = cp y c) : x = y := by
  obtain ⟨e1, _, f, h2, h3⟩ := hx.comp hc
  obtain ⟨_, _, f', h2', h3'⟩ := hy.comp hc
  rw [← h] at h3'
  have k1 := (h2.back).left h3
  have k2 := (h2'.back).left h3'
  exact hx.rd.uniq hy.rd (k1.uniq e1.pr k2)
/-- Powers: k + 1 factors. -/
noncomputable def pw (c : Qd) : Nat → Qd
  | 0 => c
  | k + 1 => cp (pw c k) c
theorem El.pw {D : Int} {c : Qd} (hc : El D c) : ∀ k, El D (pw c k) := by
  intro k
  induction k with
  | zero => exact hc
  | succ k ih => exact (ih.comp hc).1
theorem pigeon : ∀ (N : Nat) (f : Nat → Nat), (∀ k, k ≤ N → f k < N) → ∃ i j, i < j ∧ j ≤ N ∧ f i = f j := by
  intro N
  induction N with
  | zero => intro f h; exact absurd (h 0 (Nat.le_refl 0)) (by omega)
  | succ N ih =>
    intro f h
    by_cases he : ∃ i, i ≤ N ∧ f i = f (N + 1)
    · obtain ⟨i, h1, h2⟩ := he
      exact ⟨i, N + 1, by omega, Nat.le_refl _, h2⟩
    · have hl := h (N + 1) (Nat.le_refl _)
      obtain ⟨i, j, h1, h2, h3⟩ := ih (fun k => if f (N + 1) < f k then f k - 1 else f k) (fun k hk => by
        have h1 := h k (by omega)
        have h2 : f k ≠ f (N + 1) := fun e => he ⟨k, hk, e⟩
        show (if f (N + 1) < f k then f k - 1 else f k) < N
        split <;> omega)
      have hi : f i ≠ f (N + 1) := fun e => he ⟨i, by omega, e⟩
      have hj : f j ≠ f (N + 1) := fun e => he ⟨j, by omega, e⟩
      refine ⟨i, j, h1, by omega, ?_⟩
      have h3 : (if f (N + 1) < f i then f i - 1 else f i) = (if f (N + 1) < f j then f j - 1 else f j) := h3
      split at h3 <;> split at h3 <;> omega
theorem el_le {D : Int} {t : Qd} (h : El D t) : t.1 ≤ -D := by
  obtain ⟨p, q, r⟩ := t
  have h1 : 1 ≤ p := h.rd.1
  have h2 : -p < q := h.rd.2.1
  have h3 : q ≤ p := h.rd.2.2.1
  have h4 : p ≤ r := h.rd.le.1
  have hd : q * q - 4 * p * r = D := h.ds
  have h5 := sq_le (m := q) (p := p) (by omega) h3
  have h6 : p * p ≤ p * r := Int.mul_le_mul_of_nonneg_left h4 (by omega)
  have h7 : p * 1 ≤ p * p := Int.mul_le_mul_of_nonneg_left h1 (by omega)
  have h8 : 4 * p * r = 4 * (p * r) := Int.mul_assoc _ _ _
  show p ≤ -D
  omega
theorem el_same {D : Int} {t u : Qd} (h : El D t) (h' : El D u) (h1 : t.1 = u.1) (h2 : t.2.1 = u.2.1) : t = u := by
  obtain ⟨p, q, r⟩ := t
  obtain ⟨p', q', r'⟩ := u
  have h1 : p = p' := h1
  have h2 : q = q' := h2
  subst h1 h2
  have hp : 1 ≤ p := h.rd.1
  have d1 : q * q - 4 * p * r = D := h.ds
  have d2 : q * q - 4 * p * r' = D := h'.ds
  have : 4 * p * r = 4 * p * r' := by omega
  rw [Int.eq_of_mul_eq_mul_left (show 4 * p ≠ 0 by omega) this]
/-- Some power is the unit. -/
theorem El.order {D : Int} {c : Qd} (hc : El D c) : ∃ k : Nat, (k : Int) < (-D + 1) * (2 * -D + 1) ∧ Go.Proofs.Ytehbkmohfipmgaa.pw c k = un D := by
  obtain ⟨M, hM⟩ : ∃ M : Nat, (M : Int) = -D := ⟨(-D).toNat, by have := hc.ng; omega⟩
  obtain ⟨i, j, hij, hjN, he⟩ := pigeon ((M + 1) * (2 * M + 1)) (fun k => (Go.Proofs.Ytehbkmohfipmgaa.pw c k).1.toNat * (2 * M + 1) + ((Go.Proofs.Ytehbkmohfipmgaa.pw c k).2.1 + M).toNat) (fun k _ => by
    have h := hc.pw k
    have h1 := el_le h
    have h2 : 1 ≤ (Go.Proofs.Ytehbkmohfipmgaa.pw c k).1 := h.rd.1
    have h3 := h.rd.2.1
    have h4 := h.rd.2.2.1
    have h5 : (Go.Proofs.Ytehbkmohfipmgaa.pw c k).1.toNat * (2 * M + 1) ≤ M * (2 * M + 1) := Nat.mul_le_mul_right _ (by omega)
    have h6 : (M + 1) * (2 * M + 1) = M * (2 * M + 1) + (2 * M + 1) := by rw [Nat.add_mul, Nat.one_mul]
    show _ + _ < _
    omega)
  have hpw : Go.Proofs.Ytehbkmohfipmgaa.pw c i = Go.Proofs.Ytehbkmohfipmgaa.pw c j := by
    have h := hc.pw i
    have h' := hc.pw j
    have a1 := el_le h; have a2 : 1 ≤ (Go.Proofs.Ytehbkmohfipmgaa.pw c i).1 := h.rd.1; have a3 := h.rd.2.1; have a4 := h.rd.2.2.1
    have b1 := el_le h'; have b2 : 1 ≤ (Go.Proofs.Ytehbkmohfipmgaa.pw c j).1 := h'.rd.1; have b3 := h'.rd.2.1; have b4 := h'.rd.2.2.1
    have he : (Go.Proofs.Ytehbkmohfipmgaa.pw c i).1.toNat * (2 * M + 1) + ((Go.Proofs.Ytehbkmohfipmgaa.pw c i).2.1 + M).toNat = (Go.Proofs.Ytehbkmohfipmgaa.pw c j).1.toNat * (2 * M + 1) + ((Go.Proofs.Ytehbkmohfipmgaa.pw c j).2.1 + M).toNat := he
    have e1 : (Go.Proofs.Ytehbkmohfipmgaa.pw c i).1.toNat = (Go.Proofs.Ytehbkmohfipmgaa.pw c j).1.toNat := by
      have u1 : ((Go.Proofs.Ytehbkmohfipmgaa.pw c i).2.1 + M).toNat < 2 * M + 1 := by omega
      have u2 : ((Go.Proofs.Ytehbkmohfipmgaa.pw c j).2.1 + M).toNat < 2 * M + 1 := by omega
      generalize (Go.Proofs.Ytehbkmohfipmgaa.pw c i).1.toNat = x at *
      generalize (Go.Proofs.Ytehbkmohfipmgaa.pw c j).1.toNat = y at *
      rcases Nat.lt_trichotomy x y with h | h | h
      · have : (x + 1) * (2 * M + 1) ≤ y * (2 * M + 1) := Nat.mul_le_mul_right _ h
        rw [Nat.add_mul, Nat.one_mul] at this
        omega
      · exact h
      · have : (y + 1) * (2 * M + 1) ≤ x * (2 * M + 1) := Nat.mul_le_mul_right _ h
        rw [Nat.add_mul, Nat.one_mul] at this
        omega
    rw [e1] at he
    exact el_same h h' (by omega) (by omega)
  -- cancel i times
  have hback : ∀ i j, i < j → Go.Proofs.Ytehbkmohfipmgaa.pw c i = Go.Proofs.Ytehbkmohfipmgaa.pw c j → Go.Proofs.Ytehbkmohfipmgaa.pw c 0 = Go.Proofs.Ytehbkmohfipmgaa.pw c (j - i) := by
    intro i
    induction i with
    | zero => intro j _ h; exact h
    | succ i ih =>
      intro j hj h
      obtain ⟨l, rfl⟩ : ∃ l, j = l + 1 := ⟨j - 1, by omega⟩
      have := El.cancel (hc.pw i) (hc.pw l) hc h
      rw [show l + 1 - (i + 1) = l - i by omega]
      exact ih l (by omega) this
  have h0 := hback i j hij hpw
  obtain ⟨l, hl⟩ : ∃ l, j - i = l + 1 := ⟨j - i - 1, by omega⟩
  rw [hl] at h0
  refine ⟨l, ?_, ?_⟩
  · have : ((M + 1) * (2 * M + 1) : Nat) = ((-D + 1) * (2 * -D + 1) : Int) := by rw [← hM]; push_cast; rfl
    rw [← this]
    have : l < (M + 1) * (2 * M + 1) := by omega
    exact_mod_cast this
  · refine (El.cancel (un_el' hc) (hc.pw l) hc ?_).symm
    rw [un_cp hc]
    exact h0

end Go.Proofs.Ytehbkmohfipmgaa

/- Chapter 10: centered forms and reduction by the program. -/
namespace Go.Proofs.Ytehbkmohfipmgaa
open Go.RowKit

set_option maxRecDepth 100000 in
set_option maxHeartbeats 2000000 in
theorem centered_any (p q r D : Int) (w : World) (h : Pos D (p, q, r)) (hD : -2000 ≤ D) (hs : Sm (p, q, r)) :
    Calls Try.prog 72 #[.agg #[.int .i64 p, .int .i64 q, .int .i64 r]] w fun e w' => e = .returned (.agg #[.int .i64 p, .int .i64 (cm p q), .int .i64 (cn p q r)]) ∧ Below w.heap.size w w' := by
  have hp : 1 ≤ p := h.1
  have he : q * q - 4 * p * r = D := h.2.1
  have hD0 := h.2.2
  obtain ⟨s1, s2, s3⟩ := hs
  have s1 : p ≤ 1000000000 := s1
  have s2 : -1000000000 ≤ q := s2
  have s3 : q ≤ 1000000000 := s3
  have hqq := mulb (A := 1000000000) (B := 1000000000) ⟨s2, s3⟩ ⟨s2, s3⟩
  have hdq : dq p q r = D := by rw [dq_in (by omega) (by omega)]; exact he
  have hb := cm_bd (p := p) (q := q) hp
  have c1 := fun W => restBy_any (p - q) (2 * p) W (by omega) (by omega)
  have c2 := fun W => iQd_any p q r W
  have c3 := fun W => wdisc_any p (cm p q) D W ⟨hp, by omega⟩ ⟨by omega, by omega⟩ ⟨by omega, by omega⟩
  have hm : cm p q = p - (p - q) % (2 * p) := rfl
  have m1 := Int.emod_nonneg (p - q) (b := 2 * p) (by omega)
  have m2 := Int.emod_lt_of_pos (p - q) (b := 2 * p) (by omega)
  rw [hdq] at c2
  rw [thd_cm hp he] at c3
  generalize (p - q) % (2 * p) = x at c1 hm m1 m2
  generalize cm p q = m at c3 hm ⊢
  generalize cn p q r = z at c3 ⊢
  have C1 := hid c1; have C2 := hid c2; have C3 := hid c3; have HM := hid hm
  clear c1 c2 c3 hm hb hdq hqq he h
  have A0 := (Arr3.new w p q r 25).alloc (.cells #[.int .i64 0, .int .i64 0, .int .i64 0] 25)
  have B0 := Arr3.new (w.alloc (.cells #[.int .i64 p, .int .i64 q, .int .i64 r] 25)) 0 0 0 25
  have U0 := gr_alloc (gr_alloc (Below.refl w.heap.size w) (.cells #[.int .i64 p, .int .i64 q, .int .i64 r] 25)) (.cells #[.int .i64 0, .int .i64 0, .int .i64 0] 25)
  simp only [World.size_alloc] at B0
  go_enter Try.func72, Try.ntmps72
  go_upto_region 1 with fail
  generalize (w.alloc (.cells #[.int .i64 p, .int .i64 q, .int .i64 r] 25)).alloc (.cells #[.int .i64 0, .int .i64 0, .int .i64 0] 25) = W0 at A0 B0 U0 ⊢
  obtain ⟨_, a0, a1, a2, _⟩ := id A0
  go_quiet ((go_at_call 82; exact quiet_s (C1.out _)))
  go_upto_region 2 with fail
  generalize hWn : World.drewN _ _ = W1
  have A1 := hWn ▸ A0.drewN _
  have B1 := hWn ▸ B0.drewN _
  have U1 := hWn ▸ gr_drewN U0 _
  clear hWn a0 a1 a2 A0 B0 U0
  obtain ⟨_, a0, a1, a2, _⟩ := id A1
  obtain ⟨hl, b0, b1, b2, f0, f1, f2⟩ := id B1
  have hm := HM.out
  rw [← hm]
  clear hm
  go_region_held3 (fun W => W.cell? ⟨w.heap.size, 0, none⟩ = some (.int .i64 p) ∧ W.cell? ⟨w.heap.size, 1, none⟩ = some (.int .i64 q) ∧ W.cell? ⟨w.heap.size, 2, none⟩ = some (.int .i64 r)) (refine cells3 ?_ <;> (repeat (first | with_reducible assumption | with_reducible exact Arr.box (by assumption) | with_reducible exact Box.new _ _ _ _ _ _ | with_reducible exact Arr.new _ _ _ _ _ _ | with_reducible refine Arr.drew ?_ | with_reducible refine Arr.drewN ?_ _ | with_reducible refine Arr.store4 ?_ | with_reducible refine Arr.alloc ?_ _ | with_reducible refine Box.drew ?_ | with_reducible refine Box.drewN ?_ _ | with_reducible refine Box.alloc ?_ _ | with_reducible refine Arr.next ?_ (by assumption) | with_reducible refine Box.next ?_ (by assumption) | refine Arr.oth ?_ (by first | (simp; done) | omega | (simp; omega)) _ | refine Box.oth ?_ (by first | (simp; done) | omega | (simp; omega)) _ | with_reducible exact Arr3.box (by assumption) | with_reducible exact Box3.new _ _ _ _ _ | with_reducible exact Arr3.new _ _ _ _ _ | with_reducible refine Arr3.drew ?_ | with_reducible refine Arr3.drewN ?_ _ | with_reducible refine Arr3.store3 ?_ | with_reducible refine Arr3.alloc ?_ _ | with_reducible refine Box3.drew ?_ | with_reducible refine Box3.drewN ?_ _ | with_reducible refine Box3.alloc ?_ _ | with_reducible refine Arr3.next ?_ (by assumption) | with_reducible refine Box3.next ?_ (by assumption) | refine Arr3.oth ?_ (by first | (simp; done) | omega | (simp; omega)) _ | refine Box3.oth ?_ (by first | (simp; done) | omega | (simp; omega)) _))) (first | (go_at_call 51; refine (C2.out _).mono ?_; rintro e v1 ⟨rfl, hv1⟩) | (go_at_call 50; refine (C3.out _).mono ?_; rintro e v2 ⟨rfl, hv2⟩; have K2 := (B1.drew.next hv1).next hv2; obtain ⟨_, b0, b1, b2, f0, f1, f2⟩ := id K2))
  all_goals (go_wp2; refine bodyPost_ret (res_A31 (e := 2) rfl Try.underlying25 (by kernel_rfl) rfl (by (repeat (first | with_reducible assumption | with_reducible exact Arr.box (by assumption) | with_reducible exact Box.new _ _ _ _ _ _ | with_reducible exact Arr.new _ _ _ _ _ _ | with_reducible refine Arr.drew ?_ | with_reducible refine Arr.drewN ?_ _ | with_reducible refine Arr.store4 ?_ | with_reducible refine Arr.alloc ?_ _ | with_reducible refine Box.drew ?_ | with_reducible refine Box.drewN ?_ _ | with_reducible refine Box.alloc ?_ _ | with_reducible refine Arr.next ?_ (by assumption) | with_reducible refine Box.next ?_ (by assumption) | refine Arr.oth ?_ (by first | (simp; done) | omega | (simp; omega)) _ | refine Box.oth ?_ (by first | (simp; done) | omega | (simp; omega)) _ | with_reducible exact Arr3.box (by assumption) | with_reducible exact Box3.new _ _ _ _ _ | with_reducible exact Arr3.new _ _ _ _ _ | with_reducible refine Arr3.drew ?_ | with_reducible refine Arr3.drewN ?_ _ | with_reducible refine Arr3.store3 ?_ | with_reducible refine Arr3.alloc ?_ _ | with_reducible refine Box3.drew ?_ | with_reducible refine Box3.drewN ?_ _ | with_reducible refine Box3.alloc ?_ _ | with_reducible refine Arr3.next ?_ (by assumption) | with_reducible refine Box3.next ?_ (by assumption) | refine Arr3.oth ?_ (by first | (simp; done) | omega | (simp; omega)) _ | refine Box3.oth ?_ (by first | (simp; done) | omega | (simp; omega)) _)))) rfl ?_; exact ⟨rfl, by (repeat' (first | with_reducible exact Below.refl _ _ | with_reducible assumption | with_reducible refine gr_alloc ?_ _ | with_reducible refine gr_drew ?_ | with_reducible refine gr_drewN ?_ _ | with_reducible refine gr_trans ?_ (by assumption) | with_reducible refine gr_set ?_ ?_ _ | (simp; done) | omega | (simp; omega)))⟩)

set_option maxRecDepth 100000 in
set_option maxHeartbeats 2000000 in
theorem reduced_any (p q r D : Int) (w : World) (h : Pos D (p, q, r)) (hD : -2000 ≤ D) (hs : Sm (p, q, r)) :
    Calls Try.prog 41 #[.agg #[.int .i64 p, .int .i64 q, .int .i64 r]] w fun e w' => e = .returned (.agg #[.int .i64 ((red (p, q, r)).1), .int .i64 ((red (p, q, r)).2.1), .int .i64 ((red (p, q, r)).2.2)]) ∧ Below w.heap.size w w' := by
  have c1 := fun W => centered_any p q r D W h hD hs
  have hF := Fn.red h
  have HI := hid (show rdn ((p, q, r).1.toNat + 1) (p, q, r) = red (p, q, r) from rfl)
  obtain ⟨RS, hRS⟩ : ∃ RS, RS = red (p, q, r) := ⟨_, rfl⟩
  rw [← hRS] at HI ⊢
  clear hRS
  have C1 := hid c1; have HP := hid h; have HS := hid hs; have HF := hid hF
  have A0 := (Arr3.new w p q r 25).alloc (.cells #[.int .i64 0, .int .i64 0, .int .i64 0] 25)
  have B0 := Arr3.new (w.alloc (.cells #[.int .i64 p, .int .i64 q, .int .i64 r] 25)) 0 0 0 25
  have U0 := gr_alloc (gr_alloc (Below.refl w.heap.size w) (.cells #[.int .i64 p, .int .i64 q, .int .i64 r] 25)) (.cells #[.int .i64 0, .int .i64 0, .int .i64 0] 25)
  simp only [World.size_alloc] at B0
  clear c1 h hs hF
  go_enter Try.func41, Try.ntmps41
  go_wp2_with fail
  refine (C1.out _).mono ?_
  rintro e w1 ⟨rfl, hb1⟩
  have B1 := (B0.next hb1).box
  have U1 := gr_trans U0 hb1
  have hz := B0.lt
  have hz1 := hb1.size
  have K1 := Arr3.new w1 p (cm p q) (cn p q r) 25
  have B2 := B1.alloc (.cells #[.int .i64 p, .int .i64 (cm p q), .int .i64 (cn p q r)] 25)
  have HB2 := hid B2
  have HK1 := hid K1
  have HU2 := hid (gr_alloc U1 (.cells #[.int .i64 p, .int .i64 (cm p q), .int .i64 (cn p q r)] 25))
  have hne : w.heap.size + 1 < w1.heap.size := by simp at hz hz1; omega
  have hnw : w.heap.size < w1.heap.size := by omega
  clear A0 B0 U0 B1 U1 K1 B2 hb1 hz hz1
  go_wp2_with fail
  generalize hk3 : w1.heap.size = k3 at *
  go_loopg [] ((p, q, r).1.toNat + 1) (fun g wr => ∃ t : Qd, Arr3 wr k3 (cen t).1 (cen t).2.1 (cen t).2.2 ∧ Fn g t ∧ rdn g t = RS ∧ Pos D t ∧ Sm t ∧ Box3 wr (w.heap.size + 1) ∧ Below w.heap.size w wr)
  case atStart => exact ⟨(p, q, r), HK1.out, HF.out, HI.out, HP.out, HS.out, HB2.out, HU2.out⟩
  case round =>
    obtain ⟨t, hA, hF, hR, hP, hS, hB, hU⟩ := hrel
    have HF2 := hid hF; have HR := hid hR; have HP2 := hid hP; have HS2 := hid hS
    have c3 := fun W => isReduced_any (cen t).1 (cen t).2.1 (cen t).2.2 W
    obtain ⟨g, rfl⟩ : ∃ g, gk = g + 1 := by
      cases gk with
      | zero => exact hF.elim
      | succ g => exact ⟨g, rfl⟩
    have c4 := fun W => centered_any (cen t).2.2 (-(cen t).2.1) (cen t).1 D W hP.cen.swp hD (Sm.step hP hD hS)
    obtain ⟨_, a0, a1, a2, g0, g1, g2⟩ := id hA
    have HA := hid hA; have HBx := hid hB; have HUx := hid hU
    have hbn : -9000000000000000000 ≤ (cen t).2.1 ∧ (cen t).2.1 ≤ 9000000000000000000 := by
      obtain ⟨s1, s2, s3⟩ := Sm.step hP hD hS
      have : -1000000000 ≤ -(cen t).2.1 := s2
      have : -(cen t).2.1 ≤ 1000000000 := s3
      omega
    obtain ⟨n1, n2⟩ := hbn
    have hlast : rdq (cen t) = true → Hid (cen t = RS) := fun e => hid (by rw [← hR]; exact (rdn_done e).symm)
    have hnext : rdq (cen t) = false → Hid (Fn g (swp (cen t)) ∧ rdn g (swp (cen t)) = RS) := fun e => by
      obtain ⟨x, y⟩ := rdn_step e hF
      exact hid ⟨x, by rw [← y]; exact hR⟩
    have HL := hid hlast; have HN := hid hnext
    have hrd : rdb (cen t).1 (cen t).2.1 (cen t).2.2 = rdq (cen t) := rfl
    rw [hrd] at c3
    generalize rdq (cen t) = bb at c3 HL HN
    have HX := hid (show (cen (swp (cen t))).1 = (cen t).2.2 ∧ (cen (swp (cen t))).2.1 = cm (cen t).2.2 (-(cen t).2.1) ∧ (cen (swp (cen t))).2.2 = cn (cen t).2.2 (-(cen t).2.1) (cen t).1 from ⟨rfl, rfl, rfl⟩)
    have HPn := hid hP.cen.swp; have HSn := hid (Sm.step hP hD hS)
    clear hF hR hP hS hA hB hU hlast hnext hrd
    generalize hcn1 : cm (cen t).2.2 (-(cen t).2.1) = y1 at c4 HX
    generalize hcn2 : cn (cen t).2.2 (-(cen t).2.1) (cen t).1 = y2 at c4 HX
    obtain ⟨u, hu⟩ : ∃ u, u = cen t := ⟨_, rfl⟩
    rw [← hu] at *
    have HUU := hid hu
    clear hu hcn1 hcn2
    obtain ⟨u0, u1, u2⟩ := u
    (try dsimp only at *)
    have C3 := hid c3; have C4 := hid c4
    clear c3 c4
    go_wp2_with fail
    refine (C3.out _).mono ?_
    rintro e w2 ⟨rfl, hb2⟩
    have A2 := HA.out.next hb2
    have B2 := HBx.out.next hb2
    have U2 := gr_trans HUx.out hb2
    clear a0 a1 a2 g0 g1 g2
    obtain ⟨_, a0, a1, a2, g0, g1, g2⟩ := id A2
    cases bb with
    | true =>
      have hL := HL.out rfl
      obtain ⟨x0, x1, x2, X⟩ := id B2
      obtain ⟨_, y0, y1, y2, f0, f1, f2⟩ := id X
      go_wp2_with fail
      refine bodyPost_ret (res_A31 (e := 2) rfl Try.underlying25 (by kernel_rfl) rfl (by (repeat (first | with_reducible assumption | with_reducible exact Arr.box (by assumption) | with_reducible exact Box.new _ _ _ _ _ _ | with_reducible exact Arr.new _ _ _ _ _ _ | with_reducible refine Arr.drew ?_ | with_reducible refine Arr.drewN ?_ _ | with_reducible refine Arr.store4 ?_ | with_reducible refine Arr.alloc ?_ _ | with_reducible refine Box.drew ?_ | with_reducible refine Box.drewN ?_ _ | with_reducible refine Box.alloc ?_ _ | with_reducible refine Arr.next ?_ (by assumption) | with_reducible refine Box.next ?_ (by assumption) | refine Arr.oth ?_ (by first | (simp; done) | omega | (simp; omega)) _ | refine Box.oth ?_ (by first | (simp; done) | omega | (simp; omega)) _ | with_reducible exact Arr3.box (by assumption) | with_reducible exact Box3.new _ _ _ _ _ | with_reducible exact Arr3.new _ _ _ _ _ | with_reducible refine Arr3.drew ?_ | with_reducible refine Arr3.drewN ?_ _ | with_reducible refine Arr3.store3 ?_ | with_reducible refine Arr3.alloc ?_ _ | with_reducible refine Box3.drew ?_ | with_reducible refine Box3.drewN ?_ _ | with_reducible refine Box3.alloc ?_ _ | with_reducible refine Arr3.next ?_ (by assumption) | with_reducible refine Box3.next ?_ (by assumption) | refine Arr3.oth ?_ (by first | (simp; done) | omega | (simp; omega)) _ | refine Box3.oth ?_ (by first | (simp; done) | omega | (simp; omega)) _)))) rfl ?_
      rw [← hL.out]
      exact ⟨rfl, by (repeat' (first | with_reducible exact Below.refl _ _ | with_reducible assumption | with_reducible refine gr_alloc ?_ _ | with_reducible refine gr_drew ?_ | with_reducible refine gr_drewN ?_ _ | with_reducible refine gr_trans ?_ (by assumption) | with_reducible refine gr_set ?_ ?_ _ | (simp; done) | omega | (simp; omega)))⟩
    | false =>
      have hNn := HN.out rfl
      go_wp2_with fail
      refine (C4.out _).mono ?_
      rintro e w3 ⟨rfl, hb3⟩
      have A3 := A2.next hb3
      have B3 := B2.next hb3
      have U3 := gr_trans U2 hb3
      clear a0 a1 a2 g0 g1 g2
      obtain ⟨_, a0, a1, a2, g0, g1, g2⟩ := id A3
      go_wp2_with fail
      go_roundg g
      case measure => omega
      case rel =>
        refine ⟨swp (cen t), ?_, ?_, hNn.out.2, HPn.out, HSn.out, ?_, ?_⟩
        · obtain ⟨h1, h2, h3⟩ := HX.out
          rw [h1, h2, h3]
          exact ((A3.set0 _).set1 _).set2 _
        · exact hNn.out.1
        · exact ((B3.oth (by show _ ≠ k3; omega) _).oth (by show _ ≠ k3; omega) _).oth (by show _ ≠ k3; omega) _
        · exact gr_set (gr_set (gr_set U3 (by show _ ≤ k3; omega) _) (by show _ ≤ k3; omega) _) (by show _ ≤ k3; omega) _

end Go.Proofs.Ytehbkmohfipmgaa
