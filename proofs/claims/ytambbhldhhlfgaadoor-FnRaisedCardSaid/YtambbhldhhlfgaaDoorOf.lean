/- Chapter 6: raised, lowered and divided forms, both sides. -/
import Derived.Test.YtambbhldhhlfgaaDoorZ15
import Derived.Test.YtambbhldhhlfgaaDoorZ13
import Derived.Test.YtambbhldhhlfgaaDoorC1j
namespace Go.Proofs.YtambbhldhhlfgaaDoor
open Go.RowKit

/-- The codes of RaiseForm, LowerForm. -/
def rfc (a b c d p r : Int) : Int := stc (fpc a b c d p) p r (rOk a b c d p r) (isF (raA a b c d p r) (raB a b c d p r) (raC a b c d p r) (raD a b c d p r))
def lfc (a b c d p r : Int) : Int := stc (fpc a b c d p) p r (lOk a b c d p r) (isF (loA a b c d p r) (loB a b c d p r) (loC a b c d p r) (loD a b c d p r))

set_option maxRecDepth 100000 in
set_option maxHeartbeats 2000000 in
theorem takeRaise_any (a b c d p r : Int) (w : World) :
    Calls Tryd.prog 74 #[.agg #[.int .i64 a, .int .i64 b, .int .i64 c, .int .i64 d], .int .i64 p, .int .i64 r, .func (.func 75) #[] #[]] w fun e w' => e = .returned (.tuple #[.agg #[.int .i64 (if0 (rfc a b c d p r) (raA a b c d p r)), .int .i64 (if0 (rfc a b c d p r) (raB a b c d p r)), .int .i64 (if0 (rfc a b c d p r) (raC a b c d p r)), .int .i64 (if0 (rfc a b c d p r) (raD a b c d p r))], .int .i64 (rfc a b c d p r)]) ∧ Below w.heap.size w w' := by
  have hC := fun W => iCheckFP_any a b c d p W
  have hS : fpc a b c d p = 0 → 0 ≤ r → r ≤ p → ∀ W, Calls Tryd.prog 75 #[.agg #[.int .i64 a, .int .i64 b, .int .i64 c, .int .i64 d], .int .i64 p, .int .i64 r] W (StP (rOk a b c d p r) (raA a b c d p r) (raB a b c d p r) (raC a b c d p r) (raD a b c d p r) W) := fun h h0 hr W => by
    obtain ⟨hF, hp⟩ := fpc_0.1 h
    obtain ⟨ha, hb, hc, hd⟩ := isF_t hF
    obtain ⟨h2, h97⟩ := prm_rng hp
    exact raisedAt_any a b c d p r W ha hb hc hd h2 h97 h0 hr
  unfold StP at hS
  have hK : rfc a b c d p r = stc (fpc a b c d p) p r (rOk a b c d p r) (isF (raA a b c d p r) (raB a b c d p r) (raC a b c d p r) (raD a b c d p r)) := rfl
  generalize rfc a b c d p r = k at hK ⊢
  generalize fpc a b c d p = f at hC hS hK
  generalize rOk a b c d p r = ok at hS hK
  generalize raA a b c d p r = x at *
  generalize raB a b c d p r = y at *
  generalize raC a b c d p r = z at *
  generalize raD a b c d p r = u at *
  have HC := hid hC; have HS := hid hS; have HK := hid hK
  clear hC hS hK
  have A0 := (Arr.new w a b c d 25).alloc (.cells #[.int .i64 0, .int .i64 0, .int .i64 0, .int .i64 0] 25)
  have R0 := Arr.new (w.alloc (.cells #[.int .i64 a, .int .i64 b, .int .i64 c, .int .i64 d] 25)) 0 0 0 0 25
  have U0 := gr_alloc (gr_alloc (Below.refl w.heap.size w) (.cells #[.int .i64 a, .int .i64 b, .int .i64 c, .int .i64 d] 25)) (.cells #[.int .i64 0, .int .i64 0, .int .i64 0, .int .i64 0] 25)
  simp only [World.size_alloc] at R0
  go_enter Tryd.func74, Tryd.ntmps74
  go_wp2_with fail
  refine (HC.out _).mono ?_
  rintro e w1 ⟨rfl, hb1⟩
  have A1 := A0.next hb1
  have R1 := R0.next hb1
  have U1 := gr_trans U0 hb1
  obtain ⟨_, a0, a1, a2, a3, _⟩ := id A1
  obtain ⟨_, r0, r1, r2, r3, f0, f1, f2, f3⟩ := id R1
  by_cases hf : f = 0
  · by_cases h0 : 0 ≤ r
    · by_cases hr : r ≤ p
      · have HS1 := hid (HS.out hf h0 hr)
        subst hf
        go_wp2_with fail
        refine (HS1.out _).mono ?_
        rintro e w2 ⟨rfl, hb2⟩
        have R2 := (R1.next hb2).alloc (.cells #[.int .i64 (ifB ok x), .int .i64 (ifB ok y), .int .i64 (ifB ok z), .int .i64 (ifB ok u)] 25)
        have U2 := gr_alloc (gr_trans U1 hb2) (.cells #[.int .i64 (ifB ok x), .int .i64 (ifB ok y), .int .i64 (ifB ok z), .int .i64 (ifB ok u)] 25)
        clear a0 a1 a2 a3 r0 r1 r2 r3 f0 f1 f2 f3
        obtain ⟨_, r0, r1, r2, r3, f0, f1, f2, f3⟩ := id R2
        cases ok with
        | false =>
          have HE := hid (show k = 5 by rw [HK.out]; simp [stc, h0, hr])
          go_wp2_with fail
          refine bodyPost_ret (res_A (e := 2) rfl Tryd.underlying25 (by kernel_rfl) rfl (by (repeat (first | with_reducible assumption | with_reducible exact Arr.box (by assumption) | with_reducible apply Arr.drew | with_reducible apply Arr.drewN | with_reducible refine Arr.store4 ?_ | with_reducible apply Arr.alloc | with_reducible refine Box.drew ?_ | with_reducible refine Box.drewN ?_ _ | with_reducible refine Box.alloc ?_ _ | refine Arr.oth ?_ (by first | (simp; done) | omega | (simp; omega)) _ | refine Box.oth ?_ (by first | (simp; done) | omega | (simp; omega)) _)))) rfl ?_
          rw [HE.out]
          exact ⟨rfl, by (repeat' (first | with_reducible exact Below.refl _ _ | with_reducible assumption | with_reducible refine gr_alloc ?_ _ | with_reducible refine gr_drew ?_ | with_reducible refine gr_drewN ?_ _ | with_reducible refine gr_trans ?_ (by assumption) | with_reducible refine gr_set ?_ ?_ _ | (simp; done) | omega | (simp; omega)))⟩
        | true =>
          have HE := hid (show k = if isF x y z u then 0 else 3 by rw [HK.out]; simp [stc, h0, hr])
          have hv : ∀ v, ifF x y z u v = if0 (if isF x y z u then 0 else 3) v := by intro v; unfold ifF if0; split <;> simp
          have hL := fun W => iLimit_any x y z u W
          simp only [hv] at hL
          generalize (if isF x y z u = true then (0 : Int) else 3) = q at hL HE
          have HL := hid hL
          clear hL hv
          simp only [ifB, if_true] at r0 r1 r2 r3 R2 U2
          go_wp2_with fail
          refine (HL.out _).mono ?_
          rintro e w3 ⟨rfl, hb3⟩
          have R3 := R2.next hb3
          have U3 := gr_trans U2 hb3
          clear r0 r1 r2 r3 f0 f1 f2 f3
          obtain ⟨_, r0, r1, r2, r3, f0, f1, f2, f3⟩ := id R3
          go_wp2_with fail
          refine bodyPost_ret (res_A (e := 2) rfl Tryd.underlying25 (by kernel_rfl) rfl (by (repeat (first | with_reducible assumption | with_reducible exact Arr.box (by assumption) | with_reducible apply Arr.drew | with_reducible apply Arr.drewN | with_reducible refine Arr.store4 ?_ | with_reducible apply Arr.alloc | with_reducible refine Box.drew ?_ | with_reducible refine Box.drewN ?_ _ | with_reducible refine Box.alloc ?_ _ | refine Arr.oth ?_ (by first | (simp; done) | omega | (simp; omega)) _ | refine Box.oth ?_ (by first | (simp; done) | omega | (simp; omega)) _)))) rfl ?_
          rw [HE.out]
          exact ⟨rfl, by (repeat' (first | with_reducible exact Below.refl _ _ | with_reducible assumption | with_reducible refine gr_alloc ?_ _ | with_reducible refine gr_drew ?_ | with_reducible refine gr_drewN ?_ _ | with_reducible refine gr_trans ?_ (by assumption) | with_reducible refine gr_set ?_ ?_ _ | (simp; done) | omega | (simp; omega)))⟩
      · have HE := hid (show k = 2 by rw [HK.out]; simp [stc, hf, hr])
        subst hf
        go_wp2_with fail
        refine bodyPost_ret (res_A (e := 2) rfl Tryd.underlying25 (by kernel_rfl) rfl (by (repeat (first | with_reducible assumption | with_reducible exact Arr.box (by assumption) | with_reducible apply Arr.drew | with_reducible apply Arr.drewN | with_reducible refine Arr.store4 ?_ | with_reducible apply Arr.alloc | with_reducible refine Box.drew ?_ | with_reducible refine Box.drewN ?_ _ | with_reducible refine Box.alloc ?_ _ | refine Arr.oth ?_ (by first | (simp; done) | omega | (simp; omega)) _ | refine Box.oth ?_ (by first | (simp; done) | omega | (simp; omega)) _)))) rfl ?_
        rw [HE.out]
        exact ⟨rfl, by (repeat' (first | with_reducible exact Below.refl _ _ | with_reducible assumption | with_reducible refine gr_alloc ?_ _ | with_reducible refine gr_drew ?_ | with_reducible refine gr_drewN ?_ _ | with_reducible refine gr_trans ?_ (by assumption) | with_reducible refine gr_set ?_ ?_ _ | (simp; done) | omega | (simp; omega)))⟩
    · have HE := hid (show k = 2 by rw [HK.out]; simp [stc, hf, h0])
      subst hf
      go_wp2_with fail
      refine bodyPost_ret (res_A (e := 2) rfl Tryd.underlying25 (by kernel_rfl) rfl (by (repeat (first | with_reducible assumption | with_reducible exact Arr.box (by assumption) | with_reducible apply Arr.drew | with_reducible apply Arr.drewN | with_reducible refine Arr.store4 ?_ | with_reducible apply Arr.alloc | with_reducible refine Box.drew ?_ | with_reducible refine Box.drewN ?_ _ | with_reducible refine Box.alloc ?_ _ | refine Arr.oth ?_ (by first | (simp; done) | omega | (simp; omega)) _ | refine Box.oth ?_ (by first | (simp; done) | omega | (simp; omega)) _)))) rfl ?_
      rw [HE.out]
      exact ⟨rfl, by (repeat' (first | with_reducible exact Below.refl _ _ | with_reducible assumption | with_reducible refine gr_alloc ?_ _ | with_reducible refine gr_drew ?_ | with_reducible refine gr_drewN ?_ _ | with_reducible refine gr_trans ?_ (by assumption) | with_reducible refine gr_set ?_ ?_ _ | (simp; done) | omega | (simp; omega)))⟩
  · have HE := hid (show k = f by rw [HK.out]; simp [stc, hf])
    have hn : if0 k x = 0 ∧ if0 k y = 0 ∧ if0 k z = 0 ∧ if0 k u = 0 := by rw [HE.out]; simp [if0, hf]
    have HN := hid hn
    have hf' : (f == 0) = false := by simpa using hf
    clear hf hn
    go_wp2_with fail
    refine bodyPost_ret (res_A (e := 2) rfl Tryd.underlying25 (by kernel_rfl) rfl (by (repeat (first | with_reducible assumption | with_reducible exact Arr.box (by assumption) | with_reducible apply Arr.drew | with_reducible apply Arr.drewN | with_reducible refine Arr.store4 ?_ | with_reducible apply Arr.alloc | with_reducible refine Box.drew ?_ | with_reducible refine Box.drewN ?_ _ | with_reducible refine Box.alloc ?_ _ | refine Arr.oth ?_ (by first | (simp; done) | omega | (simp; omega)) _ | refine Box.oth ?_ (by first | (simp; done) | omega | (simp; omega)) _)))) rfl ?_
    rw [HN.out.1, HN.out.2.1, HN.out.2.2.1, HN.out.2.2.2, HE.out]
    exact ⟨rfl, by (repeat' (first | with_reducible exact Below.refl _ _ | with_reducible assumption | with_reducible refine gr_alloc ?_ _ | with_reducible refine gr_drew ?_ | with_reducible refine gr_drewN ?_ _ | with_reducible refine gr_trans ?_ (by assumption) | with_reducible refine gr_set ?_ ?_ _ | (simp; done) | omega | (simp; omega)))⟩

set_option maxHeartbeats 400000 in
theorem iRaiseForm_any (a b c d p r : Int) (w : World) :
    Calls Tryd.prog 9 #[.agg #[.int .i64 a, .int .i64 b, .int .i64 c, .int .i64 d], .int .i64 p, .int .i64 r] w fun e w' => e = .returned (.tuple #[.agg #[.int .i64 (if0 (rfc a b c d p r) (raA a b c d p r)), .int .i64 (if0 (rfc a b c d p r) (raB a b c d p r)), .int .i64 (if0 (rfc a b c d p r) (raC a b c d p r)), .int .i64 (if0 (rfc a b c d p r) (raD a b c d p r))], .int .i64 (rfc a b c d p r)]) ∧ Below w.heap.size w w' := by
  have hC := fun W => takeRaise_any a b c d p r W
  generalize rfc a b c d p r = k at hC ⊢
  generalize raA a b c d p r = x at *
  generalize raB a b c d p r = y at *
  generalize raC a b c d p r = z at *
  generalize raD a b c d p r = u at *
  generalize if0 k x = x' at *
  generalize if0 k y = y' at *
  generalize if0 k z = z' at *
  generalize if0 k u = u' at *
  have HC := hid hC
  clear hC
  have R0 := Arr.new (w.alloc (.cells #[.int .i64 a, .int .i64 b, .int .i64 c, .int .i64 d] 25)) 0 0 0 0 25
  have U0 := gr_alloc (gr_alloc (Below.refl w.heap.size w) (.cells #[.int .i64 a, .int .i64 b, .int .i64 c, .int .i64 d] 25)) (.cells #[.int .i64 0, .int .i64 0, .int .i64 0, .int .i64 0] 25)
  simp only [World.size_alloc] at R0
  go_enter Tryd.func9, Tryd.ntmps9
  go_wp2_with fail
  refine (HC.out _).mono ?_
  rintro e w1 ⟨rfl, hb1⟩
  have R1 := R0.next hb1
  have U1 := gr_trans U0 hb1
  obtain ⟨_, r0, r1, r2, r3, f0, f1, f2, f3⟩ := id R1
  go_wp2_with fail
  refine bodyPost_ret (res_A (e := 2) rfl Tryd.underlying25 (by kernel_rfl) rfl (by (repeat (first | with_reducible assumption | with_reducible exact Arr.box (by assumption) | with_reducible apply Arr.drew | with_reducible apply Arr.drewN | with_reducible refine Arr.store4 ?_ | with_reducible apply Arr.alloc | with_reducible refine Box.drew ?_ | with_reducible refine Box.drewN ?_ _ | with_reducible refine Box.alloc ?_ _ | refine Arr.oth ?_ (by first | (simp; done) | omega | (simp; omega)) _ | refine Box.oth ?_ (by first | (simp; done) | omega | (simp; omega)) _)))) rfl ?_
  exact ⟨rfl, by (repeat' (first | with_reducible exact Below.refl _ _ | with_reducible assumption | with_reducible refine gr_alloc ?_ _ | with_reducible refine gr_drew ?_ | with_reducible refine gr_drewN ?_ _ | with_reducible refine gr_trans ?_ (by assumption) | with_reducible refine gr_set ?_ ?_ _ | (simp; done) | omega | (simp; omega)))⟩

set_option maxRecDepth 100000 in
set_option maxHeartbeats 2000000 in
theorem takeLower_any (a b c d p r : Int) (w : World) :
    Calls Tryd.prog 74 #[.agg #[.int .i64 a, .int .i64 b, .int .i64 c, .int .i64 d], .int .i64 p, .int .i64 r, .func (.func 80) #[] #[]] w fun e w' => e = .returned (.tuple #[.agg #[.int .i64 (if0 (lfc a b c d p r) (loA a b c d p r)), .int .i64 (if0 (lfc a b c d p r) (loB a b c d p r)), .int .i64 (if0 (lfc a b c d p r) (loC a b c d p r)), .int .i64 (if0 (lfc a b c d p r) (loD a b c d p r))], .int .i64 (lfc a b c d p r)]) ∧ Below w.heap.size w w' := by
  have hC := fun W => iCheckFP_any a b c d p W
  have hS : fpc a b c d p = 0 → 0 ≤ r → r ≤ p → ∀ W, Calls Tryd.prog 80 #[.agg #[.int .i64 a, .int .i64 b, .int .i64 c, .int .i64 d], .int .i64 p, .int .i64 r] W (StP (lOk a b c d p r) (loA a b c d p r) (loB a b c d p r) (loC a b c d p r) (loD a b c d p r) W) := fun h h0 hr W => by
    obtain ⟨hF, hp⟩ := fpc_0.1 h
    obtain ⟨ha, hb, hc, hd⟩ := isF_t hF
    obtain ⟨h2, h97⟩ := prm_rng hp
    exact loweredAt_any a b c d p r W ha hb hc hd h2 h97 h0 hr
  unfold StP at hS
  have hK : lfc a b c d p r = stc (fpc a b c d p) p r (lOk a b c d p r) (isF (loA a b c d p r) (loB a b c d p r) (loC a b c d p r) (loD a b c d p r)) := rfl
  generalize lfc a b c d p r = k at hK ⊢
  generalize fpc a b c d p = f at hC hS hK
  generalize lOk a b c d p r = ok at hS hK
  generalize loA a b c d p r = x at *
  generalize loB a b c d p r = y at *
  generalize loC a b c d p r = z at *
  generalize loD a b c d p r = u at *
  have HC := hid hC; have HS := hid hS; have HK := hid hK
  clear hC hS hK
  have A0 := (Arr.new w a b c d 25).alloc (.cells #[.int .i64 0, .int .i64 0, .int .i64 0, .int .i64 0] 25)
  have R0 := Arr.new (w.alloc (.cells #[.int .i64 a, .int .i64 b, .int .i64 c, .int .i64 d] 25)) 0 0 0 0 25
  have U0 := gr_alloc (gr_alloc (Below.refl w.heap.size w) (.cells #[.int .i64 a, .int .i64 b, .int .i64 c, .int .i64 d] 25)) (.cells #[.int .i64 0, .int .i64 0, .int .i64 0, .int .i64 0] 25)
  simp only [World.size_alloc] at R0
  go_enter Tryd.func74, Tryd.ntmps74
  go_wp2_with fail
  refine (HC.out _).mono ?_
  rintro e w1 ⟨rfl, hb1⟩
  have A1 := A0.next hb1
  have R1 := R0.next hb1
  have U1 := gr_trans U0 hb1
  obtain ⟨_, a0, a1, a2, a3, _⟩ := id A1
  obtain ⟨_, r0, r1, r2, r3, f0, f1, f2, f3⟩ := id R1
  by_cases hf : f = 0
  · by_cases h0 : 0 ≤ r
    · by_cases hr : r ≤ p
      · have HS1 := hid (HS.out hf h0 hr)
        subst hf
        go_wp2_with fail
        refine (HS1.out _).mono ?_
        rintro e w2 ⟨rfl, hb2⟩
        have R2 := (R1.next hb2).alloc (.cells #[.int .i64 (ifB ok x), .int .i64 (ifB ok y), .int .i64 (ifB ok z), .int .i64 (ifB ok u)] 25)
        have U2 := gr_alloc (gr_trans U1 hb2) (.cells #[.int .i64 (ifB ok x), .int .i64 (ifB ok y), .int .i64 (ifB ok z), .int .i64 (ifB ok u)] 25)
        clear a0 a1 a2 a3 r0 r1 r2 r3 f0 f1 f2 f3
        obtain ⟨_, r0, r1, r2, r3, f0, f1, f2, f3⟩ := id R2
        cases ok with
        | false =>
          have HE := hid (show k = 5 by rw [HK.out]; simp [stc, h0, hr])
          go_wp2_with fail
          refine bodyPost_ret (res_A (e := 2) rfl Tryd.underlying25 (by kernel_rfl) rfl (by (repeat (first | with_reducible assumption | with_reducible exact Arr.box (by assumption) | with_reducible apply Arr.drew | with_reducible apply Arr.drewN | with_reducible refine Arr.store4 ?_ | with_reducible apply Arr.alloc | with_reducible refine Box.drew ?_ | with_reducible refine Box.drewN ?_ _ | with_reducible refine Box.alloc ?_ _ | refine Arr.oth ?_ (by first | (simp; done) | omega | (simp; omega)) _ | refine Box.oth ?_ (by first | (simp; done) | omega | (simp; omega)) _)))) rfl ?_
          rw [HE.out]
          exact ⟨rfl, by (repeat' (first | with_reducible exact Below.refl _ _ | with_reducible assumption | with_reducible refine gr_alloc ?_ _ | with_reducible refine gr_drew ?_ | with_reducible refine gr_drewN ?_ _ | with_reducible refine gr_trans ?_ (by assumption) | with_reducible refine gr_set ?_ ?_ _ | (simp; done) | omega | (simp; omega)))⟩
        | true =>
          have HE := hid (show k = if isF x y z u then 0 else 3 by rw [HK.out]; simp [stc, h0, hr])
          have hv : ∀ v, ifF x y z u v = if0 (if isF x y z u then 0 else 3) v := by intro v; unfold ifF if0; split <;> simp
          have hL := fun W => iLimit_any x y z u W
          simp only [hv] at hL
          generalize (if isF x y z u = true then (0 : Int) else 3) = q at hL HE
          have HL := hid hL
          clear hL hv
          simp only [ifB, if_true] at r0 r1 r2 r3 R2 U2
          go_wp2_with fail
          refine (HL.out _).mono ?_
          rintro e w3 ⟨rfl, hb3⟩
          have R3 := R2.next hb3
          have U3 := gr_trans U2 hb3
          clear r0 r1 r2 r3 f0 f1 f2 f3
          obtain ⟨_, r0, r1, r2, r3, f0, f1, f2, f3⟩ := id R3
          go_wp2_with fail
          refine bodyPost_ret (res_A (e := 2) rfl Tryd.underlying25 (by kernel_rfl) rfl (by (repeat (first | with_reducible assumption | with_reducible exact Arr.box (by assumption) | with_reducible apply Arr.drew | with_reducible apply Arr.drewN | with_reducible refine Arr.store4 ?_ | with_reducible apply Arr.alloc | with_reducible refine Box.drew ?_ | with_reducible refine Box.drewN ?_ _ | with_reducible refine Box.alloc ?_ _ | refine Arr.oth ?_ (by first | (simp; done) | omega | (simp; omega)) _ | refine Box.oth ?_ (by first | (simp; done) | omega | (simp; omega)) _)))) rfl ?_
          rw [HE.out]
          exact ⟨rfl, by (repeat' (first | with_reducible exact Below.refl _ _ | with_reducible assumption | with_reducible refine gr_alloc ?_ _ | with_reducible refine gr_drew ?_ | with_reducible refine gr_drewN ?_ _ | with_reducible refine gr_trans ?_ (by assumption) | with_reducible refine gr_set ?_ ?_ _ | (simp; done) | omega | (simp; omega)))⟩
      · have HE := hid (show k = 2 by rw [HK.out]; simp [stc, hf, hr])
        subst hf
        go_wp2_with fail
        refine bodyPost_ret (res_A (e := 2) rfl Tryd.underlying25 (by kernel_rfl) rfl (by (repeat (first | with_reducible assumption | with_reducible exact Arr.box (by assumption) | with_reducible apply Arr.drew | with_reducible apply Arr.drewN | with_reducible refine Arr.store4 ?_ | with_reducible apply Arr.alloc | with_reducible refine Box.drew ?_ | with_reducible refine Box.drewN ?_ _ | with_reducible refine Box.alloc ?_ _ | refine Arr.oth ?_ (by first | (simp; done) | omega | (simp; omega)) _ | refine Box.oth ?_ (by first | (simp; done) | omega | (simp; omega)) _)))) rfl ?_
        rw [HE.out]
        exact ⟨rfl, by (repeat' (first | with_reducible exact Below.refl _ _ | with_reducible assumption | with_reducible refine gr_alloc ?_ _ | with_reducible refine gr_drew ?_ | with_reducible refine gr_drewN ?_ _ | with_reducible refine gr_trans ?_ (by assumption) | with_reducible refine gr_set ?_ ?_ _ | (simp; done) | omega | (simp; omega)))⟩
    · have HE := hid (show k = 2 by rw [HK.out]; simp [stc, hf, h0])
      subst hf
      go_wp2_with fail
      refine bodyPost_ret (res_A (e := 2) rfl Tryd.underlying25 (by kernel_rfl) rfl (by (repeat (first | with_reducible assumption | with_reducible exact Arr.box (by assumption) | with_reducible apply Arr.drew | with_reducible apply Arr.drewN | with_reducible refine Arr.store4 ?_ | with_reducible apply Arr.alloc | with_reducible refine Box.drew ?_ | with_reducible refine Box.drewN ?_ _ | with_reducible refine Box.alloc ?_ _ | refine Arr.oth ?_ (by first | (simp; done) | omega | (simp; omega)) _ | refine Box.oth ?_ (by first | (simp; done) | omega | (simp; omega)) _)))) rfl ?_
      rw [HE.out]
      exact ⟨rfl, by (repeat' (first | with_reducible exact Below.refl _ _ | with_reducible assumption | with_reducible refine gr_alloc ?_ _ | with_reducible refine gr_drew ?_ | with_reducible refine gr_drewN ?_ _ | with_reducible refine gr_trans ?_ (by assumption) | with_reducible refine gr_set ?_ ?_ _ | (simp; done) | omega | (simp; omega)))⟩
  · have HE := hid (show k = f by rw [HK.out]; simp [stc, hf])
    have hn : if0 k x = 0 ∧ if0 k y = 0 ∧ if0 k z = 0 ∧ if0 k u = 0 := by rw [HE.out]; simp [if0, hf]
    have HN := hid hn
    have hf' : (f == 0) = false := by simpa using hf
    clear hf hn
    go_wp2_with fail
    refine bodyPost_ret (res_A (e := 2) rfl Tryd.underlying25 (by kernel_rfl) rfl (by (repeat (first | with_reducible assumption | with_reducible exact Arr.box (by assumption) | with_reducible apply Arr.drew | with_reducible apply Arr.drewN | with_reducible refine Arr.store4 ?_ | with_reducible apply Arr.alloc | with_reducible refine Box.drew ?_ | with_reducible refine Box.drewN ?_ _ | with_reducible refine Box.alloc ?_ _ | refine Arr.oth ?_ (by first | (simp; done) | omega | (simp; omega)) _ | refine Box.oth ?_ (by first | (simp; done) | omega | (simp; omega)) _)))) rfl ?_
    rw [HN.out.1, HN.out.2.1, HN.out.2.2.1, HN.out.2.2.2, HE.out]
    exact ⟨rfl, by (repeat' (first | with_reducible exact Below.refl _ _ | with_reducible assumption | with_reducible refine gr_alloc ?_ _ | with_reducible refine gr_drew ?_ | with_reducible refine gr_drewN ?_ _ | with_reducible refine gr_trans ?_ (by assumption) | with_reducible refine gr_set ?_ ?_ _ | (simp; done) | omega | (simp; omega)))⟩

set_option maxHeartbeats 400000 in
theorem iLowerForm_any (a b c d p r : Int) (w : World) :
    Calls Tryd.prog 12 #[.agg #[.int .i64 a, .int .i64 b, .int .i64 c, .int .i64 d], .int .i64 p, .int .i64 r] w fun e w' => e = .returned (.tuple #[.agg #[.int .i64 (if0 (lfc a b c d p r) (loA a b c d p r)), .int .i64 (if0 (lfc a b c d p r) (loB a b c d p r)), .int .i64 (if0 (lfc a b c d p r) (loC a b c d p r)), .int .i64 (if0 (lfc a b c d p r) (loD a b c d p r))], .int .i64 (lfc a b c d p r)]) ∧ Below w.heap.size w w' := by
  have hC := fun W => takeLower_any a b c d p r W
  generalize lfc a b c d p r = k at hC ⊢
  generalize loA a b c d p r = x at *
  generalize loB a b c d p r = y at *
  generalize loC a b c d p r = z at *
  generalize loD a b c d p r = u at *
  generalize if0 k x = x' at *
  generalize if0 k y = y' at *
  generalize if0 k z = z' at *
  generalize if0 k u = u' at *
  have HC := hid hC
  clear hC
  have R0 := Arr.new (w.alloc (.cells #[.int .i64 a, .int .i64 b, .int .i64 c, .int .i64 d] 25)) 0 0 0 0 25
  have U0 := gr_alloc (gr_alloc (Below.refl w.heap.size w) (.cells #[.int .i64 a, .int .i64 b, .int .i64 c, .int .i64 d] 25)) (.cells #[.int .i64 0, .int .i64 0, .int .i64 0, .int .i64 0] 25)
  simp only [World.size_alloc] at R0
  go_enter Tryd.func12, Tryd.ntmps12
  go_wp2_with fail
  refine (HC.out _).mono ?_
  rintro e w1 ⟨rfl, hb1⟩
  have R1 := R0.next hb1
  have U1 := gr_trans U0 hb1
  obtain ⟨_, r0, r1, r2, r3, f0, f1, f2, f3⟩ := id R1
  go_wp2_with fail
  refine bodyPost_ret (res_A (e := 2) rfl Tryd.underlying25 (by kernel_rfl) rfl (by (repeat (first | with_reducible assumption | with_reducible exact Arr.box (by assumption) | with_reducible apply Arr.drew | with_reducible apply Arr.drewN | with_reducible refine Arr.store4 ?_ | with_reducible apply Arr.alloc | with_reducible refine Box.drew ?_ | with_reducible refine Box.drewN ?_ _ | with_reducible refine Box.alloc ?_ _ | refine Arr.oth ?_ (by first | (simp; done) | omega | (simp; omega)) _ | refine Box.oth ?_ (by first | (simp; done) | omega | (simp; omega)) _)))) rfl ?_
  exact ⟨rfl, by (repeat' (first | with_reducible exact Below.refl _ _ | with_reducible assumption | with_reducible refine gr_alloc ?_ _ | with_reducible refine gr_drew ?_ | with_reducible refine gr_drewN ?_ _ | with_reducible refine gr_trans ?_ (by assumption) | with_reducible refine gr_set ?_ ?_ _ | (simp; done) | omega | (simp; omega)))⟩


end Go.Proofs.YtambbhldhhlfgaaDoor
