/- Several texts in one: XOh, XRm, XRn. -/
import Derived.Test.YtambbhldhhlfgaaDoorOf
import Derived.Test.YtambbhldhhlfgaaDoorZ6
import Derived.Test.YtambbhldhhlfgaaDoorZ3
import Derived.Test.YtambbhldhhlfgaaDoorZ13

/- Chapter 6: raised, lowered forms of the model; divided forms, both sides. -/
namespace Go.Proofs.YtambbhldhhlfgaaDoor
open Go.RowKit

theorem rng_stc {p r : Int} (h : rng 0 p r = true) : 0 ≤ r ∧ r ≤ p := rng_t h
theorem stc_ok {f p r : Int} {ok fits : Bool} (hf : f = 0) (h : rng 0 p r = true) (ho : ok = true) : stc f p r ok fits = if fits then 0 else 3 := by
  have := rng_t h; simp [stc, hf, this, ho]
theorem stc_no {f p r : Int} {ok fits : Bool} (hf : f = 0) (h : rng 0 p r = true) (ho : ok = false) : stc f p r ok fits = 5 := by
  have := rng_t h; simp [stc, hf, this, ho]
theorem stc_out {f p r : Int} {ok fits : Bool} (hf : f = 0) (h : rng 0 p r = false) : stc f p r ok fits = 2 := by
  have := rng_f h; unfold stc; rw [if_pos hf, if_neg (by omega)]
theorem stc_code {f p r : Int} {ok fits : Bool} (hf : f ≠ 0) : stc f p r ok fits = f := by simp [stc, hf]

set_option maxRecDepth 100000 in
set_option maxHeartbeats 4000000 in
theorem sRaiseForm_any (a b c d p r : Int) (w : World) :
    Calls Tryd.prog 10 #[.agg #[.int .i64 a, .int .i64 b, .int .i64 c, .int .i64 d], .int .i64 p, .int .i64 r] w fun e w' => e = .returned (.tuple #[.agg #[.int .i64 (if0 (rfc a b c d p r) (raA a b c d p r)), .int .i64 (if0 (rfc a b c d p r) (raB a b c d p r)), .int .i64 (if0 (rfc a b c d p r) (raC a b c d p r)), .int .i64 (if0 (rfc a b c d p r) (raD a b c d p r))], .int .i64 (rfc a b c d p r)]) ∧ Below w.heap.size w w' := by
  have hC := fun W => l06Code_any a b c d p W
  have hS : fpc a b c d p = 0 → rng 0 p r = true → ∀ W, Calls Tryd.prog 78 #[.agg #[.int .i64 a, .int .i64 b, .int .i64 c, .int .i64 d], .int .i64 p, .int .i64 r] W (RsM (rOk a b c d p r) (raA a b c d p r) (raB a b c d p r) (raC a b c d p r) (raD a b c d p r) W) := fun h hr W => by
    obtain ⟨hF, hp⟩ := fpc_0.1 h
    obtain ⟨ha, hb, hc, hd⟩ := isF_t hF
    obtain ⟨h2, h97⟩ := prm_rng hp
    exact l06Raised_any a b c d p r W ha hb hc hd h2 h97 (rng_t hr).1 (rng_t hr).2
  have hK : rfc a b c d p r = stc (fpc a b c d p) p r (rOk a b c d p r) (isF (raA a b c d p r) (raB a b c d p r) (raC a b c d p r) (raD a b c d p r)) := rfl
  generalize rfc a b c d p r = k at hK ⊢
  generalize fpc a b c d p = f at hC hS hK
  generalize rOk a b c d p r = ok at hS hK
  generalize raA a b c d p r = x at *
  generalize raB a b c d p r = y at *
  generalize raC a b c d p r = z at *
  generalize raD a b c d p r = u at *
  have HC := hid hC; have HS := hid hS; have HK := hid hK
  clear hC hS hK
  have A0 := (Arr.new w a b c d 25).alloc (.cells #[.int .i64 0, .int .i64 0, .int .i64 0, .int .i64 0] 25)
  have R0 := Arr.new (w.alloc (.cells #[.int .i64 a, .int .i64 b, .int .i64 c, .int .i64 d] 25)) 0 0 0 0 25
  have U0 := gr_alloc (gr_alloc (Below.refl w.heap.size w) (.cells #[.int .i64 a, .int .i64 b, .int .i64 c, .int .i64 d] 25)) (.cells #[.int .i64 0, .int .i64 0, .int .i64 0, .int .i64 0] 25)
  simp only [World.size_alloc] at R0
  go_enter Tryd.func10, Tryd.ntmps10
  go_wp2_with fail
  refine (HC.out _).mono ?_
  rintro e w1 ⟨rfl, hb1⟩
  have A1 := A0.next hb1
  have R1 := R0.next hb1
  have U1 := gr_trans U0 hb1
  obtain ⟨_, a0, a1, a2, a3, _⟩ := id A1
  obtain ⟨_, r0, r1, r2, r3, f0, f1, f2, f3⟩ := id R1
  by_cases hf : f = 0
  · cases hr : rng 0 p r with
    | true =>
      have HS1 := hid (HS.out hf hr)
      have HK1 := hid (fun ho : ok = true => HK.out.trans (stc_ok hf hr ho))
      have HK2 := hid (fun ho : ok = false => HK.out.trans (stc_no hf hr ho))
      subst hf
      go_wp2_with (first | (go_at_call 77; refine (l01In_any r 0 p _).mono ?_; rintro e w9 ⟨rfl, rfl⟩) | (go_at_call 78; refine (HS1.out _).mono ?_; rintro e w2 ⟨x', y', z', u', rfl, hx, hb2⟩; have R2 := (R1.next hb2).alloc (.cells #[.int .i64 x', .int .i64 y', .int .i64 z', .int .i64 u'] 25); have U2 := gr_alloc (gr_trans U1 hb2) (.cells #[.int .i64 x', .int .i64 y', .int .i64 z', .int .i64 u'] 25); clear a0 a1 a2 a3 r0 r1 r2 r3 f0 f1 f2 f3; obtain ⟨_, r0, r1, r2, r3, f0, f1, f2, f3⟩ := id R2; have HX := hid hx; clear hx; cases ok))
      · have HE := hid (HK2.out trivial)
        go_wp2_with fail
        refine bodyPost_ret (res_A (e := 2) rfl Tryd.underlying25 (by kernel_rfl) rfl (by (repeat (first | with_reducible assumption | with_reducible exact Arr.box (by assumption) | with_reducible apply Arr.drew | with_reducible apply Arr.drewN | with_reducible refine Arr.store4 ?_ | with_reducible apply Arr.alloc | with_reducible refine Box.drew ?_ | with_reducible refine Box.drewN ?_ _ | with_reducible refine Box.alloc ?_ _ | refine Arr.oth ?_ (by first | (simp; done) | omega | (simp; omega)) _ | refine Box.oth ?_ (by first | (simp; done) | omega | (simp; omega)) _)))) rfl ?_
        rw [HE.out]
        exact ⟨rfl, by (repeat' (first | with_reducible exact Below.refl _ _ | with_reducible assumption | with_reducible refine gr_alloc ?_ _ | with_reducible refine gr_drew ?_ | with_reducible refine gr_drewN ?_ _ | with_reducible refine gr_trans ?_ (by assumption) | with_reducible refine gr_set ?_ ?_ _ | (simp; done) | omega | (simp; omega)))⟩
      · have HE := hid (HK1.out trivial)
        obtain ⟨rfl, rfl, rfl, rfl⟩ := HX.out trivial
        have hv : ∀ v, ifF x' y' z' u' v = if0 (if isF x' y' z' u' then 0 else 3) v := by intro v; unfold ifF if0; split <;> simp
        have hL := fun W => l06Told_any x' y' z' u' W
        simp only [hv] at hL
        generalize (if isF x' y' z' u' = true then (0 : Int) else 3) = q at hL HE
        have HL := hid hL
        clear hL hv
        go_wp2_with fail
        refine (HL.out _).mono ?_
        rintro e w3 ⟨rfl, hb3⟩
        have R3 := R2.next hb3
        have U3 := gr_trans U2 hb3
        clear r0 r1 r2 r3 f0 f1 f2 f3
        obtain ⟨_, r0, r1, r2, r3, f0, f1, f2, f3⟩ := id R3
        go_wp2_with fail
        refine bodyPost_ret (res_A (e := 2) rfl Tryd.underlying25 (by kernel_rfl) rfl (by (repeat (first | with_reducible assumption | with_reducible exact Arr.box (by assumption) | with_reducible apply Arr.drew | with_reducible apply Arr.drewN | with_reducible refine Arr.store4 ?_ | with_reducible apply Arr.alloc | with_reducible refine Box.drew ?_ | with_reducible refine Box.drewN ?_ _ | with_reducible refine Box.alloc ?_ _ | refine Arr.oth ?_ (by first | (simp; done) | omega | (simp; omega)) _ | refine Box.oth ?_ (by first | (simp; done) | omega | (simp; omega)) _)))) rfl ?_
        rw [HE.out]
        exact ⟨rfl, by (repeat' (first | with_reducible exact Below.refl _ _ | with_reducible assumption | with_reducible refine gr_alloc ?_ _ | with_reducible refine gr_drew ?_ | with_reducible refine gr_drewN ?_ _ | with_reducible refine gr_trans ?_ (by assumption) | with_reducible refine gr_set ?_ ?_ _ | (simp; done) | omega | (simp; omega)))⟩
    | false =>
      have HE := hid (HK.out.trans (stc_out hf hr))
      subst hf
      go_wp2_with (go_at_call 77; refine (l01In_any r 0 p _).mono ?_; rintro e w9 ⟨rfl, rfl⟩)
      refine bodyPost_ret (res_A (e := 2) rfl Tryd.underlying25 (by kernel_rfl) rfl (by (repeat (first | with_reducible assumption | with_reducible exact Arr.box (by assumption) | with_reducible apply Arr.drew | with_reducible apply Arr.drewN | with_reducible refine Arr.store4 ?_ | with_reducible apply Arr.alloc | with_reducible refine Box.drew ?_ | with_reducible refine Box.drewN ?_ _ | with_reducible refine Box.alloc ?_ _ | refine Arr.oth ?_ (by first | (simp; done) | omega | (simp; omega)) _ | refine Box.oth ?_ (by first | (simp; done) | omega | (simp; omega)) _)))) rfl ?_
      rw [HE.out]
      exact ⟨rfl, by (repeat' (first | with_reducible exact Below.refl _ _ | with_reducible assumption | with_reducible refine gr_alloc ?_ _ | with_reducible refine gr_drew ?_ | with_reducible refine gr_drewN ?_ _ | with_reducible refine gr_trans ?_ (by assumption) | with_reducible refine gr_set ?_ ?_ _ | (simp; done) | omega | (simp; omega)))⟩
  · have HE := hid (HK.out.trans (stc_code hf))
    have hn : if0 k x = 0 ∧ if0 k y = 0 ∧ if0 k z = 0 ∧ if0 k u = 0 := by rw [HE.out]; simp [if0, hf]
    have HN := hid hn
    have hf' : (f == 0) = false := by simpa using hf
    clear hf hn
    go_wp2_with fail
    refine bodyPost_ret (res_A (e := 2) rfl Tryd.underlying25 (by kernel_rfl) rfl (by (repeat (first | with_reducible assumption | with_reducible exact Arr.box (by assumption) | with_reducible apply Arr.drew | with_reducible apply Arr.drewN | with_reducible refine Arr.store4 ?_ | with_reducible apply Arr.alloc | with_reducible refine Box.drew ?_ | with_reducible refine Box.drewN ?_ _ | with_reducible refine Box.alloc ?_ _ | refine Arr.oth ?_ (by first | (simp; done) | omega | (simp; omega)) _ | refine Box.oth ?_ (by first | (simp; done) | omega | (simp; omega)) _)))) rfl ?_
    rw [HN.out.1, HN.out.2.1, HN.out.2.2.1, HN.out.2.2.2, HE.out]
    exact ⟨rfl, by (repeat' (first | with_reducible exact Below.refl _ _ | with_reducible assumption | with_reducible refine gr_alloc ?_ _ | with_reducible refine gr_drew ?_ | with_reducible refine gr_drewN ?_ _ | with_reducible refine gr_trans ?_ (by assumption) | with_reducible refine gr_set ?_ ?_ _ | (simp; done) | omega | (simp; omega)))⟩

set_option maxRecDepth 100000 in
set_option maxHeartbeats 4000000 in
theorem sLowerForm_any (a b c d p r : Int) (w : World) :
    Calls Tryd.prog 13 #[.agg #[.int .i64 a, .int .i64 b, .int .i64 c, .int .i64 d], .int .i64 p, .int .i64 r] w fun e w' => e = .returned (.tuple #[.agg #[.int .i64 (if0 (lfc a b c d p r) (loA a b c d p r)), .int .i64 (if0 (lfc a b c d p r) (loB a b c d p r)), .int .i64 (if0 (lfc a b c d p r) (loC a b c d p r)), .int .i64 (if0 (lfc a b c d p r) (loD a b c d p r))], .int .i64 (lfc a b c d p r)]) ∧ Below w.heap.size w w' := by
  have hC := fun W => l06Code_any a b c d p W
  have hF : fpc a b c d p = 0 → 2 ≤ p ∧ p ≤ 97 ∧ lOk a b c d p r = decide ((tlD a b c d p r).tmod p = 0) := fun h => by
    obtain ⟨_, hp⟩ := fpc_0.1 h
    obtain ⟨h2, h97⟩ := prm_rng hp
    exact ⟨h2, h97, by unfold lOk; rw [mul0_p h2]⟩
  have hS : fpc a b c d p = 0 → rng 0 p r = true → ∀ W, Calls Tryd.prog 82 #[.agg #[.int .i64 a, .int .i64 b, .int .i64 c, .int .i64 d], .int .i64 p, .int .i64 r] W fun e w' => e = .returned (.agg #[.int .i64 (loA a b c d p r), .int .i64 (loB a b c d p r), .int .i64 (loC a b c d p r), .int .i64 (loD a b c d p r)]) ∧ Below W.heap.size W w' := fun h hr W => by
    obtain ⟨hF, hp⟩ := fpc_0.1 h
    obtain ⟨ha, hb, hc, hd⟩ := isF_t hF
    obtain ⟨h2, h97⟩ := prm_rng hp
    exact l06Lowered_any a b c d p r W ha hb hc hd h2 h97 (rng_t hr).1 (rng_t hr).2
  have hA : fpc a b c d p = 0 → rng 0 p r = true → ∀ W, Calls Tryd.prog 81 #[.agg #[.int .i64 a, .int .i64 b, .int .i64 c, .int .i64 d], .int .i64 p, .int .i64 r] W fun e w' => e = .returned (.int .i64 (tlD a b c d p r)) ∧ Below W.heap.size W w' := fun h hr W => by
    obtain ⟨hF, hp⟩ := fpc_0.1 h
    obtain ⟨ha, hb, hc, hd⟩ := isF_t hF
    obtain ⟨h2, h97⟩ := prm_rng hp
    have := rng_t hr
    exact l06At_any a b c d p r W ha hb hc hd (by omega) (by omega)
  have hK : lfc a b c d p r = stc (fpc a b c d p) p r (lOk a b c d p r) (isF (loA a b c d p r) (loB a b c d p r) (loC a b c d p r) (loD a b c d p r)) := rfl
  generalize lfc a b c d p r = k at hK ⊢
  generalize fpc a b c d p = f at hC hS hK hA hF
  generalize lOk a b c d p r = ok at hS hK hF
  generalize tlD a b c d p r = t at hA hF
  generalize loA a b c d p r = x at *
  generalize loB a b c d p r = y at *
  generalize loC a b c d p r = z at *
  generalize loD a b c d p r = u at *
  have HC := hid hC; have HS := hid hS; have HK := hid hK; have HA := hid hA; have HF := hid hF
  clear hC hS hK hA hF
  have A0 := (Arr.new w a b c d 25).alloc (.cells #[.int .i64 0, .int .i64 0, .int .i64 0, .int .i64 0] 25)
  have R0 := Arr.new (w.alloc (.cells #[.int .i64 a, .int .i64 b, .int .i64 c, .int .i64 d] 25)) 0 0 0 0 25
  have U0 := gr_alloc (gr_alloc (Below.refl w.heap.size w) (.cells #[.int .i64 a, .int .i64 b, .int .i64 c, .int .i64 d] 25)) (.cells #[.int .i64 0, .int .i64 0, .int .i64 0, .int .i64 0] 25)
  simp only [World.size_alloc] at R0
  go_enter Tryd.func13, Tryd.ntmps13
  go_wp2_with fail
  refine (HC.out _).mono ?_
  rintro e w1 ⟨rfl, hb1⟩
  have A1 := A0.next hb1
  have R1 := R0.next hb1
  have U1 := gr_trans U0 hb1
  obtain ⟨_, a0, a1, a2, a3, _⟩ := id A1
  obtain ⟨_, r0, r1, r2, r3, f0, f1, f2, f3⟩ := id R1
  by_cases hf : f = 0
  · cases hr : rng 0 p r with
    | true =>
      obtain ⟨h2, h97, hok⟩ := HF.out hf
      obtain ⟨tx1, tx2⟩ := tmod_6 t p (by omega) (by omega)
      have HS1 := hid (HS.out hf hr)
      have HA1 := hid (HA.out hf hr)
      have hz4 : ¬ p = 0 := by omega
      by_cases ht : t.tmod p = 0
      · have hx : (t.tmod p != 0) = false := by simp [ht]
        have HE := hid (HK.out.trans (stc_ok hf hr (hok.trans (by simp [ht]))))
        have hv : ∀ v, ifF x y z u v = if0 (if isF x y z u then 0 else 3) v := by intro v; unfold ifF if0; split <;> simp
        have hL := fun W => l06Told_any x y z u W
        simp only [hv] at hL
        generalize (if isF x y z u = true then (0 : Int) else 3) = q at hL HE
        have HL := hid hL
        clear hL hv ht hok
        subst hf
        go_wp2_with (go_at_call 77; refine (l01In_any r 0 p _).mono ?_; rintro e w9 ⟨rfl, rfl⟩)
        refine (HA1.out _).mono ?_
        rintro e w2 ⟨rfl, hb2⟩
        have A2 := A1.next hb2
        have R2 := R1.next hb2
        have U2 := gr_trans U1 hb2
        clear a0 a1 a2 a3 r0 r1 r2 r3 f0 f1 f2 f3
        obtain ⟨_, a0, a1, a2, a3, _⟩ := id A2
        go_wp2_with fail
        refine (HS1.out _).mono ?_
        rintro e w3 ⟨rfl, hb3⟩
        have R3 := R2.next hb3
        have U3 := gr_trans U2 hb3
        clear a0 a1 a2 a3
        go_wp2_with fail
        refine (HL.out _).mono ?_
        rintro e w4 ⟨rfl, hb4⟩
        have R4 := R3.next hb4
        have U4 := gr_trans U3 hb4
        obtain ⟨_, r0, r1, r2, r3, f0, f1, f2, f3⟩ := id R4
        go_wp2_with fail
        refine bodyPost_ret (res_A (e := 2) rfl Tryd.underlying25 (by kernel_rfl) rfl (by (repeat (first | with_reducible assumption | with_reducible exact Arr.box (by assumption) | with_reducible apply Arr.drew | with_reducible apply Arr.drewN | with_reducible refine Arr.store4 ?_ | with_reducible apply Arr.alloc | with_reducible refine Box.drew ?_ | with_reducible refine Box.drewN ?_ _ | with_reducible refine Box.alloc ?_ _ | refine Arr.oth ?_ (by first | (simp; done) | omega | (simp; omega)) _ | refine Box.oth ?_ (by first | (simp; done) | omega | (simp; omega)) _)))) rfl ?_
        rw [HE.out]
        exact ⟨rfl, by (repeat' (first | with_reducible exact Below.refl _ _ | with_reducible assumption | with_reducible refine gr_alloc ?_ _ | with_reducible refine gr_drew ?_ | with_reducible refine gr_drewN ?_ _ | with_reducible refine gr_trans ?_ (by assumption) | with_reducible refine gr_set ?_ ?_ _ | (simp; done) | omega | (simp; omega)))⟩
      · have hx : (t.tmod p != 0) = true := by simp [ht]
        have HE := hid (HK.out.trans (stc_no hf hr (hok.trans (by simp [ht]))))
        clear ht hok
        subst hf
        go_wp2_with (go_at_call 77; refine (l01In_any r 0 p _).mono ?_; rintro e w9 ⟨rfl, rfl⟩)
        refine (HA1.out _).mono ?_
        rintro e w2 ⟨rfl, hb2⟩
        have R2 := R1.next hb2
        have U2 := gr_trans U1 hb2
        clear a0 a1 a2 a3 r0 r1 r2 r3 f0 f1 f2 f3
        obtain ⟨_, r0, r1, r2, r3, f0, f1, f2, f3⟩ := id R2
        go_wp2_with fail
        refine bodyPost_ret (res_A (e := 2) rfl Tryd.underlying25 (by kernel_rfl) rfl (by (repeat (first | with_reducible assumption | with_reducible exact Arr.box (by assumption) | with_reducible apply Arr.drew | with_reducible apply Arr.drewN | with_reducible refine Arr.store4 ?_ | with_reducible apply Arr.alloc | with_reducible refine Box.drew ?_ | with_reducible refine Box.drewN ?_ _ | with_reducible refine Box.alloc ?_ _ | refine Arr.oth ?_ (by first | (simp; done) | omega | (simp; omega)) _ | refine Box.oth ?_ (by first | (simp; done) | omega | (simp; omega)) _)))) rfl ?_
        rw [HE.out]
        exact ⟨rfl, by (repeat' (first | with_reducible exact Below.refl _ _ | with_reducible assumption | with_reducible refine gr_alloc ?_ _ | with_reducible refine gr_drew ?_ | with_reducible refine gr_drewN ?_ _ | with_reducible refine gr_trans ?_ (by assumption) | with_reducible refine gr_set ?_ ?_ _ | (simp; done) | omega | (simp; omega)))⟩
    | false =>
      have HE := hid (HK.out.trans (stc_out hf hr))
      subst hf
      go_wp2_with (go_at_call 77; refine (l01In_any r 0 p _).mono ?_; rintro e w9 ⟨rfl, rfl⟩)
      refine bodyPost_ret (res_A (e := 2) rfl Tryd.underlying25 (by kernel_rfl) rfl (by (repeat (first | with_reducible assumption | with_reducible exact Arr.box (by assumption) | with_reducible apply Arr.drew | with_reducible apply Arr.drewN | with_reducible refine Arr.store4 ?_ | with_reducible apply Arr.alloc | with_reducible refine Box.drew ?_ | with_reducible refine Box.drewN ?_ _ | with_reducible refine Box.alloc ?_ _ | refine Arr.oth ?_ (by first | (simp; done) | omega | (simp; omega)) _ | refine Box.oth ?_ (by first | (simp; done) | omega | (simp; omega)) _)))) rfl ?_
      rw [HE.out]
      exact ⟨rfl, by (repeat' (first | with_reducible exact Below.refl _ _ | with_reducible assumption | with_reducible refine gr_alloc ?_ _ | with_reducible refine gr_drew ?_ | with_reducible refine gr_drewN ?_ _ | with_reducible refine gr_trans ?_ (by assumption) | with_reducible refine gr_set ?_ ?_ _ | (simp; done) | omega | (simp; omega)))⟩
  · have HE := hid (HK.out.trans (stc_code hf))
    have hn : if0 k x = 0 ∧ if0 k y = 0 ∧ if0 k z = 0 ∧ if0 k u = 0 := by rw [HE.out]; simp [if0, hf]
    have HN := hid hn
    have hf' : (f == 0) = false := by simpa using hf
    clear hf hn
    go_wp2_with fail
    refine bodyPost_ret (res_A (e := 2) rfl Tryd.underlying25 (by kernel_rfl) rfl (by (repeat (first | with_reducible assumption | with_reducible exact Arr.box (by assumption) | with_reducible apply Arr.drew | with_reducible apply Arr.drewN | with_reducible refine Arr.store4 ?_ | with_reducible apply Arr.alloc | with_reducible refine Box.drew ?_ | with_reducible refine Box.drewN ?_ _ | with_reducible refine Box.alloc ?_ _ | refine Arr.oth ?_ (by first | (simp; done) | omega | (simp; omega)) _ | refine Box.oth ?_ (by first | (simp; done) | omega | (simp; omega)) _)))) rfl ?_
    rw [HN.out.1, HN.out.2.1, HN.out.2.2.1, HN.out.2.2.2, HE.out]
    exact ⟨rfl, by (repeat' (first | with_reducible exact Below.refl _ _ | with_reducible assumption | with_reducible refine gr_alloc ?_ _ | with_reducible refine gr_drew ?_ | with_reducible refine gr_drewN ?_ _ | with_reducible refine gr_trans ?_ (by assumption) | with_reducible refine gr_set ?_ ?_ _ | (simp; done) | omega | (simp; omega)))⟩

/-- The code of DivideForm. -/
def dfc (a b c d p : Int) : Int := if fpc a b c d p = 0 then (if mul0 (cnt a b c d) p then 0 else 5) else fpc a b c d p

set_option maxRecDepth 100000 in
set_option maxHeartbeats 2000000 in
theorem iDivideForm_any (a b c d p : Int) (w : World) :
    Calls Tryd.prog 15 #[.agg #[.int .i64 a, .int .i64 b, .int .i64 c, .int .i64 d], .int .i64 p] w fun e w' => e = .returned (.tuple #[.agg #[.int .i64 (if0 (dfc a b c d p) (a.tdiv p)), .int .i64 (if0 (dfc a b c d p) (b.tdiv p)), .int .i64 (if0 (dfc a b c d p) (c.tdiv p)), .int .i64 (if0 (dfc a b c d p) (d.tdiv p))], .int .i64 (dfc a b c d p)]) ∧ Below w.heap.size w w' := by
  have hC := fun W => iCheckFP_any a b c d p W
  have hF : fpc a b c d p = 0 → isF a b c d = true ∧ prm p = true := fpc_0.1
  have hK : dfc a b c d p = if fpc a b c d p = 0 then (if mul0 (cnt a b c d) p then 0 else 5) else fpc a b c d p := rfl
  generalize dfc a b c d p = k at hK ⊢
  generalize fpc a b c d p = f at hC hF hK
  have HC := hid hC; have HF := hid hF; have HK := hid hK
  clear hC hF hK
  have A0 := (Arr.new w a b c d 25).alloc (.cells #[.int .i64 0, .int .i64 0, .int .i64 0, .int .i64 0] 25)
  have R0 := Arr.new (w.alloc (.cells #[.int .i64 a, .int .i64 b, .int .i64 c, .int .i64 d] 25)) 0 0 0 0 25
  have U0 := gr_alloc (gr_alloc (Below.refl w.heap.size w) (.cells #[.int .i64 a, .int .i64 b, .int .i64 c, .int .i64 d] 25)) (.cells #[.int .i64 0, .int .i64 0, .int .i64 0, .int .i64 0] 25)
  simp only [World.size_alloc] at R0
  go_enter Tryd.func15, Tryd.ntmps15
  go_wp2_with fail
  refine (HC.out _).mono ?_
  rintro e w1 ⟨rfl, hb1⟩
  have A1 := A0.next hb1
  have R1 := R0.next hb1
  have U1 := gr_trans U0 hb1
  obtain ⟨_, a0, a1, a2, a3, _⟩ := id A1
  obtain ⟨_, r0, r1, r2, r3, f0, f1, f2, f3⟩ := id R1
  by_cases hf : f = 0
  · obtain ⟨hFm, hp⟩ := HF.out hf
    obtain ⟨ha, hb, hc, hd⟩ := isF_t hFm
    obtain ⟨h2, h97⟩ := prm_rng hp
    have HD := hid (fun W => iDivided_any a b c d p W ha hb hc hd (by omega) (by omega))
    have HG := hid (fun W hA => iGcd4_any w.heap.size a b c d W hA ha hb hc hd)
    have HK1 := hid (HK.out.trans (if_pos hf))
    clear ha hb hc hd hFm hp
    subst hf
    cases hm : mul0 (cnt a b c d) p with
    | true =>
      have HE := hid (show k = 0 by rw [HK1.out, hm]; rfl)
      go_wp2_with fail
      refine (HG.out _ A1).mono ?_
      rintro e w2 ⟨rfl, hb2⟩
      have A2 := A1.next hb2
      have R2 := R1.next hb2
      have U2 := gr_trans U1 hb2
      clear a0 a1 a2 a3 r0 r1 r2 r3 f0 f1 f2 f3
      obtain ⟨_, a0, a1, a2, a3, _⟩ := id A2
      go_wp2_with (go_at_call 85; refine (isMultiple_any _ _ _ (by omega) (by omega)).mono ?_; rintro e w' ⟨rfl, rfl⟩)
      refine (HD.out _).mono ?_
      rintro e w3 ⟨rfl, hb3⟩
      have R3 := R2.next hb3
      have U3 := gr_trans U2 hb3
      obtain ⟨_, r0, r1, r2, r3, f0, f1, f2, f3⟩ := id R3
      go_wp2_with fail
      refine bodyPost_ret (res_A (e := 2) rfl Tryd.underlying25 (by kernel_rfl) rfl (by (repeat (first | with_reducible assumption | with_reducible exact Arr.box (by assumption) | with_reducible apply Arr.drew | with_reducible apply Arr.drewN | with_reducible refine Arr.store4 ?_ | with_reducible apply Arr.alloc | with_reducible refine Box.drew ?_ | with_reducible refine Box.drewN ?_ _ | with_reducible refine Box.alloc ?_ _ | refine Arr.oth ?_ (by first | (simp; done) | omega | (simp; omega)) _ | refine Box.oth ?_ (by first | (simp; done) | omega | (simp; omega)) _)))) rfl ?_
      rw [HE.out]
      exact ⟨rfl, by (repeat' (first | with_reducible exact Below.refl _ _ | with_reducible assumption | with_reducible refine gr_alloc ?_ _ | with_reducible refine gr_drew ?_ | with_reducible refine gr_drewN ?_ _ | with_reducible refine gr_trans ?_ (by assumption) | with_reducible refine gr_set ?_ ?_ _ | (simp; done) | omega | (simp; omega)))⟩
    | false =>
      have HE := hid (show k = 5 by rw [HK1.out, hm]; rfl)
      go_wp2_with fail
      refine (HG.out _ A1).mono ?_
      rintro e w2 ⟨rfl, hb2⟩
      have R2 := R1.next hb2
      have U2 := gr_trans U1 hb2
      clear a0 a1 a2 a3 r0 r1 r2 r3 f0 f1 f2 f3
      obtain ⟨_, r0, r1, r2, r3, f0, f1, f2, f3⟩ := id R2
      go_wp2_with (go_at_call 85; refine (isMultiple_any _ _ _ (by omega) (by omega)).mono ?_; rintro e w' ⟨rfl, rfl⟩)
      refine bodyPost_ret (res_A (e := 2) rfl Tryd.underlying25 (by kernel_rfl) rfl (by (repeat (first | with_reducible assumption | with_reducible exact Arr.box (by assumption) | with_reducible apply Arr.drew | with_reducible apply Arr.drewN | with_reducible refine Arr.store4 ?_ | with_reducible apply Arr.alloc | with_reducible refine Box.drew ?_ | with_reducible refine Box.drewN ?_ _ | with_reducible refine Box.alloc ?_ _ | refine Arr.oth ?_ (by first | (simp; done) | omega | (simp; omega)) _ | refine Box.oth ?_ (by first | (simp; done) | omega | (simp; omega)) _)))) rfl ?_
      rw [HE.out]
      exact ⟨rfl, by (repeat' (first | with_reducible exact Below.refl _ _ | with_reducible assumption | with_reducible refine gr_alloc ?_ _ | with_reducible refine gr_drew ?_ | with_reducible refine gr_drewN ?_ _ | with_reducible refine gr_trans ?_ (by assumption) | with_reducible refine gr_set ?_ ?_ _ | (simp; done) | omega | (simp; omega)))⟩
  · have HE := hid (HK.out.trans (if_neg hf))
    have hn : if0 k (a.tdiv p) = 0 ∧ if0 k (b.tdiv p) = 0 ∧ if0 k (c.tdiv p) = 0 ∧ if0 k (d.tdiv p) = 0 := by rw [HE.out]; simp [if0, hf]
    have HN := hid hn
    have hf' : (f == 0) = false := by simpa using hf
    clear hf hn
    go_wp2_with fail
    refine bodyPost_ret (res_A (e := 2) rfl Tryd.underlying25 (by kernel_rfl) rfl (by (repeat (first | with_reducible assumption | with_reducible exact Arr.box (by assumption) | with_reducible apply Arr.drew | with_reducible apply Arr.drewN | with_reducible refine Arr.store4 ?_ | with_reducible apply Arr.alloc | with_reducible refine Box.drew ?_ | with_reducible refine Box.drewN ?_ _ | with_reducible refine Box.alloc ?_ _ | refine Arr.oth ?_ (by first | (simp; done) | omega | (simp; omega)) _ | refine Box.oth ?_ (by first | (simp; done) | omega | (simp; omega)) _)))) rfl ?_
    rw [HN.out.1, HN.out.2.1, HN.out.2.2.1, HN.out.2.2.2, HE.out]
    exact ⟨rfl, by (repeat' (first | with_reducible exact Below.refl _ _ | with_reducible assumption | with_reducible refine gr_alloc ?_ _ | with_reducible refine gr_drew ?_ | with_reducible refine gr_drewN ?_ _ | with_reducible refine gr_trans ?_ (by assumption) | with_reducible refine gr_set ?_ ?_ _ | (simp; done) | omega | (simp; omega)))⟩

set_option maxRecDepth 100000 in
set_option maxHeartbeats 2000000 in
theorem sDivideForm_any (a b c d p : Int) (w : World) :
    Calls Tryd.prog 16 #[.agg #[.int .i64 a, .int .i64 b, .int .i64 c, .int .i64 d], .int .i64 p] w fun e w' => e = .returned (.tuple #[.agg #[.int .i64 (if0 (dfc a b c d p) (a.tdiv p)), .int .i64 (if0 (dfc a b c d p) (b.tdiv p)), .int .i64 (if0 (dfc a b c d p) (c.tdiv p)), .int .i64 (if0 (dfc a b c d p) (d.tdiv p))], .int .i64 (dfc a b c d p)]) ∧ Below w.heap.size w w' := by
  have hC := fun W => l06Code_any a b c d p W
  have hF : fpc a b c d p = 0 → isF a b c d = true ∧ prm p = true := fpc_0.1
  have hK : dfc a b c d p = if fpc a b c d p = 0 then (if mul0 (cnt a b c d) p then 0 else 5) else fpc a b c d p := rfl
  generalize dfc a b c d p = k at hK ⊢
  generalize fpc a b c d p = f at hC hF hK
  have HC := hid hC; have HF := hid hF; have HK := hid hK
  clear hC hF hK
  have A0 := (Arr.new w a b c d 25).alloc (.cells #[.int .i64 0, .int .i64 0, .int .i64 0, .int .i64 0] 25)
  have R0 := Arr.new (w.alloc (.cells #[.int .i64 a, .int .i64 b, .int .i64 c, .int .i64 d] 25)) 0 0 0 0 25
  have U0 := gr_alloc (gr_alloc (Below.refl w.heap.size w) (.cells #[.int .i64 a, .int .i64 b, .int .i64 c, .int .i64 d] 25)) (.cells #[.int .i64 0, .int .i64 0, .int .i64 0, .int .i64 0] 25)
  simp only [World.size_alloc] at R0
  go_enter Tryd.func16, Tryd.ntmps16
  go_wp2_with fail
  refine (HC.out _).mono ?_
  rintro e w1 ⟨rfl, hb1⟩
  have A1 := A0.next hb1
  have R1 := R0.next hb1
  have U1 := gr_trans U0 hb1
  obtain ⟨_, a0, a1, a2, a3, _⟩ := id A1
  obtain ⟨_, r0, r1, r2, r3, f0, f1, f2, f3⟩ := id R1
  by_cases hf : f = 0
  · obtain ⟨hFm, hp⟩ := HF.out hf
    obtain ⟨ha, hb, hc, hd⟩ := isF_t hFm
    obtain ⟨h2, h97⟩ := prm_rng hp
    have HG := hid (fun W => sCnt_any a b c d W ha hb hc hd)
    have HK1 := hid (HK.out.trans (if_pos hf))
    obtain ⟨g0, g1⟩ := cnt_bd ha hb hc hd
    have hmp := mul0_p (n := cnt a b c d) h2
    generalize cnt a b c d = g at HG HK1 g0 g1 hmp
    have hz4 : ¬ p = 0 := by omega
    have he : g.tmod p = g % p := Int.tmod_eq_emod_of_nonneg g0
    clear hFm hp
    subst hf
    by_cases hm : g.tmod p = 0
    · have HE := hid (show k = 0 by rw [HK1.out, hmp]; simp [hm])
      have hm' : (g % p != 0) = false := by rw [← he]; simp [hm]
      clear hm he hmp
      go_wp2_with fail
      refine (HG.out _).mono ?_
      rintro e w2 ⟨rfl, hb2⟩
      have A2 := A1.next hb2
      have R2 := R1.next hb2
      have U2 := gr_trans U1 hb2
      clear a0 a1 a2 a3 r0 r1 r2 r3 f0 f1 f2 f3
      obtain ⟨_, a0, a1, a2, a3, _⟩ := id A2
      obtain ⟨_, r0, r1, r2, r3, f0, f1, f2, f3⟩ := id R2
      go_wp2_with fail
      go_still_tail 17, (by kernel_rfl)
      go_wp2_with fail
      refine bodyPost_ret (res_A (e := 2) rfl Tryd.underlying25 (by kernel_rfl) rfl (by (repeat (first | with_reducible assumption | with_reducible exact Arr.box (by assumption) | with_reducible apply Arr.drew | with_reducible apply Arr.drewN | with_reducible refine Arr.store4 ?_ | with_reducible apply Arr.alloc | with_reducible refine Box.drew ?_ | with_reducible refine Box.drewN ?_ _ | with_reducible refine Box.alloc ?_ _ | refine Arr.oth ?_ (by first | (simp; done) | omega | (simp; omega)) _ | refine Box.oth ?_ (by first | (simp; done) | omega | (simp; omega)) _)))) rfl ?_
      rw [HE.out]
      exact ⟨rfl, by (repeat' (first | with_reducible exact Below.refl _ _ | with_reducible assumption | with_reducible refine gr_alloc ?_ _ | with_reducible refine gr_drew ?_ | with_reducible refine gr_drewN ?_ _ | with_reducible refine gr_trans ?_ (by assumption) | with_reducible refine gr_set ?_ ?_ _ | (simp; done) | omega | (simp; omega)))⟩
    · have HE := hid (show k = 5 by rw [HK1.out, hmp]; simp [hm])
      have hm' : (g % p != 0) = true := by rw [← he]; simp [hm]
      clear hm he hmp
      go_wp2_with fail
      refine (HG.out _).mono ?_
      rintro e w2 ⟨rfl, hb2⟩
      have R2 := R1.next hb2
      have U2 := gr_trans U1 hb2
      clear a0 a1 a2 a3 r0 r1 r2 r3 f0 f1 f2 f3
      obtain ⟨_, r0, r1, r2, r3, f0, f1, f2, f3⟩ := id R2
      go_wp2_with fail
      refine bodyPost_ret (res_A (e := 2) rfl Tryd.underlying25 (by kernel_rfl) rfl (by (repeat (first | with_reducible assumption | with_reducible exact Arr.box (by assumption) | with_reducible apply Arr.drew | with_reducible apply Arr.drewN | with_reducible refine Arr.store4 ?_ | with_reducible apply Arr.alloc | with_reducible refine Box.drew ?_ | with_reducible refine Box.drewN ?_ _ | with_reducible refine Box.alloc ?_ _ | refine Arr.oth ?_ (by first | (simp; done) | omega | (simp; omega)) _ | refine Box.oth ?_ (by first | (simp; done) | omega | (simp; omega)) _)))) rfl ?_
      rw [HE.out]
      exact ⟨rfl, by (repeat' (first | with_reducible exact Below.refl _ _ | with_reducible assumption | with_reducible refine gr_alloc ?_ _ | with_reducible refine gr_drew ?_ | with_reducible refine gr_drewN ?_ _ | with_reducible refine gr_trans ?_ (by assumption) | with_reducible refine gr_set ?_ ?_ _ | (simp; done) | omega | (simp; omega)))⟩
  · have HE := hid (HK.out.trans (if_neg hf))
    have hn : if0 k (a.tdiv p) = 0 ∧ if0 k (b.tdiv p) = 0 ∧ if0 k (c.tdiv p) = 0 ∧ if0 k (d.tdiv p) = 0 := by rw [HE.out]; simp [if0, hf]
    have HN := hid hn
    have hf' : (f == 0) = false := by simpa using hf
    clear hf hn
    go_wp2_with fail
    refine bodyPost_ret (res_A (e := 2) rfl Tryd.underlying25 (by kernel_rfl) rfl (by (repeat (first | with_reducible assumption | with_reducible exact Arr.box (by assumption) | with_reducible apply Arr.drew | with_reducible apply Arr.drewN | with_reducible refine Arr.store4 ?_ | with_reducible apply Arr.alloc | with_reducible refine Box.drew ?_ | with_reducible refine Box.drewN ?_ _ | with_reducible refine Box.alloc ?_ _ | refine Arr.oth ?_ (by first | (simp; done) | omega | (simp; omega)) _ | refine Box.oth ?_ (by first | (simp; done) | omega | (simp; omega)) _)))) rfl ?_
    rw [HN.out.1, HN.out.2.1, HN.out.2.2.1, HN.out.2.2.2, HE.out]
    exact ⟨rfl, by (repeat' (first | with_reducible exact Below.refl _ _ | with_reducible assumption | with_reducible refine gr_alloc ?_ _ | with_reducible refine gr_drew ?_ | with_reducible refine gr_drewN ?_ _ | with_reducible refine gr_trans ?_ (by assumption) | with_reducible refine gr_set ?_ ?_ _ | (simp; done) | omega | (simp; omega)))⟩

end Go.Proofs.YtambbhldhhlfgaaDoor

/- Chapter 5: multiplicities modulo a prime, both sides' the same. Mathematics; no Go function in sight. -/
namespace Go.Proofs.YtambbhldhhlfgaaDoor
open Go.RowKit

theorem mul0_d (n m : Int) : mul0 n m = decide (m ∣ n) := by
  unfold mul0
  split
  · rename_i h; subst h; rw [Bool.eq_iff_iff]; simp [Int.zero_dvd]
  · rw [Bool.eq_iff_iff]; simp [Int.dvd_iff_tmod_eq_zero]
theorem wr_0 : wrap64 0 = 0 := wr_in (by omega)
theorem wr_1 : wrap64 1 = 1 := wr_in (by omega)
theorem wr_wr (x : Int) : wrap64 (wrap64 x) = wrap64 x := by simpa using wr_al x 0
theorem nv0 (a b c d x : Int) : nva [a, b, c, d] x 1 = wrap64 (a * x * x * x + b * x * x + c * x + d) := by
  simp only [nva, List.foldl, nst, pl, mu, wr_al, wr_ar, wr_ml, wr_mr]
  congr 1; grind
theorem dv0 (a b c d x : Int) : dvd [a, b, c, d] x 1 = [wrap64 a, wrap64 (b + x * a), wrap64 (c + x * (b + x * a))] := by
  simp only [dvd, show ¬ ((1 : Int) = 0) by decide, if_false, List.dropLast, List.foldl, dst, pl, mu, Int.tdiv_one, wr_wr, wr_ar, wr_mr, List.nil_append, List.cons_append]
  congr 1
  · congr 1; grind
  · congr 1
    · apply congrArg; grind
    · congr 1; apply congrArg; grind
theorem dv1 (a b c x : Int) : dvd [a, b, c] x 1 = [wrap64 a, wrap64 (b + x * a)] := by
  simp only [dvd, show ¬ ((1 : Int) = 0) by decide, if_false, List.dropLast, List.foldl, dst, pl, mu, Int.tdiv_one, wr_wr, wr_ar, wr_mr, List.nil_append, List.cons_append]
  congr 1
  · congr 1; grind
  · congr 1; apply congrArg; grind
theorem dv2 (a b x : Int) : dvd [a, b] x 1 = [wrap64 a] := by
  simp only [dvd, show ¬ ((1 : Int) = 0) by decide, if_false, List.dropLast, List.foldl, dst, pl, mu, Int.tdiv_one, wr_wr, wr_ar, List.nil_append]
  congr 1; congr 1; grind
theorem nv1 (a b c x : Int) : nva [a, b, c] x 1 = wrap64 (a * x * x + b * x + c) := by
  simp only [nva, List.foldl, nst, pl, mu, wr_al, wr_ar, wr_ml, wr_mr]
  congr 1; grind
theorem nv2 (a b x : Int) : nva [a, b] x 1 = wrap64 (a * x + b) := by
  simp only [nva, List.foldl, nst, pl, mu, wr_al, wr_ar, wr_ml, wr_mr]
  congr 1; grind
theorem nv3 (a x : Int) : nva [a] x 1 = wrap64 a := by
  simp only [nva, List.foldl, nst, pl, mu, wr_al, wr_ar]
  congr 1; grind
/-- The three lower numbers of the form moved to a point x, 1: the value, the slope, half the second slope. -/
def g3 (a b c d x : Int) : Int := a * x * x * x + b * x * x + c * x + d
def g2 (a b c x : Int) : Int := 3 * a * x * x + 2 * b * x + c
def g1 (a b x : Int) : Int := 3 * a * x + b
/-- The multiplicity out of these. -/
def mm3 (p u v t : Int) : Nat := if ¬ p ∣ t then 0 else if ¬ p ∣ v then 1 else if ¬ p ∣ u then 2 else 3
theorem lvs {a b c d x : Int} (ha : -1000 ≤ a ∧ a ≤ 1000) (hb : -1000 ≤ b ∧ b ≤ 1000) (hc : -1000 ≤ c ∧ c ≤ 1000) (hd : -1000 ≤ d ∧ d ≤ 1000) (hx : -498 ≤ x ∧ x ≤ 498) :
    nva [a, b, c, d] x 1 = g3 a b c d x ∧ nva (dvd [a, b, c, d] x 1) x 1 = g2 a b c x ∧ nva (dvd (dvd [a, b, c, d] x 1) x 1) x 1 = g1 a b x ∧ nva (dvd (dvd (dvd [a, b, c, d] x 1) x 1) x 1) x 1 = a := by
  have h1 := mulb hx ha
  have h2 := mulb hx (y := b + x * a) (B := 500000) (by omega)
  have h3 := mulb hx (y := c + x * (b + x * a)) (B := 250000000) (by omega)
  have e0 : dvd [a, b, c, d] x 1 = [a, b + x * a, c + x * (b + x * a)] := by
    rw [dv0, wr_in (by omega), wr_in (by omega), wr_in (by omega)]
  have e1 : dvd [a, b + x * a, c + x * (b + x * a)] x 1 = [a, b + x * a + x * a] := by
    rw [dv1, wr_in (by omega), wr_in (by omega)]
  have e2 : dvd [a, b + x * a + x * a] x 1 = [a] := by
    rw [dv2, wr_in (by omega)]
  have p1 : a * x * x * x + b * x * x + c * x + d = d + x * (c + x * (b + x * a)) := by grind
  have q2 := mulb hx (y := b + x * a + x * a) (B := 1000000) (by omega)
  have p2 : a * x * x + (b + x * a) * x + (c + x * (b + x * a)) = (c + x * (b + x * a)) + x * (b + x * a + x * a) := by grind
  have p3 : a * x + (b + x * a + x * a) = x * a + (b + x * a + x * a) := by grind
  refine ⟨?_, ?_, ?_, ?_⟩
  · rw [nv0, wr_in (by rw [p1]; omega)]; rfl
  · rw [e0, nv1, wr_in (by rw [p2]; omega)]; unfold g2; grind
  · rw [e0, e1, nv2, wr_in (by rw [p3]; omega)]; unfold g1; grind
  · rw [e0, e1, e2, nv3, wr_in (by omega)]
theorem lvs0 {a b c d : Int} (ha : -1000 ≤ a ∧ a ≤ 1000) (hb : -1000 ≤ b ∧ b ≤ 1000) (hc : -1000 ≤ c ∧ c ≤ 1000) (hd : -1000 ≤ d ∧ d ≤ 1000) :
    nva [a, b, c, d] 1 0 = a ∧ nva (dvd [a, b, c, d] 1 0) 1 0 = -b ∧ nva (dvd (dvd [a, b, c, d] 1 0) 1 0) 1 0 = c ∧ nva (dvd (dvd (dvd [a, b, c, d] 1 0) 1 0) 1 0) 1 0 = -d := by
  have e0 : dvd [a, b, c, d] 1 0 = [-b, -c, -d] := by
    simp only [dvd, if_true, List.drop, List.map]
    rw [wr_in (by omega), wr_in (by omega), wr_in (by omega)]
  have e1 : dvd [-b, -c, -d] 1 0 = [c, d] := by
    simp only [dvd, if_true, List.drop, List.map, Int.neg_neg]
    rw [wr_in (by omega), wr_in (by omega)]
  have e2 : dvd [c, d] 1 0 = [-d] := by
    simp only [dvd, if_true, List.drop, List.map]
    rw [wr_in (by omega)]
  have n4 : ∀ u v s t : Int, nva [u, v, s, t] 1 0 = wrap64 u := fun u v s t => by
    simp only [nva, List.foldl, nst, pl, mu, Int.mul_one, Int.mul_zero, Int.zero_add, Int.add_zero, wr_wr, wr_0]
  have n3 : ∀ u v s : Int, nva [u, v, s] 1 0 = wrap64 u := fun u v s => by
    simp only [nva, List.foldl, nst, pl, mu, Int.mul_one, Int.mul_zero, Int.zero_add, Int.add_zero, wr_wr, wr_0]
  have n2 : ∀ u v : Int, nva [u, v] 1 0 = wrap64 u := fun u v => by
    simp only [nva, List.foldl, nst, pl, mu, Int.mul_one, Int.mul_zero, Int.zero_add, Int.add_zero, wr_wr, wr_0]
  have n1 : ∀ u : Int, nva [u] 1 0 = wrap64 u := fun u => by
    simp only [nva, List.foldl, nst, pl, mu, Int.mul_one, Int.mul_zero, Int.zero_add, wr_wr, wr_0]
  refine ⟨?_, ?_, ?_, ?_⟩
  · rw [n4, wr_in (by omega)]
  · rw [e0, n3, wr_in (by omega)]
  · rw [e0, e1, n2, wr_in (by omega)]
  · rw [e0, e1, e2, n1, wr_in (by omega)]
/-- Not all four numbers are multiples. -/
theorem cnt_dvd {p a b c d : Int} : p ∣ cnt a b c d ↔ p ∣ a ∧ p ∣ b ∧ p ∣ c ∧ p ∣ d := by
  simp only [cnt, Int.dvd_coe_gcd_iff]
  constructor
  · rintro ⟨⟨h1, h2⟩, h3, h4⟩; exact ⟨h1, h2, h3, h4⟩
  · rintro ⟨h1, h2, h3, h4⟩; exact ⟨⟨h1, h2⟩, h3, h4⟩
theorem g_null {p a b c d x : Int} (h3 : p ∣ g3 a b c d x) (h2 : p ∣ g2 a b c x) (h1 : p ∣ g1 a b x) (h0 : p ∣ a) : p ∣ a ∧ p ∣ b ∧ p ∣ c ∧ p ∣ d := by
  have hb : p ∣ b := by
    have e : b = g1 a b x - a * (3 * x) := by unfold g1; grind
    rw [e]; exact Int.dvd_sub h1 (Int.dvd_mul_of_dvd_left h0)
  have hc : p ∣ c := by
    have e : c = g2 a b c x - (a * (3 * x * x) + b * (2 * x)) := by unfold g2; grind
    rw [e]; exact Int.dvd_sub h2 (Int.dvd_add (Int.dvd_mul_of_dvd_left h0) (Int.dvd_mul_of_dvd_left hb))
  have hd : p ∣ d := by
    have e : d = g3 a b c d x - (a * (x * x * x) + b * (x * x) + c * x) := by unfold g3; grind
    rw [e]; exact Int.dvd_sub h3 (Int.dvd_add (Int.dvd_add (Int.dvd_mul_of_dvd_left h0) (Int.dvd_mul_of_dvd_left hb)) (Int.dvd_mul_of_dvd_left hc))
  exact ⟨h0, hb, hc, hd⟩
theorem mlt_of {m x y : Int} {L : List Int} {u v t z : Int} (h0 : nva L x y = t) (h1 : nva (dvd L x y) x y = v) (h2 : nva (dvd (dvd L x y) x y) x y = u) (h3 : nva (dvd (dvd (dvd L x y) x y) x y) x y = z) (hz : ¬ (m ∣ t ∧ m ∣ v ∧ m ∣ u ∧ m ∣ z)) :
    mlt m x y 4 L = mm3 m u v t ∧ stp m x y 4 L = true := by
  simp only [mlt, stp, h0, h1, h2, h3, mul0_d, mm3]
  by_cases a : m ∣ t
  · by_cases b : m ∣ v
    · by_cases c : m ∣ u
      · have d : ¬ m ∣ z := fun d => hz ⟨a, b, c, d⟩
        simp [a, b, c, d]
      · simp [a, b, c]
    · simp [a, b]
  · simp [a]
/-- The multiplicity at a point, as the model has it. -/
def mmu (p a b c d x y : Int) : Nat := if y = 0 then mm3 p c b a else mm3 p (g1 a b x) (g2 a b c x) (g3 a b c d x)
theorem mm3_neg {p u v t : Int} : mm3 p u (-v) t = mm3 p u v t := by simp [mm3, Int.dvd_neg]
theorem mlt_1 {p a b c d x : Int} (ha : -1000 ≤ a ∧ a ≤ 1000) (hb : -1000 ≤ b ∧ b ≤ 1000) (hc : -1000 ≤ c ∧ c ≤ 1000) (hd : -1000 ≤ d ∧ d ≤ 1000) (hx : -498 ≤ x ∧ x ≤ 498) (hn : mul0 (cnt a b c d) p = false) :
    mlt p x 1 4 [a, b, c, d] = mmu p a b c d x 1 ∧ stp p x 1 4 [a, b, c, d] = true := by
  obtain ⟨e0, e1, e2, e3⟩ := lvs ha hb hc hd hx
  have h := mlt_of (m := p) e0 e1 e2 e3 (fun ⟨q3, q2, q1, q0⟩ => by
    rw [mul0_d] at hn
    exact absurd (cnt_dvd.2 (g_null q3 q2 q1 q0)) (by simpa using hn))
  simpa [mmu] using h
theorem mlt_0 {p a b c d : Int} (ha : -1000 ≤ a ∧ a ≤ 1000) (hb : -1000 ≤ b ∧ b ≤ 1000) (hc : -1000 ≤ c ∧ c ≤ 1000) (hd : -1000 ≤ d ∧ d ≤ 1000) (hn : mul0 (cnt a b c d) p = false) :
    mlt p 1 0 4 [a, b, c, d] = mmu p a b c d 1 0 ∧ stp p 1 0 4 [a, b, c, d] = true := by
  obtain ⟨e0, e1, e2, e3⟩ := lvs0 ha hb hc hd
  have h := mlt_of (m := p) e0 e1 e2 e3 (fun ⟨q3, q2, q1, q0⟩ => by
    rw [mul0_d] at hn
    exact absurd (cnt_dvd.2 ⟨q3, Int.dvd_neg.1 q2, q1, Int.dvd_neg.1 q0⟩) (by simpa using hn))
  simpa [mmu, mm3_neg] using h


end Go.Proofs.YtambbhldhhlfgaaDoor

/- Chapter 5: the model's multiplicities and zeros. -/
namespace Go.Proofs.YtambbhldhhlfgaaDoor
open Go.RowKit

theorem tm0 (n p : Int) : (n.tmod p == 0) = decide (p ∣ n) := by
  rw [Bool.eq_iff_iff]; simp [Int.dvd_iff_tmod_eq_zero]
theorem and4 (a b c d : Prop) [Decidable a] [Decidable b] [Decidable c] [Decidable d] : (decide a && decide b && decide c && decide d) = decide (a ∧ b ∧ c ∧ d) := by
  rw [Bool.eq_iff_iff]; simp [and_assoc]

set_option maxRecDepth 100000 in
set_option maxHeartbeats 1000000 in
theorem l05Null_any (a b c d p : Int) (w : World) (h2 : 2 ≤ p) (h97 : p ≤ 499) : Calls Tryd.prog 148 #[.agg #[.int .i64 a, .int .i64 b, .int .i64 c, .int .i64 d], .int .i64 p] w fun e w' => e = .returned (.bool (mul0 (cnt a b c d) p)) ∧ Below w.heap.size w w' := by
  obtain ⟨a1, a2⟩ := tmod_499 a p (by omega) h97
  obtain ⟨b1, b2⟩ := tmod_499 b p (by omega) h97
  obtain ⟨c1, c2⟩ := tmod_499 c p (by omega) h97
  obtain ⟨d1, d2⟩ := tmod_499 d p (by omega) h97
  have HE := hid (show mul0 (cnt a b c d) p = (decide (p ∣ a) && decide (p ∣ b) && decide (p ∣ c) && decide (p ∣ d)) by
    rw [mul0_d, and4, decide_eq_decide]; exact cnt_dvd)
  generalize mul0 (cnt a b c d) p = M at HE ⊢
  cases ha : (a.tmod p == 0) with
  | false =>
    have H := hid (show M = false by rw [HE.out, ← tm0, ha]; simp)
    go_enter Tryd.func148, Tryd.ntmps148
    go_wp2
    go_ret
    rw [H.out]
    exact ⟨rfl, by (repeat' (first | with_reducible exact Below.refl _ _ | with_reducible assumption | with_reducible refine gr_alloc ?_ _ | with_reducible refine gr_drew ?_ | with_reducible refine gr_drewN ?_ _ | with_reducible refine gr_trans ?_ (by assumption) | with_reducible refine gr_set ?_ ?_ _ | (simp; done) | omega | (simp; omega)))⟩
  | true =>
    cases hb : (b.tmod p == 0) with
    | false =>
      have H := hid (show M = false by rw [HE.out, ← tm0 b, hb]; simp)
      go_enter Tryd.func148, Tryd.ntmps148
      go_wp2
      go_ret
      rw [H.out]
      exact ⟨rfl, by (repeat' (first | with_reducible exact Below.refl _ _ | with_reducible assumption | with_reducible refine gr_alloc ?_ _ | with_reducible refine gr_drew ?_ | with_reducible refine gr_drewN ?_ _ | with_reducible refine gr_trans ?_ (by assumption) | with_reducible refine gr_set ?_ ?_ _ | (simp; done) | omega | (simp; omega)))⟩
    | true =>
      cases hc : (c.tmod p == 0) with
      | false =>
        have H := hid (show M = false by rw [HE.out, ← tm0 c, hc]; simp)
        go_enter Tryd.func148, Tryd.ntmps148
        go_wp2
        go_ret
        rw [H.out]
        exact ⟨rfl, by (repeat' (first | with_reducible exact Below.refl _ _ | with_reducible assumption | with_reducible refine gr_alloc ?_ _ | with_reducible refine gr_drew ?_ | with_reducible refine gr_drewN ?_ _ | with_reducible refine gr_trans ?_ (by assumption) | with_reducible refine gr_set ?_ ?_ _ | (simp; done) | omega | (simp; omega)))⟩
      | true =>
        cases hd : (d.tmod p == 0) with
        | false =>
          have H := hid (show M = false by rw [HE.out, ← tm0 d, hd]; simp)
          go_enter Tryd.func148, Tryd.ntmps148
          go_wp2
          go_ret
          rw [H.out]
          exact ⟨rfl, by (repeat' (first | with_reducible exact Below.refl _ _ | with_reducible assumption | with_reducible refine gr_alloc ?_ _ | with_reducible refine gr_drew ?_ | with_reducible refine gr_drewN ?_ _ | with_reducible refine gr_trans ?_ (by assumption) | with_reducible refine gr_set ?_ ?_ _ | (simp; done) | omega | (simp; omega)))⟩
        | true =>
          have H := hid (show M = true by rw [HE.out, ← tm0, ← tm0, ← tm0, ← tm0, ha, hb, hc, hd]; rfl)
          go_enter Tryd.func148, Tryd.ntmps148
          go_wp2
          go_ret
          rw [H.out]
          exact ⟨rfl, by (repeat' (first | with_reducible exact Below.refl _ _ | with_reducible assumption | with_reducible refine gr_alloc ?_ _ | with_reducible refine gr_drew ?_ | with_reducible refine gr_drewN ?_ _ | with_reducible refine gr_trans ?_ (by assumption) | with_reducible refine gr_set ?_ ?_ _ | (simp; done) | omega | (simp; omega)))⟩

theorem mmF3 {p u v t : Int} (h : (t.tmod p == 0) = false) : mm3 p u v t = 0 := by
  rw [tm0] at h; simp at h; simp [mm3, h]
theorem mmF2 {p u v t : Int} (h3 : (t.tmod p == 0) = true) (h : (v.tmod p == 0) = false) : mm3 p u v t = 1 := by
  rw [tm0] at h h3; simp at h h3; simp [mm3, h, h3]
theorem mmF1 {p u v t : Int} (h3 : (t.tmod p == 0) = true) (h2 : (v.tmod p == 0) = true) (h : (u.tmod p == 0) = false) : mm3 p u v t = 2 := by
  rw [tm0] at h h2 h3; simp at h h2 h3; simp [mm3, h, h2, h3]
theorem mmF0 {p u v t : Int} (h3 : (t.tmod p == 0) = true) (h2 : (v.tmod p == 0) = true) (h : (u.tmod p == 0) = true) : mm3 p u v t = 3 := by
  rw [tm0] at h h2 h3; simp at h h2 h3; simp [mm3, h, h2, h3]
/-- The changed form at a point. -/
theorem chg1 {a b c d x : Int} (ha : -1000 ≤ a ∧ a ≤ 1000) (hb : -1000 ≤ b ∧ b ≤ 1000) (hc : -1000 ≤ c ∧ c ≤ 1000) (hd : -1000 ≤ d ∧ d ≤ 1000) (hx : -498 ≤ x ∧ x ≤ 498) :
    wrap64 (cB a b c d 1 x 0 1) = g1 a b x ∧ wrap64 (cC a b c d 1 x 0 1) = g2 a b c x ∧ wrap64 (cA a b c d x 1) = g3 a b c d x := by
  obtain ⟨_, h1, h2, h3⟩ := ch_wr (p := 1) (q := x) (r := 0) (s := 1) ha hb hc hd (by omega) (by omega) (by omega) (by omega)
  refine ⟨?_, ?_, ?_⟩
  · rw [h1]; unfold cB g1; grind
  · rw [h2]; unfold cC g2; grind
  · rw [h3]; unfold cA g3 vx; grind
theorem chg0 {a b c d : Int} (ha : -1000 ≤ a ∧ a ≤ 1000) (hb : -1000 ≤ b ∧ b ≤ 1000) (hc : -1000 ≤ c ∧ c ≤ 1000) (hd : -1000 ≤ d ∧ d ≤ 1000) :
    wrap64 (cB a b c d 0 1 1 0) = c ∧ wrap64 (cC a b c d 0 1 1 0) = b ∧ wrap64 (cA a b c d 1 0) = a := by
  obtain ⟨_, h1, h2, h3⟩ := ch_wr (p := 0) (q := 1) (r := 1) (s := 0) ha hb hc hd (by omega) (by omega) (by omega) (by omega)
  refine ⟨?_, ?_, ?_⟩
  · rw [h1]; unfold cB; grind
  · rw [h2]; unfold cC; grind
  · rw [h3]; unfold cA vx; grind

set_option maxRecDepth 100000 in
set_option maxHeartbeats 2000000 in
theorem l05Root_1 (a b c d p x : Int) (w : World) (h2 : 2 ≤ p) (h97 : p ≤ 499) (ha : -1000 ≤ a ∧ a ≤ 1000) (hb : -1000 ≤ b ∧ b ≤ 1000) (hc : -1000 ≤ c ∧ c ≤ 1000) (hd : -1000 ≤ d ∧ d ≤ 1000) (hx : -498 ≤ x ∧ x ≤ 498) :
    Calls Tryd.prog 182 #[.agg #[.int .i64 a, .int .i64 b, .int .i64 c, .int .i64 d], .int .i64 p, .int .i64 x, .int .i64 1] w fun e w' => e = .returned (.int .i64 (((mmu p a b c d x 1 : Nat) : Int))) ∧ Below w.heap.size w w' := by
  obtain ⟨e1, e2, e3⟩ := chg1 ha hb hc hd hx
  have hs := fun W => sChange0_any a b c d 1 x 0 1 W
  rw [e1, e2, e3] at hs
  have HM := hid (show mmu p a b c d x 1 = mm3 p (g1 a b x) (g2 a b c x) (g3 a b c d x) by simp [mmu])
  generalize mmu p a b c d x 1 = M at HM ⊢
  generalize g1 a b x = u at hs HM
  generalize g2 a b c x = v at hs HM
  generalize g3 a b c d x = t at hs HM
  generalize wrap64 (cA a b c d 1 0) = z at hs
  have HS := hid hs
  clear hs e1 e2 e3 ha hb hc hd hx
  obtain ⟨u1, u2⟩ := tmod_499 u p (by omega) h97
  obtain ⟨v1, v2⟩ := tmod_499 v p (by omega) h97
  obtain ⟨t1, t2⟩ := tmod_499 t p (by omega) h97
  have F0 := (Bx.new w #[.int .i64 a, .int .i64 b, .int .i64 c, .int .i64 d] 25).alloc (.cells #[.int .i64 1, .int .i64 x, .int .i64 0, .int .i64 1] 64)
  have U0 := gr_alloc (gr_alloc (Below.refl w.heap.size w) (.cells #[.int .i64 a, .int .i64 b, .int .i64 c, .int .i64 d] 25)) (.cells #[.int .i64 1, .int .i64 x, .int .i64 0, .int .i64 1] 64)
  go_enter Tryd.func182, Tryd.ntmps182
  go_wp2_with fail
  refine (HS.out _).mono ?_
  rintro e w1 ⟨rfl, hb1⟩
  have U1 := gr_trans U0 hb1
  clear F0 U0
  cases h3 : (t.tmod p == 0) with
  | false =>
    have H := hid (mmF3 (u := u) (v := v) h3)
    go_wp2_with fail
    go_ret
    rw [HM.out, H.out]
    exact ⟨rfl, gr_alloc U1 _⟩
  | true =>
    cases h4 : (v.tmod p == 0) with
    | false =>
      have H := hid (mmF2 (u := u) h3 h4)
      go_wp2_with fail
      go_ret
      rw [HM.out, H.out]
      exact ⟨rfl, gr_alloc U1 _⟩
    | true =>
      cases h5 : (u.tmod p == 0) with
      | false =>
        have H := hid (mmF1 h3 h4 h5)
        go_wp2_with fail
        go_ret
        rw [HM.out, H.out]
        exact ⟨rfl, gr_alloc U1 _⟩
      | true =>
        have H := hid (mmF0 h3 h4 h5)
        go_wp2_with fail
        go_ret
        rw [HM.out, H.out]
        exact ⟨rfl, gr_alloc U1 _⟩


end Go.Proofs.YtambbhldhhlfgaaDoor
