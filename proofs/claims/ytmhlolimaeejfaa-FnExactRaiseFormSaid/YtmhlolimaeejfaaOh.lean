/- Chapter 6: raised, lowered forms of the model; divided forms, both sides. -/
import Derived.Test.YtmhlolimaeejfaaOf
namespace Go.Proofs.Ytmhlolimaeejfaa
open Go.RowKit

theorem rng_stc {p r : Int} (h : rng 0 p r = true) : 0 ≤ r ∧ r ≤ p := rng_t h
theorem stc_ok {f p r : Int} {ok fits : Bool} (hf : f = 0) (h : rng 0 p r = true) (ho : ok = true) : stc f p r ok fits = if fits then 0 else 3 := by
  have := rng_t h; simp [stc, hf, this, ho]
theorem stc_no {f p r : Int} {ok fits : Bool} (hf : f = 0) (h : rng 0 p r = true) (ho : ok = false) : stc f p r ok fits = 5 := by
  have := rng_t h; simp [stc, hf, this, ho]
theorem stc_out {f p r : Int} {ok fits : Bool} (hf : f = 0) (h : rng 0 p r = false) : stc f p r ok fits = 2 := by
  have := rng_f h; unfold stc; rw [if_pos hf, if_neg (by omega)]
theorem stc_code {f p r : Int} {ok fits : Bool} (hf : f ≠ 0) : stc f p r ok fits = f := by simp [stc, hf]

set_option maxRecDepth 100000 in
set_option maxHeartbeats 4000000 in
theorem sRaiseForm_any (a b c d p r : Int) (w : World) :
    Calls Try.prog 41 #[.agg #[.int .i64 a, .int .i64 b, .int .i64 c, .int .i64 d], .int .i64 p, .int .i64 r] w fun e w' => e = .returned (.tuple #[.agg #[.int .i64 (if0 (rfc a b c d p r) (raA a b c d p r)), .int .i64 (if0 (rfc a b c d p r) (raB a b c d p r)), .int .i64 (if0 (rfc a b c d p r) (raC a b c d p r)), .int .i64 (if0 (rfc a b c d p r) (raD a b c d p r))], .int .i64 (rfc a b c d p r)]) ∧ Below w.heap.size w w' := by
  have hC := fun W => l06Code_any a b c d p W
  have hS : fpc a b c d p = 0 → rng 0 p r = true → ∀ W, Calls Try.prog 86 #[.agg #[.int .i64 a, .int .i64 b, .int .i64 c, .int .i64 d], .int .i64 p, .int .i64 r] W (RsM (rOk a b c d p r) (raA a b c d p r) (raB a b c d p r) (raC a b c d p r) (raD a b c d p r) W) := fun h hr W => by
    obtain ⟨hF, hp⟩ := fpc_0.1 h
    obtain ⟨ha, hb, hc, hd⟩ := isF_t hF
    obtain ⟨h2, h97⟩ := prm_rng hp
    exact l06Raised_any a b c d p r W ha hb hc hd h2 h97 (rng_t hr).1 (rng_t hr).2
  have hK : rfc a b c d p r = stc (fpc a b c d p) p r (rOk a b c d p r) (isF (raA a b c d p r) (raB a b c d p r) (raC a b c d p r) (raD a b c d p r)) := rfl
  generalize rfc a b c d p r = k at hK ⊢
  generalize fpc a b c d p = f at hC hS hK
  generalize rOk a b c d p r = ok at hS hK
  generalize raA a b c d p r = x at *
  generalize raB a b c d p r = y at *
  generalize raC a b c d p r = z at *
  generalize raD a b c d p r = u at *
  have HC := hid hC; have HS := hid hS; have HK := hid hK
  clear hC hS hK
  have A0 := (Arr.new w a b c d 23).alloc (.cells #[.int .i64 0, .int .i64 0, .int .i64 0, .int .i64 0] 23)
  have R0 := Arr.new (w.alloc (.cells #[.int .i64 a, .int .i64 b, .int .i64 c, .int .i64 d] 23)) 0 0 0 0 23
  have U0 := gr_alloc (gr_alloc (Below.refl w.heap.size w) (.cells #[.int .i64 a, .int .i64 b, .int .i64 c, .int .i64 d] 23)) (.cells #[.int .i64 0, .int .i64 0, .int .i64 0, .int .i64 0] 23)
  simp only [World.size_alloc] at R0
  go_enter Try.func41, Try.ntmps41
  go_wp2_with fail
  refine (HC.out _).mono ?_
  rintro e w1 ⟨rfl, hb1⟩
  have A1 := A0.next hb1
  have R1 := R0.next hb1
  have U1 := gr_trans U0 hb1
  obtain ⟨_, a0, a1, a2, a3, _⟩ := id A1
  obtain ⟨_, r0, r1, r2, r3, f0, f1, f2, f3⟩ := id R1
  by_cases hf : f = 0
  · cases hr : rng 0 p r with
    | true =>
      have HS1 := hid (HS.out hf hr)
      have HK1 := hid (fun ho : ok = true => HK.out.trans (stc_ok hf hr ho))
      have HK2 := hid (fun ho : ok = false => HK.out.trans (stc_no hf hr ho))
      subst hf
      go_wp2_with (first | (go_at_call 76; refine (l01In_any r 0 p _).mono ?_; rintro e w9 ⟨rfl, rfl⟩) | (go_at_call 86; refine (HS1.out _).mono ?_; rintro e w2 ⟨x', y', z', u', rfl, hx, hb2⟩; have R2 := (R1.next hb2).alloc (.cells #[.int .i64 x', .int .i64 y', .int .i64 z', .int .i64 u'] 23); have U2 := gr_alloc (gr_trans U1 hb2) (.cells #[.int .i64 x', .int .i64 y', .int .i64 z', .int .i64 u'] 23); clear a0 a1 a2 a3 r0 r1 r2 r3 f0 f1 f2 f3; obtain ⟨_, r0, r1, r2, r3, f0, f1, f2, f3⟩ := id R2; have HX := hid hx; clear hx; cases ok))
      · have HE := hid (HK2.out trivial)
        go_wp2_with fail
        refine bodyPost_ret (res_A (e := 2) rfl Try.underlying23 (by kernel_rfl) rfl (by (repeat (first | with_reducible assumption | with_reducible exact Arr.box (by assumption) | with_reducible apply Arr.drew | with_reducible apply Arr.drewN | with_reducible refine Arr.store4 ?_ | with_reducible apply Arr.alloc | with_reducible refine Box.drew ?_ | with_reducible refine Box.drewN ?_ _ | with_reducible refine Box.alloc ?_ _ | refine Arr.oth ?_ (by first | (simp; done) | omega | (simp; omega)) _ | refine Box.oth ?_ (by first | (simp; done) | omega | (simp; omega)) _)))) rfl ?_
        rw [HE.out]
        exact ⟨rfl, by (repeat' (first | with_reducible exact Below.refl _ _ | with_reducible assumption | with_reducible refine gr_alloc ?_ _ | with_reducible refine gr_drew ?_ | with_reducible refine gr_drewN ?_ _ | with_reducible refine gr_trans ?_ (by assumption) | with_reducible refine gr_set ?_ ?_ _ | (simp; done) | omega | (simp; omega)))⟩
      · have HE := hid (HK1.out trivial)
        obtain ⟨rfl, rfl, rfl, rfl⟩ := HX.out trivial
        have hv : ∀ v, ifF x' y' z' u' v = if0 (if isF x' y' z' u' then 0 else 3) v := by intro v; unfold ifF if0; split <;> simp
        have hL := fun W => l06Told_any x' y' z' u' W
        simp only [hv] at hL
        generalize (if isF x' y' z' u' = true then (0 : Int) else 3) = q at hL HE
        have HL := hid hL
        clear hL hv
        go_wp2_with fail
        refine (HL.out _).mono ?_
        rintro e w3 ⟨rfl, hb3⟩
        have R3 := R2.next hb3
        have U3 := gr_trans U2 hb3
        clear r0 r1 r2 r3 f0 f1 f2 f3
        obtain ⟨_, r0, r1, r2, r3, f0, f1, f2, f3⟩ := id R3
        go_wp2_with fail
        refine bodyPost_ret (res_A (e := 2) rfl Try.underlying23 (by kernel_rfl) rfl (by (repeat (first | with_reducible assumption | with_reducible exact Arr.box (by assumption) | with_reducible apply Arr.drew | with_reducible apply Arr.drewN | with_reducible refine Arr.store4 ?_ | with_reducible apply Arr.alloc | with_reducible refine Box.drew ?_ | with_reducible refine Box.drewN ?_ _ | with_reducible refine Box.alloc ?_ _ | refine Arr.oth ?_ (by first | (simp; done) | omega | (simp; omega)) _ | refine Box.oth ?_ (by first | (simp; done) | omega | (simp; omega)) _)))) rfl ?_
        rw [HE.out]
        exact ⟨rfl, by (repeat' (first | with_reducible exact Below.refl _ _ | with_reducible assumption | with_reducible refine gr_alloc ?_ _ | with_reducible refine gr_drew ?_ | with_reducible refine gr_drewN ?_ _ | with_reducible refine gr_trans ?_ (by assumption) | with_reducible refine gr_set ?_ ?_ _ | (simp; done) | omega | (simp; omega)))⟩
    | false =>
      have HE := hid (HK.out.trans (stc_out hf hr))
      subst hf
      go_wp2_with (go_at_call 76; refine (l01In_any r 0 p _).mono ?_; rintro e w9 ⟨rfl, rfl⟩)
      refine bodyPost_ret (res_A (e := 2) rfl Try.underlying23 (by kernel_rfl) rfl (by (repeat (first | with_reducible assumption | with_reducible exact Arr.box (by assumption) | with_reducible apply Arr.drew | with_reducible apply Arr.drewN | with_reducible refine Arr.store4 ?_ | with_reducible apply Arr.alloc | with_reducible refine Box.drew ?_ | with_reducible refine Box.drewN ?_ _ | with_reducible refine Box.alloc ?_ _ | refine Arr.oth ?_ (by first | (simp; done) | omega | (simp; omega)) _ | refine Box.oth ?_ (by first | (simp; done) | omega | (simp; omega)) _)))) rfl ?_
      rw [HE.out]
      exact ⟨rfl, by (repeat' (first | with_reducible exact Below.refl _ _ | with_reducible assumption | with_reducible refine gr_alloc ?_ _ | with_reducible refine gr_drew ?_ | with_reducible refine gr_drewN ?_ _ | with_reducible refine gr_trans ?_ (by assumption) | with_reducible refine gr_set ?_ ?_ _ | (simp; done) | omega | (simp; omega)))⟩
  · have HE := hid (HK.out.trans (stc_code hf))
    have hn : if0 k x = 0 ∧ if0 k y = 0 ∧ if0 k z = 0 ∧ if0 k u = 0 := by rw [HE.out]; simp [if0, hf]
    have HN := hid hn
    have hf' : (f == 0) = false := by simpa using hf
    clear hf hn
    go_wp2_with fail
    refine bodyPost_ret (res_A (e := 2) rfl Try.underlying23 (by kernel_rfl) rfl (by (repeat (first | with_reducible assumption | with_reducible exact Arr.box (by assumption) | with_reducible apply Arr.drew | with_reducible apply Arr.drewN | with_reducible refine Arr.store4 ?_ | with_reducible apply Arr.alloc | with_reducible refine Box.drew ?_ | with_reducible refine Box.drewN ?_ _ | with_reducible refine Box.alloc ?_ _ | refine Arr.oth ?_ (by first | (simp; done) | omega | (simp; omega)) _ | refine Box.oth ?_ (by first | (simp; done) | omega | (simp; omega)) _)))) rfl ?_
    rw [HN.out.1, HN.out.2.1, HN.out.2.2.1, HN.out.2.2.2, HE.out]
    exact ⟨rfl, by (repeat' (first | with_reducible exact Below.refl _ _ | with_reducible assumption | with_reducible refine gr_alloc ?_ _ | with_reducible refine gr_drew ?_ | with_reducible refine gr_drewN ?_ _ | with_reducible refine gr_trans ?_ (by assumption) | with_reducible refine gr_set ?_ ?_ _ | (simp; done) | omega | (simp; omega)))⟩

set_option maxRecDepth 100000 in
set_option maxHeartbeats 4000000 in
theorem sLowerForm_any (a b c d p r : Int) (w : World) :
    Calls Try.prog 46 #[.agg #[.int .i64 a, .int .i64 b, .int .i64 c, .int .i64 d], .int .i64 p, .int .i64 r] w fun e w' => e = .returned (.tuple #[.agg #[.int .i64 (if0 (lfc a b c d p r) (loA a b c d p r)), .int .i64 (if0 (lfc a b c d p r) (loB a b c d p r)), .int .i64 (if0 (lfc a b c d p r) (loC a b c d p r)), .int .i64 (if0 (lfc a b c d p r) (loD a b c d p r))], .int .i64 (lfc a b c d p r)]) ∧ Below w.heap.size w w' := by
  have hC := fun W => l06Code_any a b c d p W
  have hF : fpc a b c d p = 0 → 2 ≤ p ∧ p ≤ 97 ∧ lOk a b c d p r = decide ((tlD a b c d p r).tmod p = 0) := fun h => by
    obtain ⟨_, hp⟩ := fpc_0.1 h
    obtain ⟨h2, h97⟩ := prm_rng hp
    exact ⟨h2, h97, by unfold lOk; rw [mul0_p h2]⟩
  have hS : fpc a b c d p = 0 → rng 0 p r = true → ∀ W, Calls Try.prog 95 #[.agg #[.int .i64 a, .int .i64 b, .int .i64 c, .int .i64 d], .int .i64 p, .int .i64 r] W fun e w' => e = .returned (.agg #[.int .i64 (loA a b c d p r), .int .i64 (loB a b c d p r), .int .i64 (loC a b c d p r), .int .i64 (loD a b c d p r)]) ∧ Below W.heap.size W w' := fun h hr W => by
    obtain ⟨hF, hp⟩ := fpc_0.1 h
    obtain ⟨ha, hb, hc, hd⟩ := isF_t hF
    obtain ⟨h2, h97⟩ := prm_rng hp
    exact l06Lowered_any a b c d p r W ha hb hc hd h2 h97 (rng_t hr).1 (rng_t hr).2
  have hA : fpc a b c d p = 0 → rng 0 p r = true → ∀ W, Calls Try.prog 94 #[.agg #[.int .i64 a, .int .i64 b, .int .i64 c, .int .i64 d], .int .i64 p, .int .i64 r] W fun e w' => e = .returned (.int .i64 (tlD a b c d p r)) ∧ Below W.heap.size W w' := fun h hr W => by
    obtain ⟨hF, hp⟩ := fpc_0.1 h
    obtain ⟨ha, hb, hc, hd⟩ := isF_t hF
    obtain ⟨h2, h97⟩ := prm_rng hp
    have := rng_t hr
    exact l06At_any a b c d p r W ha hb hc hd (by omega) (by omega)
  have hK : lfc a b c d p r = stc (fpc a b c d p) p r (lOk a b c d p r) (isF (loA a b c d p r) (loB a b c d p r) (loC a b c d p r) (loD a b c d p r)) := rfl
  generalize lfc a b c d p r = k at hK ⊢
  generalize fpc a b c d p = f at hC hS hK hA hF
  generalize lOk a b c d p r = ok at hS hK hF
  generalize tlD a b c d p r = t at hA hF
  generalize loA a b c d p r = x at *
  generalize loB a b c d p r = y at *
  generalize loC a b c d p r = z at *
  generalize loD a b c d p r = u at *
  have HC := hid hC; have HS := hid hS; have HK := hid hK; have HA := hid hA; have HF := hid hF
  clear hC hS hK hA hF
  have A0 := (Arr.new w a b c d 23).alloc (.cells #[.int .i64 0, .int .i64 0, .int .i64 0, .int .i64 0] 23)
  have R0 := Arr.new (w.alloc (.cells #[.int .i64 a, .int .i64 b, .int .i64 c, .int .i64 d] 23)) 0 0 0 0 23
  have U0 := gr_alloc (gr_alloc (Below.refl w.heap.size w) (.cells #[.int .i64 a, .int .i64 b, .int .i64 c, .int .i64 d] 23)) (.cells #[.int .i64 0, .int .i64 0, .int .i64 0, .int .i64 0] 23)
  simp only [World.size_alloc] at R0
  go_enter Try.func46, Try.ntmps46
  go_wp2_with fail
  refine (HC.out _).mono ?_
  rintro e w1 ⟨rfl, hb1⟩
  have A1 := A0.next hb1
  have R1 := R0.next hb1
  have U1 := gr_trans U0 hb1
  obtain ⟨_, a0, a1, a2, a3, _⟩ := id A1
  obtain ⟨_, r0, r1, r2, r3, f0, f1, f2, f3⟩ := id R1
  by_cases hf : f = 0
  · cases hr : rng 0 p r with
    | true =>
      obtain ⟨h2, h97, hok⟩ := HF.out hf
      obtain ⟨tx1, tx2⟩ := tmod_6 t p (by omega) (by omega)
      have HS1 := hid (HS.out hf hr)
      have HA1 := hid (HA.out hf hr)
      have hz4 : ¬ p = 0 := by omega
      by_cases ht : t.tmod p = 0
      · have hx : (t.tmod p != 0) = false := by simp [ht]
        have HE := hid (HK.out.trans (stc_ok hf hr (hok.trans (by simp [ht]))))
        have hv : ∀ v, ifF x y z u v = if0 (if isF x y z u then 0 else 3) v := by intro v; unfold ifF if0; split <;> simp
        have hL := fun W => l06Told_any x y z u W
        simp only [hv] at hL
        generalize (if isF x y z u = true then (0 : Int) else 3) = q at hL HE
        have HL := hid hL
        clear hL hv ht hok
        subst hf
        go_wp2_with (go_at_call 76; refine (l01In_any r 0 p _).mono ?_; rintro e w9 ⟨rfl, rfl⟩)
        refine (HA1.out _).mono ?_
        rintro e w2 ⟨rfl, hb2⟩
        have A2 := A1.next hb2
        have R2 := R1.next hb2
        have U2 := gr_trans U1 hb2
        clear a0 a1 a2 a3 r0 r1 r2 r3 f0 f1 f2 f3
        obtain ⟨_, a0, a1, a2, a3, _⟩ := id A2
        go_wp2_with fail
        refine (HS1.out _).mono ?_
        rintro e w3 ⟨rfl, hb3⟩
        have R3 := R2.next hb3
        have U3 := gr_trans U2 hb3
        clear a0 a1 a2 a3
        go_wp2_with fail
        refine (HL.out _).mono ?_
        rintro e w4 ⟨rfl, hb4⟩
        have R4 := R3.next hb4
        have U4 := gr_trans U3 hb4
        obtain ⟨_, r0, r1, r2, r3, f0, f1, f2, f3⟩ := id R4
        go_wp2_with fail
        refine bodyPost_ret (res_A (e := 2) rfl Try.underlying23 (by kernel_rfl) rfl (by (repeat (first | with_reducible assumption | with_reducible exact Arr.box (by assumption) | with_reducible apply Arr.drew | with_reducible apply Arr.drewN | with_reducible refine Arr.store4 ?_ | with_reducible apply Arr.alloc | with_reducible refine Box.drew ?_ | with_reducible refine Box.drewN ?_ _ | with_reducible refine Box.alloc ?_ _ | refine Arr.oth ?_ (by first | (simp; done) | omega | (simp; omega)) _ | refine Box.oth ?_ (by first | (simp; done) | omega | (simp; omega)) _)))) rfl ?_
        rw [HE.out]
        exact ⟨rfl, by (repeat' (first | with_reducible exact Below.refl _ _ | with_reducible assumption | with_reducible refine gr_alloc ?_ _ | with_reducible refine gr_drew ?_ | with_reducible refine gr_drewN ?_ _ | with_reducible refine gr_trans ?_ (by assumption) | with_reducible refine gr_set ?_ ?_ _ | (simp; done) | omega | (simp; omega)))⟩
      · have hx : (t.tmod p != 0) = true := by simp [ht]
        have HE := hid (HK.out.trans (stc_no hf hr (hok.trans (by simp [ht]))))
        clear ht hok
        subst hf
        go_wp2_with (go_at_call 76; refine (l01In_any r 0 p _).mono ?_; rintro e w9 ⟨rfl, rfl⟩)
        refine (HA1.out _).mono ?_
        rintro e w2 ⟨rfl, hb2⟩
        have R2 := R1.next hb2
        have U2 := gr_trans U1 hb2
        clear a0 a1 a2 a3 r0 r1 r2 r3 f0 f1 f2 f3
        obtain ⟨_, r0, r1, r2, r3, f0, f1, f2, f3⟩ := id R2
        go_wp2_with fail
        refine bodyPost_ret (res_A (e := 2) rfl Try.underlying23 (by kernel_rfl) rfl (by (repeat (first | with_reducible assumption | with_reducible exact Arr.box (by assumption) | with_reducible apply Arr.drew | with_reducible apply Arr.drewN | with_reducible refine Arr.store4 ?_ | with_reducible apply Arr.alloc | with_reducible refine Box.drew ?_ | with_reducible refine Box.drewN ?_ _ | with_reducible refine Box.alloc ?_ _ | refine Arr.oth ?_ (by first | (simp; done) | omega | (simp; omega)) _ | refine Box.oth ?_ (by first | (simp; done) | omega | (simp; omega)) _)))) rfl ?_
        rw [HE.out]
        exact ⟨rfl, by (repeat' (first | with_reducible exact Below.refl _ _ | with_reducible assumption | with_reducible refine gr_alloc ?_ _ | with_reducible refine gr_drew ?_ | with_reducible refine gr_drewN ?_ _ | with_reducible refine gr_trans ?_ (by assumption) | with_reducible refine gr_set ?_ ?_ _ | (simp; done) | omega | (simp; omega)))⟩
    | false =>
      have HE := hid (HK.out.trans (stc_out hf hr))
      subst hf
      go_wp2_with (go_at_call 76; refine (l01In_any r 0 p _).mono ?_; rintro e w9 ⟨rfl, rfl⟩)
      refine bodyPost_ret (res_A (e := 2) rfl Try.underlying23 (by kernel_rfl) rfl (by (repeat (first | with_reducible assumption | with_reducible exact Arr.box (by assumption) | with_reducible apply Arr.drew | with_reducible apply Arr.drewN | with_reducible refine Arr.store4 ?_ | with_reducible apply Arr.alloc | with_reducible refine Box.drew ?_ | with_reducible refine Box.drewN ?_ _ | with_reducible refine Box.alloc ?_ _ | refine Arr.oth ?_ (by first | (simp; done) | omega | (simp; omega)) _ | refine Box.oth ?_ (by first | (simp; done) | omega | (simp; omega)) _)))) rfl ?_
      rw [HE.out]
      exact ⟨rfl, by (repeat' (first | with_reducible exact Below.refl _ _ | with_reducible assumption | with_reducible refine gr_alloc ?_ _ | with_reducible refine gr_drew ?_ | with_reducible refine gr_drewN ?_ _ | with_reducible refine gr_trans ?_ (by assumption) | with_reducible refine gr_set ?_ ?_ _ | (simp; done) | omega | (simp; omega)))⟩
  · have HE := hid (HK.out.trans (stc_code hf))
    have hn : if0 k x = 0 ∧ if0 k y = 0 ∧ if0 k z = 0 ∧ if0 k u = 0 := by rw [HE.out]; simp [if0, hf]
    have HN := hid hn
    have hf' : (f == 0) = false := by simpa using hf
    clear hf hn
    go_wp2_with fail
    refine bodyPost_ret (res_A (e := 2) rfl Try.underlying23 (by kernel_rfl) rfl (by (repeat (first | with_reducible assumption | with_reducible exact Arr.box (by assumption) | with_reducible apply Arr.drew | with_reducible apply Arr.drewN | with_reducible refine Arr.store4 ?_ | with_reducible apply Arr.alloc | with_reducible refine Box.drew ?_ | with_reducible refine Box.drewN ?_ _ | with_reducible refine Box.alloc ?_ _ | refine Arr.oth ?_ (by first | (simp; done) | omega | (simp; omega)) _ | refine Box.oth ?_ (by first | (simp; done) | omega | (simp; omega)) _)))) rfl ?_
    rw [HN.out.1, HN.out.2.1, HN.out.2.2.1, HN.out.2.2.2, HE.out]
    exact ⟨rfl, by (repeat' (first | with_reducible exact Below.refl _ _ | with_reducible assumption | with_reducible refine gr_alloc ?_ _ | with_reducible refine gr_drew ?_ | with_reducible refine gr_drewN ?_ _ | with_reducible refine gr_trans ?_ (by assumption) | with_reducible refine gr_set ?_ ?_ _ | (simp; done) | omega | (simp; omega)))⟩

/-- The code of DivideForm. -/
def dfc (a b c d p : Int) : Int := if fpc a b c d p = 0 then (if mul0 (cnt a b c d) p then 0 else 5) else fpc a b c d p

set_option maxRecDepth 100000 in
set_option maxHeartbeats 2000000 in
theorem iDivideForm_any (a b c d p : Int) (w : World) :
    Calls Try.prog 45 #[.agg #[.int .i64 a, .int .i64 b, .int .i64 c, .int .i64 d], .int .i64 p] w fun e w' => e = .returned (.tuple #[.agg #[.int .i64 (if0 (dfc a b c d p) (a.tdiv p)), .int .i64 (if0 (dfc a b c d p) (b.tdiv p)), .int .i64 (if0 (dfc a b c d p) (c.tdiv p)), .int .i64 (if0 (dfc a b c d p) (d.tdiv p))], .int .i64 (dfc a b c d p)]) ∧ Below w.heap.size w w' := by
  have hC := fun W => iCheckFP_any a b c d p W
  have hF : fpc a b c d p = 0 → isF a b c d = true ∧ prm p = true := fpc_0.1
  have hK : dfc a b c d p = if fpc a b c d p = 0 then (if mul0 (cnt a b c d) p then 0 else 5) else fpc a b c d p := rfl
  generalize dfc a b c d p = k at hK ⊢
  generalize fpc a b c d p = f at hC hF hK
  have HC := hid hC; have HF := hid hF; have HK := hid hK
  clear hC hF hK
  have A0 := (Arr.new w a b c d 23).alloc (.cells #[.int .i64 0, .int .i64 0, .int .i64 0, .int .i64 0] 23)
  have R0 := Arr.new (w.alloc (.cells #[.int .i64 a, .int .i64 b, .int .i64 c, .int .i64 d] 23)) 0 0 0 0 23
  have U0 := gr_alloc (gr_alloc (Below.refl w.heap.size w) (.cells #[.int .i64 a, .int .i64 b, .int .i64 c, .int .i64 d] 23)) (.cells #[.int .i64 0, .int .i64 0, .int .i64 0, .int .i64 0] 23)
  simp only [World.size_alloc] at R0
  go_enter Try.func45, Try.ntmps45
  go_wp2_with fail
  refine (HC.out _).mono ?_
  rintro e w1 ⟨rfl, hb1⟩
  have A1 := A0.next hb1
  have R1 := R0.next hb1
  have U1 := gr_trans U0 hb1
  obtain ⟨_, a0, a1, a2, a3, _⟩ := id A1
  obtain ⟨_, r0, r1, r2, r3, f0, f1, f2, f3⟩ := id R1
  by_cases hf : f = 0
  · obtain ⟨hFm, hp⟩ := HF.out hf
    obtain ⟨ha, hb, hc, hd⟩ := isF_t hFm
    obtain ⟨h2, h97⟩ := prm_rng hp
    have HD := hid (fun W => iDivided_any a b c d p W ha hb hc hd (by omega) (by omega))
    have HG := hid (fun W hA => iGcd4_any w.heap.size a b c d W hA ha hb hc hd)
    have HK1 := hid (HK.out.trans (if_pos hf))
    clear ha hb hc hd hFm hp
    subst hf
    cases hm : mul0 (cnt a b c d) p with
    | true =>
      have HE := hid (show k = 0 by rw [HK1.out, hm]; rfl)
      go_wp2_with fail
      refine (HG.out _ A1).mono ?_
      rintro e w2 ⟨rfl, hb2⟩
      have A2 := A1.next hb2
      have R2 := R1.next hb2
      have U2 := gr_trans U1 hb2
      clear a0 a1 a2 a3 r0 r1 r2 r3 f0 f1 f2 f3
      obtain ⟨_, a0, a1, a2, a3, _⟩ := id A2
      go_wp2_with (go_at_call 82; refine (isMultiple_any _ _ _ (by omega) (by omega)).mono ?_; rintro e w' ⟨rfl, rfl⟩)
      refine (HD.out _).mono ?_
      rintro e w3 ⟨rfl, hb3⟩
      have R3 := R2.next hb3
      have U3 := gr_trans U2 hb3
      obtain ⟨_, r0, r1, r2, r3, f0, f1, f2, f3⟩ := id R3
      go_wp2_with fail
      refine bodyPost_ret (res_A (e := 2) rfl Try.underlying23 (by kernel_rfl) rfl (by (repeat (first | with_reducible assumption | with_reducible exact Arr.box (by assumption) | with_reducible apply Arr.drew | with_reducible apply Arr.drewN | with_reducible refine Arr.store4 ?_ | with_reducible apply Arr.alloc | with_reducible refine Box.drew ?_ | with_reducible refine Box.drewN ?_ _ | with_reducible refine Box.alloc ?_ _ | refine Arr.oth ?_ (by first | (simp; done) | omega | (simp; omega)) _ | refine Box.oth ?_ (by first | (simp; done) | omega | (simp; omega)) _)))) rfl ?_
      rw [HE.out]
      exact ⟨rfl, by (repeat' (first | with_reducible exact Below.refl _ _ | with_reducible assumption | with_reducible refine gr_alloc ?_ _ | with_reducible refine gr_drew ?_ | with_reducible refine gr_drewN ?_ _ | with_reducible refine gr_trans ?_ (by assumption) | with_reducible refine gr_set ?_ ?_ _ | (simp; done) | omega | (simp; omega)))⟩
    | false =>
      have HE := hid (show k = 5 by rw [HK1.out, hm]; rfl)
      go_wp2_with fail
      refine (HG.out _ A1).mono ?_
      rintro e w2 ⟨rfl, hb2⟩
      have R2 := R1.next hb2
      have U2 := gr_trans U1 hb2
      clear a0 a1 a2 a3 r0 r1 r2 r3 f0 f1 f2 f3
      obtain ⟨_, r0, r1, r2, r3, f0, f1, f2, f3⟩ := id R2
      go_wp2_with (go_at_call 82; refine (isMultiple_any _ _ _ (by omega) (by omega)).mono ?_; rintro e w' ⟨rfl, rfl⟩)
      refine bodyPost_ret (res_A (e := 2) rfl Try.underlying23 (by kernel_rfl) rfl (by (repeat (first | with_reducible assumption | with_reducible exact Arr.box (by assumption) | with_reducible apply Arr.drew | with_reducible apply Arr.drewN | with_reducible refine Arr.store4 ?_ | with_reducible apply Arr.alloc | with_reducible refine Box.drew ?_ | with_reducible refine Box.drewN ?_ _ | with_reducible refine Box.alloc ?_ _ | refine Arr.oth ?_ (by first | (simp; done) | omega | (simp; omega)) _ | refine Box.oth ?_ (by first | (simp; done) | omega | (simp; omega)) _)))) rfl ?_
      rw [HE.out]
      exact ⟨rfl, by (repeat' (first | with_reducible exact Below.refl _ _ | with_reducible assumption | with_reducible refine gr_alloc ?_ _ | with_reducible refine gr_drew ?_ | with_reducible refine gr_drewN ?_ _ | with_reducible refine gr_trans ?_ (by assumption) | with_reducible refine gr_set ?_ ?_ _ | (simp; done) | omega | (simp; omega)))⟩
  · have HE := hid (HK.out.trans (if_neg hf))
    have hn : if0 k (a.tdiv p) = 0 ∧ if0 k (b.tdiv p) = 0 ∧ if0 k (c.tdiv p) = 0 ∧ if0 k (d.tdiv p) = 0 := by rw [HE.out]; simp [if0, hf]
    have HN := hid hn
    have hf' : (f == 0) = false := by simpa using hf
    clear hf hn
    go_wp2_with fail
    refine bodyPost_ret (res_A (e := 2) rfl Try.underlying23 (by kernel_rfl) rfl (by (repeat (first | with_reducible assumption | with_reducible exact Arr.box (by assumption) | with_reducible apply Arr.drew | with_reducible apply Arr.drewN | with_reducible refine Arr.store4 ?_ | with_reducible apply Arr.alloc | with_reducible refine Box.drew ?_ | with_reducible refine Box.drewN ?_ _ | with_reducible refine Box.alloc ?_ _ | refine Arr.oth ?_ (by first | (simp; done) | omega | (simp; omega)) _ | refine Box.oth ?_ (by first | (simp; done) | omega | (simp; omega)) _)))) rfl ?_
    rw [HN.out.1, HN.out.2.1, HN.out.2.2.1, HN.out.2.2.2, HE.out]
    exact ⟨rfl, by (repeat' (first | with_reducible exact Below.refl _ _ | with_reducible assumption | with_reducible refine gr_alloc ?_ _ | with_reducible refine gr_drew ?_ | with_reducible refine gr_drewN ?_ _ | with_reducible refine gr_trans ?_ (by assumption) | with_reducible refine gr_set ?_ ?_ _ | (simp; done) | omega | (simp; omega)))⟩

set_option maxRecDepth 100000 in
set_option maxHeartbeats 2000000 in
theorem sDivideForm_any (a b c d p : Int) (w : World) :
    Calls Try.prog 44 #[.agg #[.int .i64 a, .int .i64 b, .int .i64 c, .int .i64 d], .int .i64 p] w fun e w' => e = .returned (.tuple #[.agg #[.int .i64 (if0 (dfc a b c d p) (a.tdiv p)), .int .i64 (if0 (dfc a b c d p) (b.tdiv p)), .int .i64 (if0 (dfc a b c d p) (c.tdiv p)), .int .i64 (if0 (dfc a b c d p) (d.tdiv p))], .int .i64 (dfc a b c d p)]) ∧ Below w.heap.size w w' := by
  have hC := fun W => l06Code_any a b c d p W
  have hF : fpc a b c d p = 0 → isF a b c d = true ∧ prm p = true := fpc_0.1
  have hK : dfc a b c d p = if fpc a b c d p = 0 then (if mul0 (cnt a b c d) p then 0 else 5) else fpc a b c d p := rfl
  generalize dfc a b c d p = k at hK ⊢
  generalize fpc a b c d p = f at hC hF hK
  have HC := hid hC; have HF := hid hF; have HK := hid hK
  clear hC hF hK
  have A0 := (Arr.new w a b c d 23).alloc (.cells #[.int .i64 0, .int .i64 0, .int .i64 0, .int .i64 0] 23)
  have R0 := Arr.new (w.alloc (.cells #[.int .i64 a, .int .i64 b, .int .i64 c, .int .i64 d] 23)) 0 0 0 0 23
  have U0 := gr_alloc (gr_alloc (Below.refl w.heap.size w) (.cells #[.int .i64 a, .int .i64 b, .int .i64 c, .int .i64 d] 23)) (.cells #[.int .i64 0, .int .i64 0, .int .i64 0, .int .i64 0] 23)
  simp only [World.size_alloc] at R0
  go_enter Try.func44, Try.ntmps44
  go_wp2_with fail
  refine (HC.out _).mono ?_
  rintro e w1 ⟨rfl, hb1⟩
  have A1 := A0.next hb1
  have R1 := R0.next hb1
  have U1 := gr_trans U0 hb1
  obtain ⟨_, a0, a1, a2, a3, _⟩ := id A1
  obtain ⟨_, r0, r1, r2, r3, f0, f1, f2, f3⟩ := id R1
  by_cases hf : f = 0
  · obtain ⟨hFm, hp⟩ := HF.out hf
    obtain ⟨ha, hb, hc, hd⟩ := isF_t hFm
    obtain ⟨h2, h97⟩ := prm_rng hp
    have HG := hid (fun W => sCnt_any a b c d W ha hb hc hd)
    have HK1 := hid (HK.out.trans (if_pos hf))
    obtain ⟨g0, g1⟩ := cnt_bd ha hb hc hd
    have hmp := mul0_p (n := cnt a b c d) h2
    generalize cnt a b c d = g at HG HK1 g0 g1 hmp
    have hz4 : ¬ p = 0 := by omega
    have he : g.tmod p = g % p := Int.tmod_eq_emod_of_nonneg g0
    clear hFm hp
    subst hf
    by_cases hm : g.tmod p = 0
    · have HE := hid (show k = 0 by rw [HK1.out, hmp]; simp [hm])
      have hm' : (g % p != 0) = false := by rw [← he]; simp [hm]
      clear hm he hmp
      go_wp2_with fail
      refine (HG.out _).mono ?_
      rintro e w2 ⟨rfl, hb2⟩
      have A2 := A1.next hb2
      have R2 := R1.next hb2
      have U2 := gr_trans U1 hb2
      clear a0 a1 a2 a3 r0 r1 r2 r3 f0 f1 f2 f3
      obtain ⟨_, a0, a1, a2, a3, _⟩ := id A2
      obtain ⟨_, r0, r1, r2, r3, f0, f1, f2, f3⟩ := id R2
      go_wp2_with fail
      go_still_tail 17, (by kernel_rfl)
      go_wp2_with fail
      refine bodyPost_ret (res_A (e := 2) rfl Try.underlying23 (by kernel_rfl) rfl (by (repeat (first | with_reducible assumption | with_reducible exact Arr.box (by assumption) | with_reducible apply Arr.drew | with_reducible apply Arr.drewN | with_reducible refine Arr.store4 ?_ | with_reducible apply Arr.alloc | with_reducible refine Box.drew ?_ | with_reducible refine Box.drewN ?_ _ | with_reducible refine Box.alloc ?_ _ | refine Arr.oth ?_ (by first | (simp; done) | omega | (simp; omega)) _ | refine Box.oth ?_ (by first | (simp; done) | omega | (simp; omega)) _)))) rfl ?_
      rw [HE.out]
      exact ⟨rfl, by (repeat' (first | with_reducible exact Below.refl _ _ | with_reducible assumption | with_reducible refine gr_alloc ?_ _ | with_reducible refine gr_drew ?_ | with_reducible refine gr_drewN ?_ _ | with_reducible refine gr_trans ?_ (by assumption) | with_reducible refine gr_set ?_ ?_ _ | (simp; done) | omega | (simp; omega)))⟩
    · have HE := hid (show k = 5 by rw [HK1.out, hmp]; simp [hm])
      have hm' : (g % p != 0) = true := by rw [← he]; simp [hm]
      clear hm he hmp
      go_wp2_with fail
      refine (HG.out _).mono ?_
      rintro e w2 ⟨rfl, hb2⟩
      have R2 := R1.next hb2
      have U2 := gr_trans U1 hb2
      clear a0 a1 a2 a3 r0 r1 r2 r3 f0 f1 f2 f3
      obtain ⟨_, r0, r1, r2, r3, f0, f1, f2, f3⟩ := id R2
      go_wp2_with fail
      refine bodyPost_ret (res_A (e := 2) rfl Try.underlying23 (by kernel_rfl) rfl (by (repeat (first | with_reducible assumption | with_reducible exact Arr.box (by assumption) | with_reducible apply Arr.drew | with_reducible apply Arr.drewN | with_reducible refine Arr.store4 ?_ | with_reducible apply Arr.alloc | with_reducible refine Box.drew ?_ | with_reducible refine Box.drewN ?_ _ | with_reducible refine Box.alloc ?_ _ | refine Arr.oth ?_ (by first | (simp; done) | omega | (simp; omega)) _ | refine Box.oth ?_ (by first | (simp; done) | omega | (simp; omega)) _)))) rfl ?_
      rw [HE.out]
      exact ⟨rfl, by (repeat' (first | with_reducible exact Below.refl _ _ | with_reducible assumption | with_reducible refine gr_alloc ?_ _ | with_reducible refine gr_drew ?_ | with_reducible refine gr_drewN ?_ _ | with_reducible refine gr_trans ?_ (by assumption) | with_reducible refine gr_set ?_ ?_ _ | (simp; done) | omega | (simp; omega)))⟩
  · have HE := hid (HK.out.trans (if_neg hf))
    have hn : if0 k (a.tdiv p) = 0 ∧ if0 k (b.tdiv p) = 0 ∧ if0 k (c.tdiv p) = 0 ∧ if0 k (d.tdiv p) = 0 := by rw [HE.out]; simp [if0, hf]
    have HN := hid hn
    have hf' : (f == 0) = false := by simpa using hf
    clear hf hn
    go_wp2_with fail
    refine bodyPost_ret (res_A (e := 2) rfl Try.underlying23 (by kernel_rfl) rfl (by (repeat (first | with_reducible assumption | with_reducible exact Arr.box (by assumption) | with_reducible apply Arr.drew | with_reducible apply Arr.drewN | with_reducible refine Arr.store4 ?_ | with_reducible apply Arr.alloc | with_reducible refine Box.drew ?_ | with_reducible refine Box.drewN ?_ _ | with_reducible refine Box.alloc ?_ _ | refine Arr.oth ?_ (by first | (simp; done) | omega | (simp; omega)) _ | refine Box.oth ?_ (by first | (simp; done) | omega | (simp; omega)) _)))) rfl ?_
    rw [HN.out.1, HN.out.2.1, HN.out.2.2.1, HN.out.2.2.2, HE.out]
    exact ⟨rfl, by (repeat' (first | with_reducible exact Below.refl _ _ | with_reducible assumption | with_reducible refine gr_alloc ?_ _ | with_reducible refine gr_drew ?_ | with_reducible refine gr_drewN ?_ _ | with_reducible refine gr_trans ?_ (by assumption) | with_reducible refine gr_set ?_ ?_ _ | (simp; done) | omega | (simp; omega)))⟩

end Go.Proofs.Ytmhlolimaeejfaa
