/- FnCovariants: discriminants of Hessians are -3 times those of the forms, changed quadratic forms have the values at the places changed, and definite ones have one sign, at every code. No condition. -/
import Derived.Test.YtambbhldhhlfgaaClo
import Derived.Test.YtambbhldhhlfgaaOpen
import Derived.Test.YtambbhldhhlfgaaCv2
import Derived.Test.YtambbhldhhlfgaaC1d
namespace Go.Proofs.Ytambbhldhhlfgaa
open Go.ChangeShapes Go.WideShapes Go.ChangeAt Go.RowKit

set_option maxHeartbeats 400000 in
theorem big_any (a : Option Addr) (len cap : Nat) (w : World) :
    Calls Try.prog 5 #[.slice a len cap] w fun e w' => e = .returned (.bool (decide (4096 < (len : Int)))) ∧ w = w' := by
  go_enter Try.func5, Try.ntmps5
  go_wp2
  go_ret
  exact ⟨rfl, rfl⟩

theorem dsc_bd {a b c d : Int} (h : isF a b c d = true) : dsc a b c d = b * b * c * c - 4 * a * c * c * c - 4 * b * b * b * d - 27 * a * a * d * d + 18 * a * b * c * d ∧ -100000000000000 ≤ dsc a b c d ∧ dsc a b c d ≤ 100000000000000 := by
  obtain ⟨ha, hb, hc, hd⟩ := isF_t h
  have e1 := mulb4 hb hb hc hc
  have e2 := mulb (mulb4 (show -4 ≤ (4 : Int) ∧ (4 : Int) ≤ 4 by omega) ha hc hc) hc
  have e3 := mulb (mulb4 (show -4 ≤ (4 : Int) ∧ (4 : Int) ≤ 4 by omega) hb hb hb) hd
  have e4 := mulb (mulb4 (show -27 ≤ (27 : Int) ∧ (27 : Int) ≤ 27 by omega) ha ha hd) hd
  have e5 := mulb (mulb4 (show -18 ≤ (18 : Int) ∧ (18 : Int) ≤ 18 by omega) ha hb hc) hd
  simp only [Int.reduceMul] at e1 e2 e3 e4 e5
  have hw : dsc a b c d = wrap64 (b * b * c * c - 4 * a * c * c * c - 4 * b * b * b * d - 27 * a * a * d * d + 18 * a * b * c * d) := by
    simp only [dsc, pl, mi, mu, wr_al, wr_ar, wr_sl, wr_sr, wr_ml]
  have hi : wrap64 (b * b * c * c - 4 * a * c * c * c - 4 * b * b * b * d - 27 * a * a * d * d + 18 * a * b * c * d) = b * b * c * c - 4 * a * c * c * c - 4 * b * b * b * d - 27 * a * a * d * d + 18 * a * b * c * d := wr_in (by omega)
  rw [hw, hi]
  exact ⟨rfl, by omega, by omega⟩
theorem h_ex {a b c d : Int} (h : isF a b c d = true) : h1 a b c = hs1 a b c ∧ h2 a b c d = hs2 a b c d ∧ h3 b c d = hs3 b c d := by
  obtain ⟨ha, hb, hc, hd⟩ := isF_t h
  have bb := mulb hb hb; have ac := mulb (mulb (show -3 ≤ (3 : Int) ∧ (3 : Int) ≤ 3 by omega) ha) hc; have bc := mulb hb hc
  have ad := mulb (mulb (show -9 ≤ (9 : Int) ∧ (9 : Int) ≤ 9 by omega) ha) hd; have cc := mulb hc hc; have bd := mulb (mulb (show -3 ≤ (3 : Int) ∧ (3 : Int) ≤ 3 by omega) hb) hd
  simp only [Int.reduceMul] at bb ac bc ad cc bd
  exact ⟨wr_in (by unfold hs1; omega), wr_in (by unfold hs2; omega), wr_in (by unfold hs3; omega)⟩
/-- The discriminant of the Hessian. -/
theorem dq_hess {a b c d : Int} (h : isF a b c d = true) : qcd (h1 a b c) (h2 a b c d) (h3 b c d) = 0 ∧ isQ (h1 a b c) (h2 a b c d) (h3 b c d) = true ∧ dq (h1 a b c) (h2 a b c d) (h3 b c d) = -3 * dsc a b c d := by
  obtain ⟨b1, b2, b3⟩ := h_bd h
  have hN := isN_mk (a := h1 a b c) (b := h2 a b c d) (c := h3 b c d) (by omega) (by omega) (by omega)
  have hQ := isQ_mk (a := h1 a b c) (b := h2 a b c d) (c := h3 b c d) (by omega) (by omega) (by omega)
  refine ⟨by simp [qcd, hN, hQ], hQ, ?_⟩
  obtain ⟨e1, e2, e3⟩ := h_ex h
  obtain ⟨f1, f2, f3⟩ := dsc_bd h
  have hw : dq (h1 a b c) (h2 a b c d) (h3 b c d) = wrap64 (hs2 a b c d * hs2 a b c d - 4 * hs1 a b c * hs3 b c d) := by
    rw [e1, e2, e3]; simp only [dq, mi, mu, wr_sl, wr_sr, wr_ml]
  have hp : hs2 a b c d * hs2 a b c d - 4 * hs1 a b c * hs3 b c d = -3 * (b * b * c * c - 4 * a * c * c * c - 4 * b * b * b * d - 27 * a * a * d * d + 18 * a * b * c * d) := by
    unfold hs1 hs2 hs3; grind
  rw [hw, hp, ← f1]
  exact wr_in (by omega)
theorem cnt3_dvd (a b c : Int) : (cnt3 a b c ≠ 0 → a.tmod (cnt3 a b c) = 0 ∧ b.tmod (cnt3 a b c) = 0 ∧ c.tmod (cnt3 a b c) = 0) := by
  intro _
  have h1 : (cnt3 a b c) ∣ (Int.gcd a b : Int) := by unfold cnt3; exact Int.gcd_dvd_left ..
  have h2 : (cnt3 a b c) ∣ c := by unfold cnt3; exact Int.gcd_dvd_right ..
  exact ⟨Int.tmod_eq_zero_of_dvd (Int.dvd_trans h1 (Int.gcd_dvd_left ..)), Int.tmod_eq_zero_of_dvd (Int.dvd_trans h1 (Int.gcd_dvd_right ..)), Int.tmod_eq_zero_of_dvd h2⟩

theorem cif_0 {a b c d : Int} (h : 0 = cif a b c d) : isF a b c d = true := by
  unfold cif at h
  split at h
  · assumption
  · omega

set_option maxRecDepth 1000000 in
set_option maxHeartbeats 8000000 in
theorem FnCovariants_walk (w : World) (a0 : Option Addr) (len0 cap0 : Nat) (z0 : List Int) (hR : IsRow .u8 w a0 len0 cap0 z0) :
    Calls Try.prog 4 #[.slice a0 len0 cap0] w fun e w' => e = .returned (.bool true) ∧ Below w.heap.size w w' := by
  have HR := hid hR
  clear hR
  have heq := eqQ_run
  by_cases hb : 4096 < (len0 : Int)
  · go_enter Try.func4, Try.ntmps4
    go_wp2_with (go_at_call 5; refine (big_any _ _ _ _).mono ?_; rintro e w1 ⟨rfl, rfl⟩)
    go_ret
    exact ⟨rfl, Below.refl _ _⟩
  have hlen : len0 ≤ 9223372036854775807 := by omega
  have hb' : decide (4096 < (len0 : Int)) = false := decide_eq_false hb
  have HB := hid hb'
  clear hb
  go_enter Try.func4, Try.ntmps4
  go_wp2_with (go_at_call 5; refine (big_any _ _ _ _).mono ?_; rintro e w1 ⟨rfl, rfl⟩)
  refine (drawHes_any a0 len0 cap0 z0 _ HR.out hlen).mono ?_
  rintro e w1 ⟨p, q, r, s, rfl, U1⟩
  have M2 := Arr.new w1 p q r s 25
  have U2 := gr_alloc U1 (.cells #[.int .i64 p, .int .i64 q, .int .i64 r, .int .i64 s] 25)
  obtain ⟨K, hK⟩ : ∃ K, K = cif p q r s := ⟨_, rfl⟩
  obtain ⟨n0, hn0⟩ : ∃ n, n = ifF p q r s (h1 p q r) := ⟨_, rfl⟩
  obtain ⟨n1, hn1⟩ : ∃ n, n = ifF p q r s (h2 p q r s) := ⟨_, rfl⟩
  obtain ⟨n2, hn2⟩ : ∃ n, n = ifF p q r s (h3 q r s) := ⟨_, rfl⟩
  have hi := fun W => iHessianOf_any p q r s W
  have hs := fun W => sHessianOf_any p q r s W
  rw [← hK, ← hn0, ← hn1, ← hn2] at hi hs
  have HI := hid hi; have HS := hid hs; have HK := hid hK; have HN0 := hid hn0; have HN1 := hid hn1; have HN2 := hid hn2
  clear hi hs hK hn0 hn1 hn2
  go_wp2_with fail
  refine (HI.out _).mono ?_
  rintro e w3 ⟨rfl, hb3⟩
  have M3 := (M2.next hb3).alloc (.cells #[.int .i64 n0, .int .i64 n1, .int .i64 n2] 49)
  have X3 := Arr3.new w3 n0 n1 n2 49
  have U3 := gr_alloc (gr_trans U2 hb3) (.cells #[.int .i64 n0, .int .i64 n1, .int .i64 n2] 49)
  have hl3 := (M2.next hb3).lt
  clear M2 U2 hb3 HI
  obtain ⟨_, m0, m1, m2, m3, _⟩ := id M3
  go_wp2_with fail
  refine (HS.out _).mono ?_
  rintro e w4 ⟨rfl, hb4⟩
  clear m0 m1 m2 m3
  have M4 := (M3.next hb4).alloc (.cells #[.int .i64 n0, .int .i64 n1, .int .i64 n2] 49)
  have X4 := (X3.next hb4).alloc (.cells #[.int .i64 n0, .int .i64 n1, .int .i64 n2] 49)
  have Y4 := Arr3.new w4 n0 n1 n2 49
  have U4 := gr_alloc (gr_trans U3 hb4) (.cells #[.int .i64 n0, .int .i64 n1, .int .i64 n2] 49)
  have hl4 := (X3.next hb4).lt
  clear M3 X3 U3 hb4 HS
  go_upto_region 6 with fail
  generalize hj1 : w1.heap.size = j1 at M4 hl3 ⊢
  generalize hj3 : w3.heap.size = j3 at X4 hl3 hl4 ⊢
  generalize hj4 : w4.heap.size = j4 at Y4 hl4 ⊢
  generalize w4.alloc (.cells #[.int .i64 n0, .int .i64 n1, .int .i64 n2] 49) = W at M4 X4 Y4 U4 ⊢
  clear hj1 hj3 hj4
  obtain ⟨_, x0, x1, x2, _⟩ := id X4
  obtain ⟨_, y0, y1, y2, _⟩ := id Y4
  go_upto_if 71 with (fail)
  clear x0 x1 x2 y0 y1 y2 Y4
  go_cut [] (fun wx => Below w.heap.size w wx)
  case first =>
    by_cases hk : K = 0
    · have kk := HK.out
      rw [hk] at kk
      have hf : isF p q r s = true := cif_0 kk
      have e0 : n0 = h1 p q r := by rw [HN0.out]; simp [ifF, hf]
      have e1 : n1 = h2 p q r s := by rw [HN1.out]; simp [ifF, hf]
      have e2 : n2 = h3 q r s := by rw [HN2.out]; simp [ifF, hf]
      obtain ⟨hqc, hQ, hdq⟩ := dq_hess hf
      rw [← e0, ← e1, ← e2] at hqc hQ hdq
      obtain ⟨D, hD⟩ : ∃ x, x = dsc p q r s := ⟨_, rfl⟩
      rw [← hD] at hdq
      have hDb := (dsc_bd hf).2
      rw [← hD] at hDb
      have hdv := cnt3_dvd n0 n1 n2
      obtain ⟨g, hg⟩ : ∃ x, x = cnt3 n0 n1 n2 := ⟨_, rfl⟩
      rw [← hg] at hdv
      have c1 := fun W => iQDisc_any n0 n1 n2 W
      have c2 := fun W => iDisc_any p q r s W
      have c3 := fun W => iHessCont_any p q r s W
      have c4 := fun W => iDefinite_any n0 n1 n2 W
      have c5 := fun W => iIsQ_any n0 n1 n2 W
      have hcn' : hcn p q r s = g := by rw [hg, e0, e1, e2]; simp [hcn, ifF, hf]
      have hdf : dfn n0 n1 n2 = decide (0 < D) := by unfold dfn; rw [hqc, hdq]; simp [if0]; omega
      rw [hqc, hdq] at c1
      rw [hcn', ← HK.out, hk] at c3
      rw [hdf, hqc] at c4
      rw [hQ] at c5
      have hcf : cif p q r s = 0 := kk.symm
      have hd0 : dsc0 p q r s = D := by rw [hD]; simp [dsc0, hf]
      rw [hcf, hd0] at c2
      simp only [if0, if_true] at c1
      have C1 := hid c1; have C2 := hid c2; have C3 := hid c3; have C4 := hid c4; have C5 := hid c5
      have E0 := hid e0; have E1 := hid e1; have E2 := hid e2; have HF := hid hf; have HDV := hid hdv
      clear c1 c2 c3 c4 c5 e0 e1 e2 hf hdv hcn' hdf hqc hQ hdq hcf hd0 hD hg kk
      have hkt : (K == 0) = true := by simpa using hk
      subst hk
      obtain ⟨hD1, hD2⟩ := hDb
      obtain ⟨_, x0, x1, x2, _⟩ := id X4
      go_wp2_with fail
      refine (C1.out _).mono ?_
      rintro e v1 ⟨rfl, hv1⟩
      have M5 := M4.next hv1
      have X5 := X4.next hv1
      have U5 := gr_trans U4 hv1
      clear x0 x1 x2 M4 X4 U4 hv1 C1
      obtain ⟨_, m0, m1, m2, m3, _⟩ := id M5
      go_wp2_with fail
      refine (C2.out _).mono ?_
      rintro e v2 ⟨rfl, hv2⟩
      have M6 := M5.next hv2
      have X6 := X5.next hv2
      have U6 := gr_trans U5 hv2
      clear m0 m1 m2 m3 M5 X5 U5 hv2 C2
      obtain ⟨_, m0, m1, m2, m3, _⟩ := id M6
      go_wp2_with fail
      refine (C3.out _).mono ?_
      rintro e v3 ⟨rfl, hv3⟩
      have X7 := X6.next hv3
      have U7 := gr_trans U6 hv3
      clear m0 m1 m2 m3 M6 X6 U6 hv3 C3
      obtain ⟨_, x0, x1, x2, _⟩ := id X7
      go_wp2_with fail
      refine (C4.out _).mono ?_
      rintro e v4 ⟨rfl, hv4⟩
      have X8 := X7.next hv4
      have U8 := gr_trans U7 hv4
      clear x0 x1 x2 X7 U7 hv4 C4
      obtain ⟨_, x0, x1, x2, _⟩ := id X8
      go_upto_region 15 with (go_at_call 32; refine (C5.out _).mono ?_; rintro e v5 ⟨rfl, hv5⟩)
      have X9 := X8.next hv5
      have U9 := gr_trans U8 hv5
      clear x0 x1 x2 X8 U8 hv5 C5
      obtain ⟨_, x0, x1, x2, _⟩ := id X9
      by_cases hg0 : g = 0
      · subst hg0
        go_wp2_with fail
        go_meet
        exact U9
      · have hgb : (g == 0) = false := by simpa using hg0
        obtain ⟨t0, t1, t2⟩ := HDV.out hg0
        go_wp2_with fail
        go_meet
        exact U9
    · have hkf : (K == 0) = false := by simpa using hk
      clear hk
      go_wp2_with fail
      go_meet
      exact U4
  case rest =>
    rename_i wc hcut
    go_step
    exact cseg71_any w a0 len0 cap0 z0 HR hlen wc hcut _ _ _ _ _ _ _ _ _ _ _ _ _ _ _ _ _ _ _ _ _ _ _ _ _ _ _ _ _ _ _ _ _ _ _ _ _ _ _ _ _ _ _ _ _ _ _ _ _ _ _ _ _ _ _ _ _ _ _ _ _ _ _ _ _ _ _ _ _ _ _ _ _ _ _ _ _ _ _ _ _ _ _ _ _ _ _ _ _ _ _ _ _ _ _ _ _ _ _ _ _ _ _ _ _ _ _ _ _ _ _ _ _ _ _ _ _ _ _ _ _ _ _ _ _ _ _ _ _ _ _ _ _ _ _ _ _ _ _ _ _ _ _ _ _ _ _ _ _ _ _ _ _ _ _ _ _ _ _ _ _ _ _ _ _ _ _ _ _ _ _ _ _ _ _ _ _ _ _ _ _ _ _ _ _ _ _ _ _ _ _ _ _ _ _ _ _ _ _ _ _ _ _ _ _ _ _ _ _ _ _ _ _ _ _ _ _ _ _ _ _ _ _ _ _ _ _ _ _ _ _ _ _ _ _ _ _ _ _ _ _ _ _ _ _ _ _ _ _ _ _ _ _ _ _ _ _ _ _ _ _ _ _ _ _ _ _ _ _ _ _ _ _ _ _ _ _ _ _ _ _ _ _ _ _ _ _ _ _ _ _ _ _ _ _ _ _ _ _ _ _ _ _ _ _ _ _ _ _ _ _ _ _ _ _ _ _ _ _ _ _ _ _ _ _ _ _ _ _ _ _ _ _ _ _ _ _ _ _ _ _ _ _ _ _ _

set_option maxRecDepth 100000 in
set_option maxHeartbeats 1000000 in
theorem FnCovariants_lifted (os : Os) (started : os.Started) (H : Type) (enc : TypeId × Value → H) :
    ReturnsInHanded {} Try.checked os 4 .any (Rows.fnCovariantsSpec.pre6 enc Try.prog Try.f4 Rows.fnCovariantsRow.domain false) (Rows.fnCovariantsSpec.post enc Try.prog Try.f4 false true false false) := by
  refine returnsInHanded_of_change (C := Try.checked) own started (by kernel_rfl) Try.func4
    (ChangeSpec.witness6 (enc := enc) (C := Try.checked) false ⟨#[], #[.slice none 0 0], []⟩ 8 (by kernel_rfl) (by kernel_rfl) (by kernel_rfl) (by kernel_rfl)) ?_
  intro W base args ds gs before hval0 hW hcnd _
  have hval : ∀ (j : Nat) t v, Try.f4.params[j]? = some t → args[j]? = some v → Value.okWide Try.prog W .any base t v := hval0
  have hW' := hW
  obtain ⟨p, q, hA0, hV, rfl, hfz, hnd⟩ := hW
  have hA : DataW.TrodAll enc Try.prog W 0 (fun _ => true) true Try.f4.params.toList args.toList ds p := hA0
  rw [Try.params4] at hA hval
  obtain ⟨v0, vs0, d0, ds0, p0, q0, hargs, rfl, rfl, h0, r0⟩ := trodAll_cons hA
  obtain ⟨rfl, rfl, rfl⟩ := trodAll_nil r0
  obtain rfl : args = #[v0] := by cases args; simp_all
  obtain ⟨rfl, rfl⟩ := trodVars_none hV
  have k0 := h0
  have lt0 : ∀ x ∈ p0, x.block < W.heap.size := by obtain ⟨m, hm⟩ := k0; exact DataW.trod_lt m _ _ _ hm
  obtain ⟨a0, len0, cap0, rfl⟩ := okWide_slice Try.underlying22 (hval 0 22 v0 rfl rfl)
  obtain ⟨z0, w0⟩ := open_row (k := .u8) Try.underlying22 Try.underlying5 (by kernel_rfl) h0
  clear hA0 hval0
  refine (FnCovariants_walk W a0 len0 cap0 z0 w0).mono fun e W' ⟨he, bel⟩ => ?_
  subst he
  exact ⟨_, rfl, _, _, _, [], _, [], hW', trodAll_mk1 (shut_bool Try.underlying4 _), (trodAll_cons_mk (Below.trod laidOut (by kernel_rfl) (of_decide_eq_true (by kernel_rfl)) k0 bel lt0) trodAll_mk0), rfl, bel.frame _, fun h => by cases h⟩

set_option maxRecDepth 100000 in
set_option maxHeartbeats 1000000 in
theorem FnCovariants_closed : joinedFacts Try.prog 4 Try.f4 Rows.fnCovariantsSpec Rows.fnCovariantsRow = true := by
  unfold joinedFacts
  exact clo_and (clo_and (clo_and (clo_and (clo_and (clo_and (clo_and (clo_and (clo_and (clo_and (clo_and (clo_and (clo_and (clo_and (clo_and (clo_and (clo_and (clo_and (clo_and (clo_and (clo_and (clo_and (clo_and (clo_and (clo_and (clo_and (clo_and (clo_and (clo_and (clo_and (clo_and (by kernel_rfl) laidOut) (by kernel_rfl)) (by kernel_rfl)) (by kernel_rfl)) (by kernel_rfl)) (by kernel_rfl)) (by kernel_rfl)) (by kernel_rfl)) (by kernel_rfl)) (by kernel_rfl)) (by kernel_rfl)) (by kernel_rfl)) (by kernel_rfl)) (by kernel_rfl)) (by kernel_rfl)) (by kernel_rfl)) (by kernel_rfl)) (by kernel_rfl)) (by kernel_rfl)) (by kernel_rfl)) (by kernel_rfl)) (by kernel_rfl)) (by kernel_rfl)) (by kernel_rfl)) clo_enter) clo_lifts) clo_make) (by kernel_rfl)) (by kernel_rfl)) (by kernel_rfl)) (by kernel_rfl)

/-- THE STATEMENT. -/
theorem FnCovariants_holds : Rows.FnCovariantsSaid :=
  OpenClaim.holds_of_wide 4 Try.f4 rfl rfl rfl rfl rfl rfl rfl ⟨rfl, rfl, rfl, rfl, rfl⟩ rfl rfl rfl rfl rfl (by kernel_rfl) Try.func4 FnCovariants_closed
    (of_decide_eq_true (by kernel_rfl)) (by unfold Func.isWrapper; first | (rw [if_pos (by decide +kernel)]; kernel_rfl) | (rw [if_neg (by decide +kernel)]; exact ⟨rfl, rfl⟩))
    (fun os started H enc _ => FnCovariants_lifted os started H enc)
#print axioms FnCovariants_holds

end Go.Proofs.Ytambbhldhhlfgaa
