/- FnMatrices: products do not depend on the code's road, inverse matrices lead back, determinants multiply, and changed forms have the values at the places changed, at every code. No condition. -/
import Derived.Test.YtodbbbgokegehaaOpen
import Derived.Test.YtodbbbgokegehaaFm2
namespace Go.Proofs.Ytodbbbgokegehaa
open Go.ChangeShapes Go.WideShapes Go.ChangeAt Go.RowKit

set_option maxHeartbeats 400000 in
theorem big_any (a : Option Addr) (len cap : Nat) (w : World) :
    Calls Try.prog 5 #[.slice a len cap] w fun e w' => e = .returned (.bool (decide (4096 < (len : Int)))) ∧ w = w' := by
  go_enter Try.func5, Try.ntmps5
  go_wp2
  go_ret
  exact ⟨rfl, rfl⟩

set_option maxRecDepth 1000000 in
set_option maxHeartbeats 8000000 in
theorem FnMatrices_walk (w : World) (a0 : Option Addr) (len0 cap0 : Nat) (z0 : List Int) (hR : IsRow .u8 w a0 len0 cap0 z0) :
    Calls Try.prog 3 #[.slice a0 len0 cap0] w fun e w' => e = .returned (.bool true) ∧ Below w.heap.size w w' := by
  have HR := hid hR
  clear hR
  have hem := eqMatrix_run
  have hef := eqForm_run
  by_cases hb : 4096 < (len0 : Int)
  · go_enter Try.func3, Try.ntmps3
    go_wp2_with (go_at_call 5; refine (big_any _ _ _ _).mono ?_; rintro e w1 ⟨rfl, rfl⟩)
    go_ret
    exact ⟨rfl, Below.refl _ _⟩
  have hlen : len0 ≤ 9223372036854775807 := by omega
  have hb' : decide (4096 < (len0 : Int)) = false := decide_eq_false hb
  have HB := hid hb'
  clear hb
  go_enter Try.func3, Try.ntmps3
  go_wp2_with (go_at_call 5; refine (big_any _ _ _ _).mono ?_; rintro e w1 ⟨rfl, rfl⟩)
  refine (drawMul_any a0 len0 cap0 z0 _ HR.out hlen).mono ?_
  rintro e w1 ⟨p, q, r, s, p', q', r', s', rfl, U1⟩
  have M2 := (Arr.new w1 p q r s 25).alloc (.cells #[.int .i64 p', .int .i64 q', .int .i64 r', .int .i64 s'] 25)
  have N2 := Arr.new (w1.alloc (.cells #[.int .i64 p, .int .i64 q, .int .i64 r, .int .i64 s] 25)) p' q' r' s' 25
  have U2 := gr_alloc (gr_alloc U1 (.cells #[.int .i64 p, .int .i64 q, .int .i64 r, .int .i64 s] 25)) (.cells #[.int .i64 p', .int .i64 q', .int .i64 r', .int .i64 s'] 25)
  simp only [World.size_alloc] at N2
  obtain ⟨K, hK⟩ : ∃ K, K = mulc p q r s p' q' r' s' := ⟨_, rfl⟩
  obtain ⟨n0, hn0⟩ : ∃ n, n = if0 K (mp p p' q r') := ⟨_, rfl⟩
  obtain ⟨n1, hn1⟩ : ∃ n, n = if0 K (mp p q' q s') := ⟨_, rfl⟩
  obtain ⟨n2, hn2⟩ : ∃ n, n = if0 K (mp r p' s r') := ⟨_, rfl⟩
  obtain ⟨n3, hn3⟩ : ∃ n, n = if0 K (mp r q' s s') := ⟨_, rfl⟩
  have hi := fun W => iMul_any p q r s p' q' r' s' W
  have hs := fun W => sMul_any p q r s p' q' r' s' W
  rw [← hK, ← hn0, ← hn1, ← hn2, ← hn3] at hi hs
  have HI := hid hi; have HS := hid hs; have HK := hid hK; have HN0 := hid hn0; have HN1 := hid hn1; have HN2 := hid hn2; have HN3 := hid hn3
  clear hi hs hK hn0 hn1 hn2 hn3
  go_wp2_with fail
  refine (HI.out _).mono ?_
  rintro e w3 ⟨rfl, hb3⟩
  have M3 := (M2.next hb3).alloc (.cells #[.int .i64 n0, .int .i64 n1, .int .i64 n2, .int .i64 n3] 25)
  have N3 := (N2.next hb3).alloc (.cells #[.int .i64 n0, .int .i64 n1, .int .i64 n2, .int .i64 n3] 25)
  have X3 := Arr.new w3 n0 n1 n2 n3 25
  have U3 := gr_alloc (gr_trans U2 hb3) (.cells #[.int .i64 n0, .int .i64 n1, .int .i64 n2, .int .i64 n3] 25)
  have hl3 := (M2.next hb3).lt
  have hl3' := (N2.next hb3).lt
  clear M2 N2 U2 hb3 HI
  obtain ⟨_, m0, m1, m2, m3, _⟩ := id M3
  obtain ⟨_, d0, d1, d2, d3, _⟩ := id N3
  go_wp2_with fail
  refine (HS.out _).mono ?_
  rintro e w4 ⟨rfl, hb4⟩
  clear m0 m1 m2 m3 d0 d1 d2 d3
  have M4 := (M3.next hb4).alloc (.cells #[.int .i64 n0, .int .i64 n1, .int .i64 n2, .int .i64 n3] 25)
  have N4 := (N3.next hb4).alloc (.cells #[.int .i64 n0, .int .i64 n1, .int .i64 n2, .int .i64 n3] 25)
  have X4 := (X3.next hb4).alloc (.cells #[.int .i64 n0, .int .i64 n1, .int .i64 n2, .int .i64 n3] 25)
  have Y4 := Arr.new w4 n0 n1 n2 n3 25
  have U4 := gr_alloc (gr_trans U3 hb4) (.cells #[.int .i64 n0, .int .i64 n1, .int .i64 n2, .int .i64 n3] 25)
  have hl4 := (X3.next hb4).lt
  clear M3 N3 X3 U3 hb4 HS
  go_upto_region 6 with fail
  generalize hj1 : w1.heap.size = j1 at M4 N4 hl3 hl3' ⊢
  generalize hj3 : w3.heap.size = j3 at X4 hl3 hl3' hl4 ⊢
  generalize hj4 : w4.heap.size = j4 at Y4 hl4 ⊢
  generalize w4.alloc (.cells #[.int .i64 n0, .int .i64 n1, .int .i64 n2, .int .i64 n3] 25) = W at M4 N4 X4 Y4 U4 ⊢
  clear hj1 hj3 hj4
  have MD := M4.drew; have ND := N4.drew; have XD := X4.drew; have YD := Y4.drew; have UD := gr_drew U4
  clear M4 N4 X4 Y4 U4
  go_cut [80] (fun s80 wx => s80 = .bool false ∧ Arr wx j1 p q r s ∧ Arr wx (j1 + 1) p' q' r' s' ∧ Arr wx j3 n0 n1 n2 n3 ∧ Below w.heap.size w wx)
  case first =>
    go_region_held3 (fun W => (W.cell? ⟨j1, 0, none⟩ = some (.int .i64 p) ∧ W.cell? ⟨j1, 1, none⟩ = some (.int .i64 q) ∧ W.cell? ⟨j1, 2, none⟩ = some (.int .i64 r) ∧ W.cell? ⟨j1, 3, none⟩ = some (.int .i64 s)) ∧ (W.cell? ⟨j3, 0, none⟩ = some (.int .i64 n0) ∧ W.cell? ⟨j3, 1, none⟩ = some (.int .i64 n1) ∧ W.cell? ⟨j3, 2, none⟩ = some (.int .i64 n2) ∧ W.cell? ⟨j3, 3, none⟩ = some (.int .i64 n3)) ∧ (W.cell? ⟨j4, 0, none⟩ = some (.int .i64 n0) ∧ W.cell? ⟨j4, 1, none⟩ = some (.int .i64 n1) ∧ W.cell? ⟨j4, 2, none⟩ = some (.int .i64 n2) ∧ W.cell? ⟨j4, 3, none⟩ = some (.int .i64 n3))) (refine ⟨cells4 ?_, cells4 ?_, cells4 ?_⟩ <;> (repeat (first | with_reducible assumption | with_reducible exact Arr.box (by assumption) | with_reducible exact Box.new _ _ _ _ _ _ | with_reducible exact Arr.new _ _ _ _ _ _ | with_reducible refine Arr.drew ?_ | with_reducible refine Arr.drewN ?_ _ | with_reducible refine Arr.store4 ?_ | with_reducible refine Arr.alloc ?_ _ | with_reducible refine Box.drew ?_ | with_reducible refine Box.drewN ?_ _ | with_reducible refine Box.alloc ?_ _ | with_reducible refine Arr.next ?_ (by assumption) | with_reducible refine Box.next ?_ (by assumption) | refine Arr.oth ?_ (by first | (simp; done) | omega | (simp; omega)) _ | refine Box.oth ?_ (by first | (simp; done) | omega | (simp; omega)) _))) (first | (go_at_call 9; refine (iIsMatrix_any p q r s _).mono ?_; rintro e wa ⟨rfl, hba⟩) | (go_at_call 10; refine (sIsMat_any p q r s _).mono ?_; rintro e wb ⟨rfl, hbb⟩))
    all_goals (go_wp2_with fail; go_meet; exact ⟨by simp, by (repeat (first | with_reducible assumption | with_reducible exact Arr.box (by assumption) | with_reducible exact Box.new _ _ _ _ _ _ | with_reducible exact Arr.new _ _ _ _ _ _ | with_reducible refine Arr.drew ?_ | with_reducible refine Arr.drewN ?_ _ | with_reducible refine Arr.store4 ?_ | with_reducible refine Arr.alloc ?_ _ | with_reducible refine Box.drew ?_ | with_reducible refine Box.drewN ?_ _ | with_reducible refine Box.alloc ?_ _ | with_reducible refine Arr.next ?_ (by assumption) | with_reducible refine Box.next ?_ (by assumption) | refine Arr.oth ?_ (by first | (simp; done) | omega | (simp; omega)) _ | refine Box.oth ?_ (by first | (simp; done) | omega | (simp; omega)) _)), by (repeat (first | with_reducible assumption | with_reducible exact Arr.box (by assumption) | with_reducible exact Box.new _ _ _ _ _ _ | with_reducible exact Arr.new _ _ _ _ _ _ | with_reducible refine Arr.drew ?_ | with_reducible refine Arr.drewN ?_ _ | with_reducible refine Arr.store4 ?_ | with_reducible refine Arr.alloc ?_ _ | with_reducible refine Box.drew ?_ | with_reducible refine Box.drewN ?_ _ | with_reducible refine Box.alloc ?_ _ | with_reducible refine Arr.next ?_ (by assumption) | with_reducible refine Box.next ?_ (by assumption) | refine Arr.oth ?_ (by first | (simp; done) | omega | (simp; omega)) _ | refine Box.oth ?_ (by first | (simp; done) | omega | (simp; omega)) _)), by (repeat (first | with_reducible assumption | with_reducible exact Arr.box (by assumption) | with_reducible exact Box.new _ _ _ _ _ _ | with_reducible exact Arr.new _ _ _ _ _ _ | with_reducible refine Arr.drew ?_ | with_reducible refine Arr.drewN ?_ _ | with_reducible refine Arr.store4 ?_ | with_reducible refine Arr.alloc ?_ _ | with_reducible refine Box.drew ?_ | with_reducible refine Box.drewN ?_ _ | with_reducible refine Box.alloc ?_ _ | with_reducible refine Arr.next ?_ (by assumption) | with_reducible refine Box.next ?_ (by assumption) | refine Arr.oth ?_ (by first | (simp; done) | omega | (simp; omega)) _ | refine Box.oth ?_ (by first | (simp; done) | omega | (simp; omega)) _)), by (repeat' (first | with_reducible exact Below.refl _ _ | with_reducible assumption | with_reducible refine gr_alloc ?_ _ | with_reducible refine gr_drew ?_ | with_reducible refine gr_drewN ?_ _ | with_reducible refine gr_trans ?_ (by assumption) | with_reducible refine gr_set ?_ ?_ _ | (simp; done) | omega | (simp; omega)))⟩)
  case rest =>
    obtain ⟨rfl, M5, N5, X5, U5⟩ := hcut
    clear MD ND XD YD UD hl3 hl3' hl4
    go_upto_if 82 with (fail)
    go_cut [] (fun wx => Below w.heap.size w wx)
    case first =>
      by_cases hk : K = 0
      · have kk := HK.out
        rw [hk] at kk
        obtain ⟨hf, hg, hp⟩ := mulc_0 kk.symm
        have e0 : n0 = mp p p' q r' := by rw [HN0.out, hk]; simp [if0]
        have e1 : n1 = mp p q' q s' := by rw [HN1.out, hk]; simp [if0]
        have e2 : n2 = mp r p' s r' := by rw [HN2.out, hk]; simp [if0]
        have e3 : n3 = mp r q' s s' := by rw [HN3.out, hk]; simp [if0]
        rw [← e0, ← e1, ← e2, ← e3] at hp
        have hdm := det_mul hf hg
        rw [← e0, ← e1, ← e2, ← e3] at hdm
        obtain ⟨d1, hd1⟩ : ∃ x, x = det p q r s := ⟨_, rfl⟩
        obtain ⟨d2, hd2⟩ : ∃ x, x = det p' q' r' s' := ⟨_, rfl⟩
        obtain ⟨d3, hd3⟩ : ∃ x, x = det n0 n1 n2 n3 := ⟨_, rfl⟩
        have hc1 := fun W => iDet_any p q r s W
        have hc2 := fun W => iDet_any p' q' r' s' W
        have hc3 := fun W => iDet_any n0 n1 n2 n3 W
        simp only [det0, cif, hf, hg, hp, if_true] at hc1 hc2 hc3
        rw [← hd1] at hc1 hdm; rw [← hd2] at hc2 hdm; rw [← hd3] at hc3 hdm
        have hdm' : wrap64 (d1 * d2) = d3 := hdm
        have C1 := hid hc1; have C2 := hid hc2; have C3 := hid hc3
        clear hc1 hc2 hc3 hd1 hd2 hd3 e0 e1 e2 e3 hf hg hp kk hdm
        have hkt : (K == 0) = true := by simpa using hk
        have HDM := hid hdm'
        clear hdm'
        subst hk
        obtain ⟨_, m0, m1, m2, m3, _⟩ := id M5
        go_wp2_with fail
        refine (C1.out _).mono ?_
        rintro e v1 ⟨rfl, hv1⟩
        have N6 := N5.next hv1
        have X6 := X5.next hv1
        have U6 := gr_trans U5 hv1
        clear m0 m1 m2 m3 M5 N5 X5 U5 hv1 C1
        obtain ⟨_, m0, m1, m2, m3, _⟩ := id N6
        go_wp2_with fail
        refine (C2.out _).mono ?_
        rintro e v2 ⟨rfl, hv2⟩
        have X7 := X6.next hv2
        have U7 := gr_trans U6 hv2
        clear m0 m1 m2 m3 N6 X6 U6 hv2 C2
        obtain ⟨_, m0, m1, m2, m3, _⟩ := id X7
        go_wp2_with fail
        refine (C3.out _).mono ?_
        rintro e v3 ⟨rfl, hv3⟩
        have U8 := gr_trans U7 hv3
        have hdm' := HDM.out
        clear m0 m1 m2 m3 X7 U7 hv3 C3
        go_wp2_with fail
        go_meet
        exact U8
      · have hkf : (K == 0) = false := by simpa using hk
        clear hk
        go_wp2_with fail
        go_meet
        exact U5
    case rest =>
      go_step
      exact seg82_any w a0 len0 cap0 z0 HR hlen wc hcut _ _ _ _ _ _ _ _ _ _ _ _ _ _ _ _ _ _ _ _ _ _ _ _ _ _ _ _ _ _ _ _ _ _ _ _ _ _ _ _ _ _ _ _ _ _ _ _ _ _ _ _ _ _ _ _ _ _ _ _ _ _ _ _ _ _ _ _ _ _ _ _ _ _ _ _ _ _ _ _ _ _ _ _ _ _ _ _ _ _ _ _ _ _ _ _ _ _ _ _ _ _ _ _ _ _ _ _ _ _ _ _ _ _ _ _ _ _ _ _ _ _ _ _ _ _ _ _ _ _ _ _ _ _ _ _ _ _ _ _ _ _ _ _ _ _ _ _ _ _ _ _ _ _ _ _ _ _ _ _ _ _ _ _ _ _ _ _ _ _ _ _ _ _ _ _ _ _ _ _ _ _ _ _ _ _ _ _ _ _ _ _ _ _ _ _ _ _ _ _ _ _ _ _ _ _ _ _ _ _ _ _ _ _ _ _ _ _ _ _ _ _ _ _ _ _ _ _ _ _ _ _ _ _ _ _ _ _ _ _ _ _ _ _ _ _ _ _ _ _ _ _ _ _ _ _ _ _ _ _ _ _ _ _ _ _ _ _ _ _ _ _ _ _ _ _ _ _ _ _ _ _ _ _ _ _ _ _ _ _ _ _ _ _ _ _ _ _ _

set_option maxRecDepth 100000 in
set_option maxHeartbeats 1000000 in
theorem FnMatrices_lifted (os : Os) (started : os.Started) (H : Type) (enc : TypeId × Value → H) :
    ReturnsInHanded {} Try.checked os 3 .any (Rows.fnMatricesSpec.pre6 enc Try.prog Try.f3 Rows.fnMatricesRow.domain false) (Rows.fnMatricesSpec.post enc Try.prog Try.f3 false true false false) := by
  refine returnsInHanded_of_change (C := Try.checked) own started (by kernel_rfl) Try.func3
    (ChangeSpec.witness6 (enc := enc) (C := Try.checked) false ⟨#[], #[.slice none 0 0], []⟩ 8 (by kernel_rfl) (by kernel_rfl) (by kernel_rfl) (by kernel_rfl)) ?_
  intro W base args ds gs before hval0 hW hcnd _
  have hval : ∀ (j : Nat) t v, Try.f3.params[j]? = some t → args[j]? = some v → Value.okWide Try.prog W .any base t v := hval0
  have hW' := hW
  obtain ⟨p, q, hA0, hV, rfl, hfz, hnd⟩ := hW
  have hA : DataW.TrodAll enc Try.prog W 0 (fun _ => true) true Try.f3.params.toList args.toList ds p := hA0
  rw [Try.params3] at hA hval
  obtain ⟨v0, vs0, d0, ds0, p0, q0, hargs, rfl, rfl, h0, r0⟩ := trodAll_cons hA
  obtain ⟨rfl, rfl, rfl⟩ := trodAll_nil r0
  obtain rfl : args = #[v0] := by cases args; simp_all
  obtain ⟨rfl, rfl⟩ := trodVars_none hV
  have k0 := h0
  have lt0 : ∀ x ∈ p0, x.block < W.heap.size := by obtain ⟨m, hm⟩ := k0; exact DataW.trod_lt m _ _ _ hm
  obtain ⟨a0, len0, cap0, rfl⟩ := okWide_slice Try.underlying22 (hval 0 22 v0 rfl rfl)
  obtain ⟨z0, w0⟩ := open_row (k := .u8) Try.underlying22 Try.underlying5 (by kernel_rfl) h0
  clear hA0 hval0
  refine (FnMatrices_walk W a0 len0 cap0 z0 w0).mono fun e W' ⟨he, bel⟩ => ?_
  subst he
  exact ⟨_, rfl, _, _, _, [], _, [], hW', trodAll_mk1 (shut_bool Try.underlying4 _), (trodAll_cons_mk (Below.trod laidOut (by kernel_rfl) (of_decide_eq_true (by kernel_rfl)) k0 bel lt0) trodAll_mk0), rfl, bel.frame _, fun h => by cases h⟩

/-- THE STATEMENT. -/
theorem FnMatrices_holds : Rows.FnMatricesSaid :=
  OpenClaim.holds_of_wide 3 Try.f3 rfl rfl rfl rfl rfl rfl rfl ⟨rfl, rfl, rfl, rfl, rfl⟩ rfl rfl rfl rfl rfl (by kernel_rfl) Try.func3 (by kernel_rfl)
    (of_decide_eq_true (by kernel_rfl)) (by unfold Func.isWrapper; first | (rw [if_pos (by decide +kernel)]; kernel_rfl) | (rw [if_neg (by decide +kernel)]; exact ⟨rfl, rfl⟩))
    (fun os started H enc _ => FnMatrices_lifted os started H enc)
#print axioms FnMatrices_holds

end Go.Proofs.Ytodbbbgokegehaa
