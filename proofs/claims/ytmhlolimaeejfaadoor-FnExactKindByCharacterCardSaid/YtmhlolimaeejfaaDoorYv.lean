/- Chapter 9: KindByCharacter, the program's and the model's. -/
import Derived.Test.YtmhlolimaeejfaaDoorYq
import Derived.Test.YtmhlolimaeejfaaDoorYp
import Derived.Test.YtmhlolimaeejfaaDoorYt
import Derived.Deep.RegionWith
namespace Go.Proofs.YtmhlolimaeejfaaDoor
open Go.RowKit

/-- The code of KindByCharacter: k for the arguments, D for the resolvent. -/
def kbc (k D : Int) : Int := if k = 0 then (if rng (-1000000000) 1000000000 D = true then 0 else 3) else k
theorem kbc_k {k D : Int} (h : ¬ k = 0) : kbc k D = k := by simp [kbc, h]
theorem kbc_0 {D : Int} (h : rng (-1000000000) 1000000000 D = true) : kbc 0 D = 0 := by simp [kbc, h]
theorem kbc_3 {D : Int} (h : rng (-1000000000) 1000000000 D = false) : kbc 0 D = 3 := by simp [kbc, h]
def KbP (k n D : Int) : Prop := k = 0 → n ≠ 0 ∧ ∃ f, Rv n D f ∧ ∀ q, 2 ≤ q → Um D q
theorem KbP.one {n D D' : Int} (h : KbP 0 n D) (h' : KbP 0 n D') : D = D' := by
  obtain ⟨h0, f, h1, h2⟩ := h rfl
  obtain ⟨_, f', h3, h4⟩ := h' rfl
  exact (res_one h0 h1.eq h3.eq h1.ft h3.ft h2 h4).1
def KbPost (k n q : Int) (w : World) (e : Ending) (w' : World) : Prop := ∃ D : Int, e = .returned (.tuple #[.int .i64 (if0 (kbc k D) (chq D q.toNat)), .int .i64 (kbc k D)]) ∧ KbP k n D ∧ Below w.heap.size w w'
theorem prm_pf {q : Nat} (h : prm (q : Int) = true) : Pf q [q] := by
  have hr := prm_rng h
  have h1 : Pf (q * 1) [q] := .cons (by omega) (by
    rw [Nat.mul_one]
    exact fun j a b hj => prm_div h j a (by omega) (by exact_mod_cast hj)) (by omega) .one
  rwa [Nat.mul_one] at h1

set_option maxRecDepth 100000 in
set_option maxHeartbeats 1000000 in
theorem iKb_any (a b c d q : Int) (pv : Value) (w : World) (hg : Sen w pv) : Calls Tryd.prog 24 #[.agg #[.int .i64 a, .int .i64 b, .int .i64 c, .int .i64 d], .int .i64 q] w (KbPost (gvc a b c d (prm q)) (dsc a b c d) q w) := by
  have HG := hid (fun W hg => iGiven_any a b c d (prm q) pv W hg)
  have HP := hid (fun W => isPrime_any q W)
  have HD := hid (fun W => iDisc0_any a b c d W)
  have HX : Hid (gvc a b c d (prm q) = 0 → prm q = true ∧ dsc a b c d ≠ 0 ∧ Fts (dsc a b c d) ∧ -100000000000000 ≤ dsc a b c d ∧ dsc a b c d ≤ 100000000000000) := hid fun h => by
    obtain ⟨hF, hp, hi⟩ := gvc_t h
    obtain ⟨e, h1, h2⟩ := dsc_b9 hF
    rw [e] at *
    exact ⟨hp, irb_dx hi, dx_fts _ _ _ _, by omega, by omega⟩
  generalize gvc a b c d (prm q) = k at HG HX ⊢
  generalize dsc a b c d = n at HD HX ⊢
  generalize hpq : prm q = pq at HG HP HX
  have HPQ := hid hpq
  clear hpq
  have A0 := Arr.new w a b c d 26
  have U0 := gr_alloc (Below.refl w.heap.size w) (.cells #[.int .i64 a, .int .i64 b, .int .i64 c, .int .i64 d] 26)
  have G0 := hg.alloc (.cells #[.int .i64 a, .int .i64 b, .int .i64 c, .int .i64 d] 26)
  go_enter Tryd.func24, Tryd.ntmps24
  go_upto_region 1 with fail
  generalize hW : w.alloc (.cells #[.int .i64 a, .int .i64 b, .int .i64 c, .int .i64 d] 26) = W0 at A0 U0 G0 ⊢
  clear hW
  obtain ⟨_, c0, c1, c2, c3, _⟩ := id A0
  go_cut [6] (fun s6 wx => s6 = .int .i64 k ∧ Below W0.heap.size W0 wx)
  case first =>
    go_region_with (first | (go_at_call 43; refine (HP.out _).mono ?_; rintro e w1 ⟨rfl, rfl⟩) | (go_at_call 42; refine (HG.out _ (by first | exact G0 | exact G0.drew)).mono ?_; rintro e w1 ⟨rfl, hb1⟩))
    all_goals
      go_wp2_with fail
      go_meet
      exact ⟨rfl, by (repeat' (first | with_reducible exact Below.refl _ _ | with_reducible assumption | with_reducible refine gr_alloc ?_ _ | with_reducible refine gr_drew ?_ | with_reducible refine gr_drewN ?_ _ | with_reducible refine gr_trans ?_ (by assumption) | with_reducible refine gr_set ?_ ?_ _ | (simp; done) | omega | (simp; omega)))⟩
  case rest =>
    obtain ⟨rfl, hbx⟩ := hcut
    have A1 := hid (A0.next hbx)
    have U1 := hid (gr_trans U0 hbx)
    clear A0 U0 G0 c0 c1 c2 c3 hbx HG HP
    by_cases hk : k = 0
    · obtain ⟨hpp, hn0, hft, hn1, hn2⟩ := HX.out hk
      have HR := hid (fun W => resolventOf_any n W hn0 hft ⟨hn1, hn2⟩)
      have HN0 := hid hn0
      have hprm : prm q = true := HPQ.out.trans hpp
      obtain ⟨hq2, hq97⟩ := prm_rng hprm
      obtain ⟨Q, rfl⟩ : ∃ Q : Nat, q = Q := ⟨q.toNat, by omega⟩
      have HPF := hid (prm_pf hprm)
      subst hk
      obtain ⟨_, c0, c1, c2, c3, _⟩ := id A1.out
      clear hn0 hft hprm HX HPQ hpp
      go_wp2_with fail
      refine (HD.out _).mono ?_
      rintro e w2 ⟨rfl, hb2⟩
      go_wp2_with fail
      refine (HR.out _).mono ?_
      rintro e w3 ⟨D, F, rfl, hRv, hb3⟩
      have HRV := hid hRv
      have hB := Bx.new w3 #[.int .i64 D, .int .i64 ((F : Int))] 64
      have r0 : (w3.alloc (.cells #[.int .i64 D, .int .i64 ((F : Int))] 64)).cell? ⟨w3.heap.size, 0, none⟩ = some (.int .i64 D) := hB.cell 0
      have HU := hid (gr_alloc (gr_trans (gr_trans U1.out hb2) hb3) (.cells #[.int .i64 D, .int .i64 ((F : Int))] 64))
      clear hRv hB hb2 hb3 c0 c1 c2 c3
      go_wp2_with fail
      refine (isWithin_any D 1000000000 _ (by omega) (by omega)).mono ?_
      rintro e w4 ⟨rfl, rfl⟩
      cases hr : rng (-1000000000) 1000000000 D with
      | false =>
        have HK := hid (kbc_3 hr)
        go_wp2_with fail
        go_ret2
        exact ⟨D, ret_tup2 (by simp [HK.out, if0]) HK.out.symm, fun _ => ⟨HN0.out, F, HRV.out⟩, HU.out⟩
      | true =>
        have HK := hid (kbc_0 hr)
        have HA := hid (fun W => atC_any D Q [Q] W (by omega) (by omega) HPF.out)
        go_wp2_with fail
        refine (characterOf_any D _).mono ?_
        rintro e w5 ⟨rfl, hb5⟩
        go_wp2_with fail
        refine (HA.out _).mono ?_
        rintro e w6 ⟨rfl, hb6⟩
        go_wp2_with fail
        go_ret2
        exact ⟨D, ret_tup2 (by simp [HK.out, if0, chp]) HK.out.symm, fun _ => ⟨HN0.out, F, HRV.out⟩, gr_trans (gr_trans HU.out hb5) hb6⟩
    · have hk' : (k == 0) = false := by simpa using hk
      have HK := hid hk
      clear hk
      go_wp2_with fail
      go_ret2
      exact ⟨0, ret_tup2 (by simp [kbc_k HK.out, if0, HK.out]) (kbc_k HK.out).symm, fun h => absurd h HK.out, U1.out⟩

set_option maxRecDepth 100000 in
set_option maxHeartbeats 1000000 in
theorem sKb_any (a b c d q : Int) (w : World) : Calls Tryd.prog 23 #[.agg #[.int .i64 a, .int .i64 b, .int .i64 c, .int .i64 d], .int .i64 q] w (KbPost (gvc a b c d (prm q)) (dsc a b c d) q w) := by
  have HC := hid (fun W => l01Is_any a b c d W)
  have HI := hid (fun hF W => l05Irreducible_any a b c d W hF)
  have HP := hid (fun W => l05Prime_any q W)
  have HD := hid (fun W => sDisc0_any a b c d W)
  have HX : Hid (gvc a b c d (prm q) = 0 → prm q = true ∧ dsc a b c d ≠ 0 ∧ Fts (dsc a b c d) ∧ -100000000000000 ≤ dsc a b c d ∧ dsc a b c d ≤ 100000000000000) := hid fun h => by
    obtain ⟨hF, hp, hi⟩ := gvc_t h
    obtain ⟨e, h1, h2⟩ := dsc_b9 hF
    rw [e] at *
    exact ⟨hp, irb_dx hi, dx_fts _ _ _ _, by omega, by omega⟩
  have H1 := hid (fun h => (gvc_1 (a := a) (b := b) (c := c) (d := d) (r := prm q) h))
  have H2 := hid (fun h (h' : prm q = false) => (show gvc a b c d (prm q) = 2 by rw [h']; exact gvc_2 h))
  have H5 := hid (fun h (h' : prm q = true) hi => (show gvc a b c d (prm q) = 5 by rw [h']; exact gvc_5 h hi))
  have H0 := hid (fun h (h' : prm q = true) hi => (show gvc a b c d (prm q) = 0 by rw [h']; exact gvc_0 h hi))
  generalize gvc a b c d (prm q) = k at HX H1 H2 H5 H0 ⊢
  generalize dsc a b c d = n at HD HX ⊢
  generalize irb a b c d = ib at HI H5 H0
  generalize hpq : prm q = pq at HP HX H2 H5 H0
  have HPQ := hid hpq
  clear hpq
  have A0 := Arr.new w a b c d 26
  have U0 := gr_alloc (Below.refl w.heap.size w) (.cells #[.int .i64 a, .int .i64 b, .int .i64 c, .int .i64 d] 26)
  have bad : ∀ (w' : World) (m : Int), k = m → ¬ m = 0 → Below w.heap.size w w' → KbPost k n q w (.returned (.tuple #[.int .i64 0, .int .i64 m])) w' := fun w' m e h hb => by
    subst e
    exact ⟨0, ret_tup2 (by simp [kbc_k h, if0, h]) (kbc_k h).symm, fun h' => absurd h' h, hb⟩
  have HBad := hid bad
  clear bad
  go_enter Tryd.func23, Tryd.ntmps23
  go_wp2_with fail
  refine (HC.out _).mono ?_
  rintro e w1 ⟨rfl, hb1⟩
  have A1 := A0.next hb1
  have U1 := gr_trans U0 hb1
  clear A0 U0
  cases hF : isF a b c d with
  | false =>
    have HE := hid (H1.out hF)
    go_wp2_with fail
    go_ret2
    exact HBad.out _ _ HE.out (by omega) U1
  | true =>
    cases pq with
    | false =>
      have HE := hid (H2.out hF rfl)
      go_wp2_with fail
      refine (HP.out _).mono ?_
      rintro e w2 ⟨rfl, rfl⟩
      go_wp2_with fail
      go_ret2
      exact HBad.out _ _ HE.out (by omega) U1
    | true =>
      have HI1 := hid (HI.out hF)
      have HF := hid hF
      clear hF
      obtain ⟨_, c0, c1, c2, c3, _⟩ := id A1
      cases ib with
      | false =>
        have HE := hid (H5.out HF.out rfl rfl)
        go_wp2_with fail
        refine (HP.out _).mono ?_
        rintro e w2 ⟨rfl, rfl⟩
        go_wp2_with fail
        refine (HI1.out _).mono ?_
        rintro e w2 ⟨rfl, hb2⟩
        go_wp2_with fail
        go_ret2
        exact HBad.out _ _ HE.out (by omega) (gr_trans U1 hb2)
      | true =>
        have hk := H0.out HF.out rfl rfl
        obtain ⟨_, hn0, hft, hn1, hn2⟩ := HX.out hk
        have HR := hid (fun W => l09Resolvent_any n W hn0 hft ⟨hn1, hn2⟩)
        have HN0 := hid hn0
        have hprm : prm q = true := HPQ.out
        obtain ⟨hq2, hq97⟩ := prm_rng hprm
        obtain ⟨Q, rfl⟩ : ∃ Q : Nat, q = Q := ⟨q.toNat, by omega⟩
        subst hk
        clear hn0 hft hprm HX HPQ H1 H2 H5 H0 HBad
        go_wp2_with fail
        refine (HP.out _).mono ?_
        rintro e w2 ⟨rfl, rfl⟩
        go_wp2_with fail
        refine (HI1.out _).mono ?_
        rintro e w2 ⟨rfl, hb2⟩
        have A2 := A1.next hb2
        have U2 := gr_trans U1 hb2
        clear c0 c1 c2 c3 A1 U1
        obtain ⟨_, c0, c1, c2, c3, _⟩ := id A2
        go_wp2_with fail
        refine (HD.out _).mono ?_
        rintro e w3 ⟨rfl, hb3⟩
        have U3 := gr_trans U2 hb3
        clear c0 c1 c2 c3 A2 U2
        go_wp2_with fail
        refine (HR.out _).mono ?_
        rintro e w4 ⟨D, F, rfl, hRv, hb4⟩
        have HRV := hid hRv
        have U4 := gr_trans U3 hb4
        clear hRv U3
        go_wp2_with fail
        refine (l01In_any D (-1000000000) 1000000000 _).mono ?_
        rintro e w5 ⟨rfl, rfl⟩
        cases hr : rng (-1000000000) 1000000000 D with
        | false =>
          have HK := hid (kbc_3 hr)
          go_wp2_with fail
          go_ret2
          exact ⟨D, ret_tup2 (by simp [HK.out, if0]) HK.out.symm, fun _ => ⟨HN0.out, F, HRV.out⟩, U4⟩
        | true =>
          have HK := hid (kbc_0 hr)
          go_wp2_with fail
          refine (l09At_any D Q _ (by omega) (by omega)).mono ?_
          rintro e w6 ⟨rfl, hb6⟩
          go_wp2_with fail
          go_ret2
          exact ⟨D, ret_tup2 (by simp [HK.out, if0]) HK.out.symm, fun _ => ⟨HN0.out, F, HRV.out⟩, gr_trans U4 hb6⟩


end Go.Proofs.YtmhlolimaeejfaaDoor
