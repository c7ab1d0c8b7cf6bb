/- Chapter 2: NormalForm, AreEquivalent: program and model. -/
import Derived.Test.YtikmjefbjejbkaaBbPo
import Derived.Test.YtikmjefbjejbkaaBbZ10
import Derived.Test.YtikmjefbjejbkaaBbZ11
namespace Go.Proofs.Ytikmjefbjejbkaa
open Go.RowKit

/-- What is known of the reduction of a form. -/
def Cls (a b c d : Int) (p : Red.F4 × Red.F4 × Int × Int) : Prop :=
  Rd.Sg p.2.2.1 ∧ Rd.Sg p.2.2.2 ∧ Red.rdF (decide (0 < dsc a b c d)) p.1 = true ∧ Red.Bd p.1 ∧ Red.UB p.1 ∧ Rd.dscF p.1 = Red.dsc a b c d ∧
    (∀ w, Calls Try.prog 114 #[.agg #[.int .i64 a, .int .i64 b, .int .i64 c, .int .i64 d]] w fun e w' => e = .returned (.tuple #[vF p.1, vF p.2.1]) ∧ Below w.heap.size w w') ∧
    (∀ w, Calls Try.prog 70 #[.agg #[.int .i64 a, .int .i64 b, .int .i64 c, .int .i64 d]] w fun e w' => e = .returned (.tuple #[vF (Rd.fl p.2.2.1 p.2.2.2 p.1), vF (Rd.wf p.2.2.1 p.2.2.2 p.2.1)]) ∧ Below w.heap.size w w')
/-- The steps that lead there. -/
def ClsR (a b c d : Int) (p : Red.F4 × Red.F4 × Int × Int) : Prop := ∃ n, Rd.run (decide (0 < dsc a b c d)) n (a, b, c, d) (1, 0, 0, 1) = (p.1, p.2.1)
noncomputable def cls (a b c d : Int) : Red.F4 × Red.F4 × Int × Int := Classical.epsilon fun p => Cls a b c d p ∧ ClsR a b c d p
theorem cls_both {a b c d : Int} (h : rcd a b c d = 0) : Cls a b c d (cls a b c d) ∧ ClsR a b c d (cls a b c d) := by
  obtain ⟨_, hr, hd⟩ := rcd_0 h
  obtain ⟨T, M, α, β, h1, h2, h3, h4, h5, h6, h7, h8, h9⟩ := reduces a b c d hr hd
  exact Classical.epsilon_spec (p := fun p => Cls a b c d p ∧ ClsR a b c d p) ⟨(T, M, α, β), ⟨h1, h2, h3, h4, h5, h6, h7, h8⟩, h9⟩
theorem cls_spec {a b c d : Int} (h : rcd a b c d = 0) : Cls a b c d (cls a b c d) := (cls_both h).1
/-- The normal form. -/
noncomputable def nfm (a b c d : Int) : Red.F4 := Rd.nrm (decide (0 < dsc a b c d)) (cls a b c d).1
/-- The ways to it. -/
noncomputable def nwy (a b c d : Int) : List Red.F4 := Rd.wys (cls a b c d).1 (cls a b c d).2.1 (Rd.uni 81) (nfm a b c d)
theorem iWN_any (a b c d : Int) (h : rcd a b c d = 0) (w : World) :
    Calls Try.prog 53 #[.agg #[.int .i64 a, .int .i64 b, .int .i64 c, .int .i64 d]] w fun e w' => ∃ v, e = .returned (.tuple #[vF (nfm a b c d), v]) ∧ RowM w.heap.size w' v (nwy a b c d) ∧ Below w.heap.size w w' := by
  obtain ⟨h1, h2, h3, h4, h5, h6, h7, h8⟩ := cls_spec h
  refine iNormal_any a b c d (decide (0 < dsc a b c d)) (cls a b c d).1 (cls a b c d).2.1 h4 h5 h3 ?_ h7 w
  unfold sg
  (repeat' split) <;> simp <;> omega
theorem cls_sign {a b c d : Int} (h : rcd a b c d = 0) {α β : Int} (hα : Rd.Sg α) (hβ : Rd.Sg β) (u : Red.F4) (hd : Rd.dt u * Rd.dt u = 1) :
    decide (0 < dsc (Rd.ch (Rd.fl α β (cls a b c d).1) u).1 (Rd.ch (Rd.fl α β (cls a b c d).1) u).2.1 (Rd.ch (Rd.fl α β (cls a b c d).1) u).2.2.1 (Rd.ch (Rd.fl α β (cls a b c d).1) u).2.2.2) = decide (0 < dsc a b c d) := by
  obtain ⟨_, hr, _⟩ := rcd_0 h
  obtain ⟨_, _, _, _, _, h6, _, _⟩ := cls_spec h
  congr 2
  rw [dsc_wrR, dsc_wrR a b c d]
  have e : Red.dsc (Rd.ch (Rd.fl α β (cls a b c d).1) u).1 (Rd.ch (Rd.fl α β (cls a b c d).1) u).2.1 (Rd.ch (Rd.fl α β (cls a b c d).1) u).2.2.1 (Rd.ch (Rd.fl α β (cls a b c d).1) u).2.2.2 = Red.dsc a b c d := by
    have h9 := Rd.dscF_ch (Rd.fl α β (cls a b c d).1) u hd
    have h10 : Rd.dscF (Rd.fl α β (cls a b c d).1) = Rd.dscF (cls a b c d).1 := Rd.dsc_fl hα hβ _ _ _ _
    rw [h10, h6] at h9
    exact h9
  rw [e]
theorem cls_first {a b c d : Int} (h : rcd a b c d = 0) : ∀ xs, Rd.Got (decide (0 < dsc a b c d)) (Rd.fl (cls a b c d).2.2.1 (cls a b c d).2.2.2 (cls a b c d).1) (Rd.uni 81) xs → xs[0]? = some (nfm a b c d) := by
  obtain ⟨h1, h2, h3, _⟩ := cls_spec h
  exact fun xs hx => Rd.got_nrm (Rd.got_fl h1 h2 hx) h3
theorem sNf_any (a b c d : Int) (h : rcd a b c d = 0) (w : World) :
    Calls Try.prog 63 #[.agg #[.int .i64 a, .int .i64 b, .int .i64 c, .int .i64 d]] w fun e w' => e = .returned (vF (nfm a b c d)) ∧ Below w.heap.size w w' := by
  obtain ⟨h1, h2, h3, h4, h5, h6, h7, h8⟩ := cls_spec h
  exact sNormal_any a b c d (decide (0 < dsc a b c d)) _ _ _ (Rd.ub_fl h1 h2 h5) (fun u _ hd => cls_sign h h1 h2 u hd) (cls_first h) h8 w
/-- The code of NormalForm, and its numbers. -/
noncomputable def nfc (a b c d : Int) : Int := if rcd a b c d = 0 then (if isF (nfm a b c d).1 (nfm a b c d).2.1 (nfm a b c d).2.2.1 (nfm a b c d).2.2.2 then 0 else 3) else rcd a b c d
noncomputable def nfv (a b c d : Int) (f : Red.F4 → Int) : Int := if nfc a b c d = 0 then f (nfm a b c d) else 0
def NfOut (a b c d : Int) (w : World) (e : Ending) (w' : World) : Prop := e = .returned (.tuple #[.agg #[.int .i64 (nfv a b c d (·.1)), .int .i64 (nfv a b c d (·.2.1)), .int .i64 (nfv a b c d (·.2.2.1)), .int .i64 (nfv a b c d (·.2.2.2))], .int .i64 (nfc a b c d)]) ∧ Below w.heap.size w w'
set_option maxRecDepth 100000 in
set_option maxHeartbeats 2000000 in
theorem iNormalForm_any (a b c d : Int) (w : World) : Calls Try.prog 21 #[.agg #[.int .i64 a, .int .i64 b, .int .i64 c, .int .i64 d]] w (NfOut a b c d w) := by
  have A0 := ((Arr.new w a b c d 26).alloc (.cells #[.int .i64 0, .int .i64 0, .int .i64 0, .int .i64 0] 26)).alloc (.cells #[.int .i64 a, .int .i64 b, .int .i64 c, .int .i64 d] 26)
  have R0 := (Arr.new (w.alloc (.cells #[.int .i64 a, .int .i64 b, .int .i64 c, .int .i64 d] 26)) 0 0 0 0 26).alloc (.cells #[.int .i64 a, .int .i64 b, .int .i64 c, .int .i64 d] 26)
  have B0 := Arr.new ((w.alloc (.cells #[.int .i64 a, .int .i64 b, .int .i64 c, .int .i64 d] 26)).alloc (.cells #[.int .i64 0, .int .i64 0, .int .i64 0, .int .i64 0] 26)) a b c d 26
  have U0 := gr_alloc (gr_alloc (gr_alloc (Below.refl w.heap.size w) (.cells #[.int .i64 a, .int .i64 b, .int .i64 c, .int .i64 d] 26)) (.cells #[.int .i64 0, .int .i64 0, .int .i64 0, .int .i64 0] 26)) (.cells #[.int .i64 a, .int .i64 b, .int .i64 c, .int .i64 d] 26)
  simp only [World.size_alloc] at B0 R0
  go_enter Try.func21, Try.ntmps21
  go_wp2_with fail
  refine (iCheck1_any _ a b c d _ B0).mono ?_
  rintro e w1 ⟨rfl, hb1⟩
  have A1 := A0.next hb1; have R1 := R0.next hb1; have U1 := gr_trans U0 hb1
  clear A0 R0 B0 U0 hb1
  unfold NfOut
  by_cases hk : rcd a b c d = 0
  · have HW := hid (fun W => iWN_any a b c d hk W)
    have HC : Hid (nfc a b c d = if isF (nfm a b c d).1 (nfm a b c d).2.1 (nfm a b c d).2.2.1 (nfm a b c d).2.2.2 then 0 else 3) := hid (by unfold nfc; rw [if_pos hk])
    have HV : Hid (∀ f, nfv a b c d f = if nfc a b c d = 0 then f (nfm a b c d) else 0) := hid (fun f => rfl)
    rw [hk]
    clear hk
    obtain ⟨_, a0, a1, a2, a3, _⟩ := id A1
    go_wp2_with fail
    refine (HW.out _).mono ?_
    rintro e w2 ⟨v, rfl, hrow, hb2⟩
    obtain ⟨va, vc, rfl⟩ := hrow.val
    have R2 := R1.next hb2; have U2 := gr_trans U1 hb2
    clear a0 a1 a2 a3 A1 R1 U1 hb2 hrow HW
    generalize (nwy a b c d).length = vl
    generalize nfm a b c d = N at HC HV ⊢
    obtain ⟨n0, n1, n2, n3⟩ := N
    unfold vF
    dsimp only at HC HV ⊢
    go_wp2_with fail
    refine (iLimit_any n0 n1 n2 n3 _).mono ?_
    rintro e w3 ⟨rfl, hb3⟩
    have R3 := (R2.alloc (.cells #[.int .i64 n0, .int .i64 n1, .int .i64 n2, .int .i64 n3] 26)).next hb3; have U3 := gr_trans (gr_alloc U2 (.cells #[.int .i64 n0, .int .i64 n1, .int .i64 n2, .int .i64 n3] 26)) hb3
    clear R2 U2 hb3
    obtain ⟨_, r0, r1, r2, r3, f0, f1, f2, f3⟩ := id R3
    go_wp2_with fail
    all_goals
      refine bodyPost_ret (res_A (e := 2) rfl Try.underlying26 (by kernel_rfl) rfl (Arr.store4 R3.box)) rfl ?_
      refine ⟨?_, by (repeat' (first | with_reducible exact Below.refl _ _ | with_reducible assumption | with_reducible refine gr_alloc ?_ _ | with_reducible refine gr_drew ?_ | with_reducible refine gr_drewN ?_ _ | with_reducible refine gr_trans ?_ (by assumption) | with_reducible refine gr_set ?_ ?_ _ | (simp; done) | omega | (simp; omega)))⟩
      rw [HV.out, HV.out, HV.out, HV.out, HC.out]
      simp_all [ifF]
  · have HK := hid hk
    have hk' : (rcd a b c d == 0) = false := by simpa using hk
    have HC : Hid (nfc a b c d = rcd a b c d) := hid (by unfold nfc; rw [if_neg hk])
    have HV : Hid (∀ f, nfv a b c d f = 0) := hid (fun f => by unfold nfv; rw [HC.out, if_neg hk])
    clear hk
    obtain ⟨_, r0, r1, r2, r3, f0, f1, f2, f3⟩ := id R1
    go_wp2_with fail
    refine bodyPost_ret (res_A (e := 2) rfl Try.underlying26 (by kernel_rfl) rfl (Arr.store4 R1.box)) rfl ?_
    refine ⟨?_, by (repeat' (first | with_reducible exact Below.refl _ _ | with_reducible assumption | with_reducible refine gr_alloc ?_ _ | with_reducible refine gr_drew ?_ | with_reducible refine gr_drewN ?_ _ | with_reducible refine gr_trans ?_ (by assumption) | with_reducible refine gr_set ?_ ?_ _ | (simp; done) | omega | (simp; omega)))⟩
    rw [HV.out, HV.out, HV.out, HV.out, HC.out]
    rfl
set_option maxRecDepth 100000 in
set_option maxHeartbeats 2000000 in
theorem sNormalForm_any (a b c d : Int) (w : World) : Calls Try.prog 22 #[.agg #[.int .i64 a, .int .i64 b, .int .i64 c, .int .i64 d]] w (NfOut a b c d w) := by
  have A0 := ((Arr.new w a b c d 26).alloc (.cells #[.int .i64 0, .int .i64 0, .int .i64 0, .int .i64 0] 26)).alloc (.cells #[.int .i64 a, .int .i64 b, .int .i64 c, .int .i64 d] 26)
  have R0 := (Arr.new (w.alloc (.cells #[.int .i64 a, .int .i64 b, .int .i64 c, .int .i64 d] 26)) 0 0 0 0 26).alloc (.cells #[.int .i64 a, .int .i64 b, .int .i64 c, .int .i64 d] 26)
  have B0 := Arr.new ((w.alloc (.cells #[.int .i64 a, .int .i64 b, .int .i64 c, .int .i64 d] 26)).alloc (.cells #[.int .i64 0, .int .i64 0, .int .i64 0, .int .i64 0] 26)) a b c d 26
  have U0 := gr_alloc (gr_alloc (gr_alloc (Below.refl w.heap.size w) (.cells #[.int .i64 a, .int .i64 b, .int .i64 c, .int .i64 d] 26)) (.cells #[.int .i64 0, .int .i64 0, .int .i64 0, .int .i64 0] 26)) (.cells #[.int .i64 a, .int .i64 b, .int .i64 c, .int .i64 d] 26)
  simp only [World.size_alloc] at B0 R0
  go_enter Try.func22, Try.ntmps22
  go_wp2_with fail
  refine (sCode1_any _ a b c d _ B0).mono ?_
  rintro e w1 ⟨rfl, hb1⟩
  have A1 := A0.next hb1; have R1 := R0.next hb1; have U1 := gr_trans U0 hb1
  clear A0 R0 B0 U0 hb1
  unfold NfOut
  by_cases hk : rcd a b c d = 0
  · have HW := hid (fun W => sNf_any a b c d hk W)
    have HC : Hid (nfc a b c d = if isF (nfm a b c d).1 (nfm a b c d).2.1 (nfm a b c d).2.2.1 (nfm a b c d).2.2.2 then 0 else 3) := hid (by unfold nfc; rw [if_pos hk])
    have HV : Hid (∀ f, nfv a b c d f = if nfc a b c d = 0 then f (nfm a b c d) else 0) := hid (fun f => rfl)
    rw [hk]
    clear hk
    obtain ⟨_, a0, a1, a2, a3, _⟩ := id A1
    go_wp2_with fail
    refine (HW.out _).mono ?_
    rintro e w2 ⟨rfl, hb2⟩
    have R2 := R1.next hb2; have U2 := gr_trans U1 hb2
    clear a0 a1 a2 a3 A1 R1 U1 hb2 HW
    generalize nfm a b c d = N at HC HV ⊢
    obtain ⟨n0, n1, n2, n3⟩ := N
    unfold vF
    dsimp only at HC HV ⊢
    go_wp2_with fail
    refine (sFits_any n0 n1 n2 n3 _).mono ?_
    rintro e w3 ⟨rfl, hb3⟩
    have N3 := (Arr.new w2 n0 n1 n2 n3 26).next hb3
    have R3 := (R2.alloc (.cells #[.int .i64 n0, .int .i64 n1, .int .i64 n2, .int .i64 n3] 26)).next hb3; have U3 := gr_trans (gr_alloc U2 (.cells #[.int .i64 n0, .int .i64 n1, .int .i64 n2, .int .i64 n3] 26)) hb3
    clear R2 U2 hb3
    obtain ⟨_, r0, r1, r2, r3, f0, f1, f2, f3⟩ := id R3
    obtain ⟨_, x0, x1, x2, x3, _⟩ := id N3
    cases hf : isF n0 n1 n2 n3
    all_goals
      go_wp2_with fail
      refine bodyPost_ret (res_A (e := 2) rfl Try.underlying26 (by kernel_rfl) rfl (Arr.store4 R3.box)) rfl ?_
      refine ⟨?_, by (repeat' (first | with_reducible exact Below.refl _ _ | with_reducible assumption | with_reducible refine gr_alloc ?_ _ | with_reducible refine gr_drew ?_ | with_reducible refine gr_drewN ?_ _ | with_reducible refine gr_trans ?_ (by assumption) | with_reducible refine gr_set ?_ ?_ _ | (simp; done) | omega | (simp; omega)))⟩
      rw [HV.out, HV.out, HV.out, HV.out, HC.out]
      simp_all
  · have HK := hid hk
    have hk' : (rcd a b c d == 0) = false := by simpa using hk
    have HC : Hid (nfc a b c d = rcd a b c d) := hid (by unfold nfc; rw [if_neg hk])
    have HV : Hid (∀ f, nfv a b c d f = 0) := hid (fun f => by unfold nfv; rw [HC.out, if_neg hk])
    clear hk
    obtain ⟨_, r0, r1, r2, r3, f0, f1, f2, f3⟩ := id R1
    go_wp2_with fail
    refine bodyPost_ret (res_A (e := 2) rfl Try.underlying26 (by kernel_rfl) rfl (Arr.store4 R1.box)) rfl ?_
    refine ⟨?_, by (repeat' (first | with_reducible exact Below.refl _ _ | with_reducible assumption | with_reducible refine gr_alloc ?_ _ | with_reducible refine gr_drew ?_ | with_reducible refine gr_drewN ?_ _ | with_reducible refine gr_trans ?_ (by assumption) | with_reducible refine gr_set ?_ ?_ _ | (simp; done) | omega | (simp; omega)))⟩
    rw [HV.out, HV.out, HV.out, HV.out, HC.out]
    rfl

end Go.Proofs.Ytikmjefbjejbkaa
