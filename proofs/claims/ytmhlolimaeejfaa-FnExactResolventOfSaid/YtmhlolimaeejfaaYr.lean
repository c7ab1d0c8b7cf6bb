/- Chapter 9: ResolventOf, the program's and the model's. -/
import Derived.Test.YtmhlolimaeejfaaYp
import Derived.Test.YtmhlolimaeejfaaC1
namespace Go.Proofs.Ytmhlolimaeejfaa
open Go.RowKit

/-- The code of ResolventOf. -/
def rsc (n : Int) : Int := if n = 0 then 2 else if rng (-1000000000000) 1000000000000 n = true then (if ftb n = true then 0 else 2) else 2
theorem rsc_z {n : Int} (h : n = 0) : rsc n = 2 := by simp [rsc, h]
theorem rsc_1 {n : Int} (h0 : ¬ n = 0) (h : rng (-1000000000000) 1000000000000 n = false) : rsc n = 2 := by simp [rsc, h0, h]
theorem rsc_2 {n : Int} (h0 : ¬ n = 0) (h : rng (-1000000000000) 1000000000000 n = true) (h' : ftb n = false) : rsc n = 2 := by simp [rsc, h0, h, h']
theorem rsc_0 {n : Int} (h0 : ¬ n = 0) (h : rng (-1000000000000) 1000000000000 n = true) (h' : ftb n = true) : rsc n = 0 := by simp [rsc, h0, h, h']
/-- The answer of ResolventOf. -/
def RsP (n d : Int) (f : Nat) : Prop := (rsc n = 0 → n ≠ 0 ∧ Rv n d f ∧ ∀ q, 2 ≤ q → Um d q) ∧ (¬ rsc n = 0 → d = 0 ∧ f = 0)
theorem RsP.one {n d d' : Int} {f f' : Nat} (h : RsP n d f) (h' : RsP n d' f') : d = d' ∧ f = f' := by
  by_cases e : rsc n = 0
  · obtain ⟨h0, h1, h2⟩ := h.1 e
    obtain ⟨_, h3, h4⟩ := h'.1 e
    exact res_one h0 h1.eq h3.eq h1.ft h3.ft h2 h4
  · obtain ⟨rfl, rfl⟩ := h.2 e
    obtain ⟨rfl, rfl⟩ := h'.2 e
    exact ⟨rfl, rfl⟩
theorem RsP.bad {n : Int} (h : rsc n = 2) : RsP n 0 0 := ⟨fun e => (by omega), fun _ => ⟨rfl, rfl⟩⟩
theorem RsP.good {n d : Int} {f : Nat} (h0 : ¬ n = 0) (h : rsc n = 0) (hr : Rv n d f ∧ ∀ q, 2 ≤ q → Um d q) : RsP n d f := ⟨fun _ => ⟨h0, hr⟩, fun e => absurd h e⟩
def RsPost (n : Int) (w : World) (e : Ending) (w' : World) : Prop := ∃ (d : Int) (f : Nat), e = .returned (.tuple #[.int .i64 d, .int .i64 ((f : Int)), .int .i64 (rsc n)]) ∧ RsP n d f ∧ Below w.heap.size w w'
theorem rs_bad {n : Int} {w w' : World} (h : rsc n = 2) (hb : Below w.heap.size w w') : RsPost n w (.returned (.tuple #[.int .i64 0, .int .i64 0, .int .i64 2])) w' := ⟨0, 0, by rw [h]; rfl, RsP.bad h, hb⟩

set_option maxRecDepth 100000 in
set_option maxHeartbeats 1000000 in
theorem iRes_any (n : Int) (w : World) : Calls Try.prog 56 #[.int .i64 n] w (RsPost n w) := by
  have HW := hid (fun W => isWithin_any n 1000000000000 W (by omega) (by omega))
  have HF := hid (fun W => iFits_any n W)
  by_cases h0 : n = 0
  · have HK := hid (rsc_z h0)
    have h0' : (n == 0) = true := by simpa using h0
    clear h0
    go_enter Try.func56, Try.ntmps56
    go_wp2_with fail
    go_ret3
    exact rs_bad HK.out (Below.refl _ _)
  · have h0' : (n == 0) = false := by simpa using h0
    have H0 := hid h0
    clear h0
    cases hr : rng (-1000000000000) 1000000000000 n with
    | false =>
      have HK := hid (rsc_1 H0.out hr)
      go_enter Try.func56, Try.ntmps56
      go_wp2_with fail
      refine (HW.out _).mono ?_
      rintro e w1 ⟨rfl, rfl⟩
      go_wp2_with fail
      go_ret3
      exact rs_bad HK.out (Below.refl _ _)
    | true =>
      cases hf : ftb n with
      | false =>
        have HK := hid (rsc_2 H0.out hr hf)
        go_enter Try.func56, Try.ntmps56
        go_wp2_with fail
        refine (HW.out _).mono ?_
        rintro e w1 ⟨rfl, rfl⟩
        go_wp2_with fail
        refine (HF.out _).mono ?_
        rintro e w1 ⟨rfl, rfl⟩
        go_wp2_with fail
        go_ret3
        exact rs_bad HK.out (Below.refl _ _)
      | true =>
        have HK := hid (rsc_0 H0.out hr hf)
        obtain ⟨hb1, hb2⟩ := rng_t hr
        have HR := hid (fun W => resolventOf_any n W H0.out (ftb_fts.1 hf) ⟨by omega, by omega⟩)
        go_enter Try.func56, Try.ntmps56
        go_wp2_with fail
        refine (HW.out _).mono ?_
        rintro e w1 ⟨rfl, rfl⟩
        go_wp2_with fail
        refine (HF.out _).mono ?_
        rintro e w1 ⟨rfl, rfl⟩
        go_wp2_with fail
        refine (HR.out _).mono ?_
        rintro e w2 ⟨d, f, rfl, hd, hb2⟩
        have HD := hid hd
        have hB := Bx.new w2 #[.int .i64 d, .int .i64 ((f : Int))] 99
        have c0 : (w2.alloc (.cells #[.int .i64 d, .int .i64 ((f : Int))] 99)).cell? ⟨w2.heap.size, 0, none⟩ = some (.int .i64 d) := hB.cell 0
        have c1 : (w2.alloc (.cells #[.int .i64 d, .int .i64 ((f : Int))] 99)).cell? ⟨w2.heap.size, 1, none⟩ = some (.int .i64 ((f : Int))) := hB.cell 1
        have HU := hid (gr_alloc hb2 (.cells #[.int .i64 d, .int .i64 ((f : Int))] 99))
        clear hd hB hb2
        go_wp2_with fail
        go_quiet (fail)
        go_wp2_with fail
        go_ret3
        exact ⟨d, f, by rw [HK.out]; rfl, RsP.good H0.out HK.out HD.out, gr_drewN HU.out _⟩

set_option maxRecDepth 100000 in
set_option maxHeartbeats 1000000 in
theorem sRes_any (n : Int) (w : World) : Calls Try.prog 55 #[.int .i64 n] w (RsPost n w) := by
  have HW := hid (fun W => l01In_any n (-1000000000000) 1000000000000 W)
  have HF := hid (fun W => sFits9_any n W)
  by_cases h0 : n = 0
  · have HK := hid (rsc_z h0)
    have h0' : (n == 0) = true := by simpa using h0
    clear h0
    go_enter Try.func55, Try.ntmps55
    go_wp2_with fail
    go_ret3
    exact rs_bad HK.out (Below.refl _ _)
  · have h0' : (n == 0) = false := by simpa using h0
    have H0 := hid h0
    clear h0
    cases hr : rng (-1000000000000) 1000000000000 n with
    | false =>
      have HK := hid (rsc_1 H0.out hr)
      go_enter Try.func55, Try.ntmps55
      go_wp2_with fail
      refine (HW.out _).mono ?_
      rintro e w1 ⟨rfl, rfl⟩
      go_wp2_with fail
      go_ret3
      exact rs_bad HK.out (Below.refl _ _)
    | true =>
      cases hf : ftb n with
      | false =>
        have HK := hid (rsc_2 H0.out hr hf)
        go_enter Try.func55, Try.ntmps55
        go_wp2_with fail
        refine (HW.out _).mono ?_
        rintro e w1 ⟨rfl, rfl⟩
        go_wp2_with fail
        refine (HF.out _).mono ?_
        rintro e w1 ⟨rfl, rfl⟩
        go_wp2_with fail
        go_ret3
        exact rs_bad HK.out (Below.refl _ _)
      | true =>
        have HK := hid (rsc_0 H0.out hr hf)
        obtain ⟨hb1, hb2⟩ := rng_t hr
        have HR := hid (fun W => l09Resolvent_any n W H0.out (ftb_fts.1 hf) ⟨by omega, by omega⟩)
        go_enter Try.func55, Try.ntmps55
        go_wp2_with fail
        refine (HW.out _).mono ?_
        rintro e w1 ⟨rfl, rfl⟩
        go_wp2_with fail
        refine (HF.out _).mono ?_
        rintro e w1 ⟨rfl, rfl⟩
        go_wp2_with fail
        refine (HR.out _).mono ?_
        rintro e w2 ⟨d, f, rfl, hd, hb2⟩
        have HD := hid hd
        clear hd
        go_wp2_with fail
        go_ret3
        exact ⟨d, f, by rw [HK.out]; rfl, RsP.good H0.out HK.out HD.out, hb2⟩


end Go.Proofs.Ytmhlolimaeejfaa
