/- Chapter 9: CharacterAt, the program's and the model's. -/
import Derived.Test.YtmhlolimaeejfaaYt
import Derived.Test.YtmhlolimaeejfaaYfb
namespace Go.Proofs.Ytmhlolimaeejfaa
open Go.RowKit

/-- The code of CharacterAt. -/
def cac (d n : Int) : Int := if rng (-1000000000) 1000000000 d = true then (if ftb d = true then (if rng 1 1000000 n = true then 0 else 2) else 2) else 2
theorem cac_1 {d n : Int} (h : rng (-1000000000) 1000000000 d = false) : cac d n = 2 := by simp [cac, h]
theorem cac_2 {d n : Int} (h : ftb d = false) : cac d n = 2 := by simp [cac, h]
theorem cac_3 {d n : Int} (h : rng 1 1000000 n = false) : cac d n = 2 := by simp [cac, h]
theorem cac_0 {d n : Int} (h : rng (-1000000000) 1000000000 d = true) (h' : ftb d = true) (h'' : rng 1 1000000 n = true) : cac d n = 0 := by simp [cac, h, h', h'']

set_option maxRecDepth 100000 in
set_option maxHeartbeats 1000000 in
theorem iCharAt_any (d n : Int) (L : List Nat) (hL : 1 ≤ n → Pf n.toNat L) (w : World) : Calls Try.prog 58 #[.int .i64 d, .int .i64 n] w fun e w' => e = .returned (.tuple #[.int .i64 (if0 (cac d n) (chp (chq d) L)), .int .i64 (cac d n)]) ∧ Below w.heap.size w w' := by
  have HW := hid (fun W => isWithin_any d 1000000000 W (by omega) (by omega))
  have HF := hid (fun W => iFits_any d W)
  have H1 := hid (@cac_1 d n); have H2 := hid (@cac_2 d n); have H3 := hid (@cac_3 d n); have H0 := hid (@cac_0 d n)
  generalize cac d n = k at H1 H2 H3 H0 ⊢
  generalize ftb d = b at HF H2 H0
  cases hr : rng (-1000000000) 1000000000 d with
  | false =>
    have HK := hid (H1.out hr)
    clear H1 H2 H3 H0
    go_enter Try.func58, Try.ntmps58
    go_wp2_with fail
    refine (HW.out _).mono ?_
    rintro e w1 ⟨rfl, rfl⟩
    go_wp2_with fail
    go_ret2
    exact ⟨ret_tup2 (by simp [HK.out, if0]) HK.out.symm, Below.refl _ _⟩
  | true =>
    cases b with
    | false =>
      have HK := hid (H2.out rfl)
      clear H1 H2 H3 H0
      go_enter Try.func58, Try.ntmps58
      go_wp2_with fail
      refine (HW.out _).mono ?_
      rintro e w1 ⟨rfl, rfl⟩
      go_wp2_with fail
      refine (HF.out _).mono ?_
      rintro e w1 ⟨rfl, rfl⟩
      go_wp2_with fail
      go_ret2
      exact ⟨ret_tup2 (by simp [HK.out, if0]) HK.out.symm, Below.refl _ _⟩
    | true =>
      by_cases h1 : n < 1
      · have HK := hid (H3.out (by simp [rng]; omega))
        clear H1 H2 H3 H0
        go_enter Try.func58, Try.ntmps58
        go_wp2_with fail
        refine (HW.out _).mono ?_
        rintro e w1 ⟨rfl, rfl⟩
        go_wp2_with fail
        refine (HF.out _).mono ?_
        rintro e w1 ⟨rfl, rfl⟩
        go_wp2_with fail
        go_ret2
        exact ⟨ret_tup2 (by simp [HK.out, if0]) HK.out.symm, Below.refl _ _⟩
      · by_cases h6 : 1000000 < n
        · have HK := hid (H3.out (by simp [rng]; omega))
          clear H1 H2 H3 H0
          go_enter Try.func58, Try.ntmps58
          go_wp2_with fail
          refine (HW.out _).mono ?_
          rintro e w1 ⟨rfl, rfl⟩
          go_wp2_with fail
          refine (HF.out _).mono ?_
          rintro e w1 ⟨rfl, rfl⟩
          go_wp2_with fail
          go_ret2
          exact ⟨ret_tup2 (by simp [HK.out, if0]) HK.out.symm, Below.refl _ _⟩
        · have HK := hid (H0.out hr rfl (by simp [rng]; omega))
          clear H1 H2 H3 H0
          obtain ⟨N, rfl⟩ : ∃ N : Nat, n = N := ⟨n.toNat, by omega⟩
          have HA := hid (fun W => atC_any d N L W (by omega) (by omega) (hL (by omega)))
          clear hL
          go_enter Try.func58, Try.ntmps58
          go_wp2_with fail
          refine (HW.out _).mono ?_
          rintro e w1 ⟨rfl, rfl⟩
          go_wp2_with fail
          refine (HF.out _).mono ?_
          rintro e w1 ⟨rfl, rfl⟩
          go_wp2_with fail
          refine (characterOf_any d _).mono ?_
          rintro e w2 ⟨rfl, hb2⟩
          go_wp2_with fail
          refine (HA.out _).mono ?_
          rintro e w3 ⟨rfl, hb3⟩
          go_wp2_with fail
          go_ret2
          exact ⟨ret_tup2 (by simp [HK.out, if0]) HK.out.symm, gr_trans hb2 hb3⟩

set_option maxRecDepth 100000 in
set_option maxHeartbeats 1000000 in
theorem sCharAt_any (d n : Int) (L : List Nat) (hL : 1 ≤ n → Pf n.toNat L) (w : World) : Calls Try.prog 57 #[.int .i64 d, .int .i64 n] w fun e w' => e = .returned (.tuple #[.int .i64 (if0 (cac d n) (chp (chq d) L)), .int .i64 (cac d n)]) ∧ Below w.heap.size w w' := by
  have HW := hid (fun lo hi x W => l01In_any x lo hi W)
  have HF := hid (fun W => sFits9_any d W)
  have H1 := hid (@cac_1 d n); have H2 := hid (@cac_2 d n); have H3 := hid (@cac_3 d n); have H0 := hid (@cac_0 d n)
  generalize cac d n = k at H1 H2 H3 H0 ⊢
  generalize ftb d = b at HF H2 H0
  cases hr : rng (-1000000000) 1000000000 d with
  | false =>
    have HK := hid (H1.out hr)
    clear H1 H2 H3 H0
    go_enter Try.func57, Try.ntmps57
    go_wp2_with fail
    refine (HW.out _ _ _ _).mono ?_
    rintro e w1 ⟨rfl, rfl⟩
    go_wp2_with fail
    go_ret2
    exact ⟨ret_tup2 (by simp [HK.out, if0]) HK.out.symm, Below.refl _ _⟩
  | true =>
    cases b with
    | false =>
      have HK := hid (H2.out rfl)
      clear H1 H2 H3 H0
      go_enter Try.func57, Try.ntmps57
      go_wp2_with fail
      refine (HW.out _ _ _ _).mono ?_
      rintro e w1 ⟨rfl, rfl⟩
      go_wp2_with fail
      refine (HF.out _).mono ?_
      rintro e w1 ⟨rfl, rfl⟩
      go_wp2_with fail
      go_ret2
      exact ⟨ret_tup2 (by simp [HK.out, if0]) HK.out.symm, Below.refl _ _⟩
    | true =>
      cases hn : rng 1 1000000 n with
      | false =>
        have HK := hid (H3.out hn)
        clear H1 H2 H3 H0
        go_enter Try.func57, Try.ntmps57
        go_wp2_with fail
        refine (HW.out _ _ _ _).mono ?_
        rintro e w1 ⟨rfl, rfl⟩
        go_wp2_with fail
        refine (HF.out _).mono ?_
        rintro e w1 ⟨rfl, rfl⟩
        go_wp2_with fail
        refine (HW.out _ _ _ _).mono ?_
        rintro e w1 ⟨rfl, rfl⟩
        go_wp2_with fail
        go_ret2
        exact ⟨ret_tup2 (by simp [HK.out, if0]) HK.out.symm, Below.refl _ _⟩
      | true =>
        have HK := hid (H0.out hr rfl hn)
        obtain ⟨h1, h6⟩ := rng_t hn
        clear H1 H2 H3 H0
        obtain ⟨N, rfl⟩ : ∃ N : Nat, n = N := ⟨n.toNat, by omega⟩
        have HA := hid (fun W => l09Character_any d N L W (by omega) (by omega) (hL (by omega)))
        clear hL
        go_enter Try.func57, Try.ntmps57
        go_wp2_with fail
        refine (HW.out _ _ _ _).mono ?_
        rintro e w1 ⟨rfl, rfl⟩
        go_wp2_with fail
        refine (HF.out _).mono ?_
        rintro e w1 ⟨rfl, rfl⟩
        go_wp2_with fail
        refine (HW.out _ _ _ _).mono ?_
        rintro e w1 ⟨rfl, rfl⟩
        go_wp2_with fail
        refine (HA.out _).mono ?_
        rintro e w3 ⟨rfl, hb3⟩
        go_wp2_with fail
        go_ret2
        exact ⟨ret_tup2 (by simp [HK.out, if0]) HK.out.symm, hb3⟩


end Go.Proofs.Ytmhlolimaeejfaa
