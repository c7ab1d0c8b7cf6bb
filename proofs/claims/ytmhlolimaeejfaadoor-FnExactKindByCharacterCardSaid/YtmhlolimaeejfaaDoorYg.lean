/- Chapter 9: resolvents of the model. -/
import Derived.Test.YtmhlolimaeejfaaDoorYc
import Derived.Test.YtmhlolimaeejfaaDoorYfb
namespace Go.Proofs.YtmhlolimaeejfaaDoor
open Go.RowKit

/-- n is d f f. -/
structure Rv (n d : Int) (f : Nat) : Prop where
  ne : d ≠ 0
  eq : n = d * f * f
  ft : Fts d
  pos : 1 ≤ f
theorem Rv.start {n : Int} (h : n ≠ 0) (hf : Fts n) : Rv n n 1 := ⟨h, by simp, hf, Nat.le_refl _⟩
theorem Rv.bd {n d : Int} {f : Nat} (h : Rv n d f) (hn : -100000000000000 ≤ n ∧ n ≤ 100000000000000) : (-100000000000000 ≤ d ∧ d ≤ 100000000000000) ∧ f ≤ 10000000 := by
  have hf := h.pos
  have e : n.natAbs = d.natAbs * (f * f) := by
    rw [h.eq, Int.natAbs_mul, Int.natAbs_mul, Int.natAbs_natCast, Nat.mul_assoc]
  have hd : 0 < d.natAbs := Int.natAbs_pos.2 h.ne
  have hff : 0 < f * f := Nat.mul_pos hf hf
  have h1 : d.natAbs ≤ n.natAbs := by rw [e]; exact Nat.le_mul_of_pos_right _ hff
  have h2 : f * f ≤ n.natAbs := by rw [e]; exact Nat.le_mul_of_pos_left _ hd
  refine ⟨by omega, ?_⟩
  rcases Nat.lt_or_ge 10000000 f with h3 | h3
  · have : 10000001 * 10000001 ≤ f * f := Nat.mul_le_mul h3 h3
    omega
  · exact h3
theorem Rv.odd {n d e : Int} {f q : Nat} (h : Rv n d f) (hq : q % 2 = 1) (hd : d = (q : Int) * q * e) : Rv n e (f * q) := by
  refine ⟨fun e0 => h.ne (by rw [hd, e0]; simp), ?_, fts_odd (x := (q : Int)) (by omega) (hd ▸ h.ft), Nat.mul_pos h.pos (by omega)⟩
  rw [h.eq, hd]; push_cast; grind
theorem Rv.by {n d e : Int} {f q : Nat} (h : Rv n d f) (hq : 1 ≤ q) (hd : d = (q : Int) * q * e) (he : Fts e) : Rv n e (f * q) := by
  refine ⟨fun e0 => h.ne (by rw [hd, e0]; simp), ?_, he, Nat.mul_pos h.pos hq⟩
  rw [h.eq, hd]; push_cast; grind
/-- No odd number below q has a square that divides d. -/
def Nsq (d : Int) (q : Nat) : Prop := ∀ j : Nat, 3 ≤ j → j % 2 = 1 → j < q → ¬ ((j : Int) * j ∣ d)
theorem Nsq.div {d e : Int} {q x : Nat} (h : Nsq d x) (hd : d = (q : Int) * q * e) : Nsq e x := fun j a b c hj => h j a b c (by rw [hd]; exact Int.dvd_trans hj (Int.dvd_mul_left _ _))
theorem Nsq.next {d : Int} {q : Nat} (h : Nsq d q) (hq : q % 2 = 1) (hz : ¬ ((q : Int) * q ∣ d)) : Nsq d (q + 2) := by
  intro j a b c
  by_cases e : j = q
  · subst e; exact hz
  · exact h j a b (by omega)
theorem Nsq.all {d : Int} {q : Nat} (h : Nsq d q) (hd : d ≠ 0) (hlt : (d.natAbs : Int) < (q : Int) * q) (j : Nat) (a : 3 ≤ j) (b : j % 2 = 1) : ¬ ((j : Int) * j ∣ d) := by
  by_cases hj : j < q
  · exact h j a b hj
  · intro hdv
    have h1 : ((j * j : Nat) : Int) ∣ d := by push_cast; exact hdv
    have h2 := Int.ofNat_dvd_left.1 h1
    have h3 := Nat.le_of_dvd (Int.natAbs_pos.2 hd) h2
    have h4 : q * q ≤ j * j := Nat.mul_le_mul (by omega) (by omega)
    have h5 : d.natAbs < q * q := by exact_mod_cast hlt
    omega
theorem tm_ex {d m : Int} (h : d.tmod m = 0) : d = m * d.tdiv m := by
  have := Int.mul_tdiv_add_tmod d m
  rw [h, Int.add_zero] at this
  exact this.symm
theorem tm_dv {d m : Int} (h : d.tmod m ≠ 0) : ¬ m ∣ d := fun hd => h (Int.tmod_eq_zero_of_dvd hd)
theorem tdiv_bd {d m B : Int} (h : -B ≤ d ∧ d ≤ B) : -B ≤ d.tdiv m ∧ d.tdiv m ≤ B := by
  have h1 := Int.natAbs_tdiv_le_natAbs d m
  omega

theorem sqr_bd7 {x B : Int} (h0 : 0 ≤ x) (h : x ≤ B) : 0 ≤ x * x ∧ x * x ≤ B * B := ⟨Int.mul_nonneg h0 h0, Int.mul_le_mul h h h0 (by omega)⟩
/-- What a resolvent is: no q can be moved any more. -/
def RvPost (n : Int) (w : World) (e : Ending) (w' : World) : Prop := ∃ (d : Int) (f : Nat), e = .returned (.tuple #[.int .i64 d, .int .i64 ((f : Int))]) ∧ (Rv n d f ∧ ∀ q, 2 ≤ q → Um d q) ∧ Below w.heap.size w w'
theorem mx_abs {d : Int} : (if d < -d then -d else d) = (d.natAbs : Int) := by split <;> omega

set_option maxRecDepth 100000 in
set_option maxHeartbeats 1000000 in
theorem l09Resolvent_any (n : Int) (w : World) (h0 : n ≠ 0) (hf : Fts n) (hb : -100000000000000 ≤ n ∧ n ≤ 100000000000000) : Calls Tryd.prog 39 #[.int .i64 n] w (RvPost n w) := by
  have HS := hid (Rv.start h0 hf)
  have HB := hid hb
  clear h0 hf hb
  go_enter Tryd.func39, Tryd.ntmps39
  go_wp2_with fail
  go_loopw [4, 5, 6] (fun s t u wo => ∃ (d : Int) (f q : Nat), s = .int .i64 d ∧ t = .int .i64 ((f : Int)) ∧ u = .int .i64 ((q : Int)) ∧ Rv n d f ∧ Nsq d q ∧ 3 ≤ q ∧ q % 2 = 1 ∧ q ≤ 10000003 ∧ Below w.heap.size w wo) (fun _ _ u _ => (10000010 - intOf u).toNat)
  case atStart => exact ⟨n, 1, 3, rfl, rfl, rfl, HS.out, fun j a b c => by omega, by omega, by omega, by omega, Below.refl _ _⟩
  case round =>
    obtain ⟨d, f, q, rfl, rfl, rfl, H, hN, hq3, hqo, hqb, hUo⟩ := hrel
    obtain ⟨wo, hwo⟩ : ∃ wo, wo = wr := ⟨_, rfl⟩
    subst hwo
    have HUo := hid hUo
    clear hUo
    obtain ⟨⟨hd1, hd2⟩, hfb⟩ := H.bd HB.out
    obtain ⟨s0, s1⟩ := sqr_bd7 (x := (q : Int)) (B := 10000003) (by omega) (by omega)
    have hq9 : (3 : Int) * 3 ≤ (q : Int) * q := Int.mul_le_mul (by omega) (by omega) (by omega) (by omega)
    have hq1 : 1 ≤ (q : Int) * q := by omega
    have hq0 : ¬ (q : Int) * q = 0 := by omega
    clear hq9
    have HN := hid hN
    have HR := hid H
    clear HS hN
    have hne := H.ne
    clear H
    by_cases hle : (q : Int) * q ≤ (d.natAbs : Int)
    · have hqq : q ≤ 10000000 := by
        rcases Nat.lt_or_ge 10000000 q with h3 | h3
        · have : (10000001 : Int) * 10000001 ≤ (q : Int) * q := Int.mul_le_mul (by omega) (by omega) (by omega) (by omega)
          omega
        · exact h3
      obtain ⟨d0, hd0⟩ : ∃ d0, d0 = d := ⟨_, rfl⟩
      rcases Int.lt_or_lt_of_ne hne with hs | hs
      · have hx : d < -d := by omega
        have hxq : (q : Int) * q ≤ -d := by omega
        clear hle hne
        go_wp2_with fail
        go_loopw [4, 5] (fun s t wr => ∃ (d : Int) (f : Nat), s = .int .i64 d ∧ t = .int .i64 ((f : Int)) ∧ Rv n d f ∧ Nsq d q ∧ Below w.heap.size w wr) (fun s _ _ => (intOf s).natAbs)
        case atStart => exact ⟨d, f, rfl, rfl, HR.out, HN.out, HUo.out⟩
        case round =>
          clear hx hxq hs hd1 hd2 hfb HR HN hd0
          obtain ⟨d, f, rfl, rfl, H, hN, hU⟩ := hrel
          have HU0 := hid hU
          clear hU
          obtain ⟨⟨hd1, hd2⟩, hfb⟩ := H.bd HB.out
          have HN := hid hN
          have HR := hid H
          have hne := H.ne
          clear H hN
          by_cases hz : d.tmod ((q : Int) * q) = 0
          · have hz' : (d.tmod ((q : Int) * q) == 0) = true := by simpa using hz
            have he := tm_ex hz
            have hR2 := HR.out.odd hqo he
            have HR2 := hid hR2
            have HN2 := hid (HN.out.div he)
            obtain ⟨⟨he1, he2⟩, hfb2⟩ := hR2.bd HB.out
            have hfq : (0 : Int) ≤ (f : Int) * q ∧ (f : Int) * q ≤ 10000000 := ⟨Int.mul_nonneg (by omega) (by omega), by omega⟩
            obtain ⟨g1, g2⟩ := hfq
            have hlt : (d.tdiv ((q : Int) * q)).natAbs < d.natAbs := by
              have h1 : d.natAbs = (q * q) * (d.tdiv ((q : Int) * q)).natAbs := by
                conv => lhs; rw [he]
                rw [Int.natAbs_mul, Int.natAbs_mul, Int.natAbs_natCast]
              have h2 : 9 ≤ q * q := Nat.mul_le_mul hq3 hq3
              have h3 : 9 * (d.tdiv ((q : Int) * q)).natAbs ≤ (q * q) * (d.tdiv ((q : Int) * q)).natAbs := Nat.mul_le_mul_right _ h2
              have h4 : 0 < (d.tdiv ((q : Int) * q)).natAbs := Int.natAbs_pos.2 hR2.ne
              omega
            clear hz he HR HN hR2
            generalize hev : d.tdiv ((q : Int) * q) = e at HR2 HN2 he1 he2 hlt
            go_wp2_with fail
            go_roundw
            case rel => exact ⟨e, f * q, by first | rfl | go_num | (rw [wr_in (by omega)]), by go_num, HR2.out, HN2.out, HU0.out⟩
            case measure => simp [intOf]; omega
          · have hz' : (d.tmod ((q : Int) * q) == 0) = false := by simpa using hz
            have HN2 := hid (HN.out.next hqo (tm_dv hz))
            clear hz
            go_wp2_with fail
            go_roundw
            case rel => exact ⟨d, f, q + 2, rfl, rfl, by go_num, HR.out, HN2.out, by omega, by omega, by omega, HU0.out⟩
            case measure => simp [intOf]; omega
      · have hx : ¬ d < -d := by omega
        have hxq : (q : Int) * q ≤ d := by omega
        clear hle hne
        go_wp2_with fail
        go_loopw [4, 5] (fun s t wr => ∃ (d : Int) (f : Nat), s = .int .i64 d ∧ t = .int .i64 ((f : Int)) ∧ Rv n d f ∧ Nsq d q ∧ Below w.heap.size w wr) (fun s _ _ => (intOf s).natAbs)
        case atStart => exact ⟨d, f, rfl, rfl, HR.out, HN.out, HUo.out⟩
        case round =>
          clear hx hxq hs hd1 hd2 hfb HR HN hd0
          obtain ⟨d, f, rfl, rfl, H, hN, hU⟩ := hrel
          have HU0 := hid hU
          clear hU
          obtain ⟨⟨hd1, hd2⟩, hfb⟩ := H.bd HB.out
          have HN := hid hN
          have HR := hid H
          have hne := H.ne
          clear H hN
          by_cases hz : d.tmod ((q : Int) * q) = 0
          · have hz' : (d.tmod ((q : Int) * q) == 0) = true := by simpa using hz
            have he := tm_ex hz
            have hR2 := HR.out.odd hqo he
            have HR2 := hid hR2
            have HN2 := hid (HN.out.div he)
            obtain ⟨⟨he1, he2⟩, hfb2⟩ := hR2.bd HB.out
            have hfq : (0 : Int) ≤ (f : Int) * q ∧ (f : Int) * q ≤ 10000000 := ⟨Int.mul_nonneg (by omega) (by omega), by omega⟩
            obtain ⟨g1, g2⟩ := hfq
            have hlt : (d.tdiv ((q : Int) * q)).natAbs < d.natAbs := by
              have h1 : d.natAbs = (q * q) * (d.tdiv ((q : Int) * q)).natAbs := by
                conv => lhs; rw [he]
                rw [Int.natAbs_mul, Int.natAbs_mul, Int.natAbs_natCast]
              have h2 : 9 ≤ q * q := Nat.mul_le_mul hq3 hq3
              have h3 : 9 * (d.tdiv ((q : Int) * q)).natAbs ≤ (q * q) * (d.tdiv ((q : Int) * q)).natAbs := Nat.mul_le_mul_right _ h2
              have h4 : 0 < (d.tdiv ((q : Int) * q)).natAbs := Int.natAbs_pos.2 hR2.ne
              omega
            clear hz he HR HN hR2
            generalize hev : d.tdiv ((q : Int) * q) = e at HR2 HN2 he1 he2 hlt
            go_wp2_with fail
            go_roundw
            case rel => exact ⟨e, f * q, by first | rfl | go_num | (rw [wr_in (by omega)]), by go_num, HR2.out, HN2.out, HU0.out⟩
            case measure => simp [intOf]; omega
          · have hz' : (d.tmod ((q : Int) * q) == 0) = false := by simpa using hz
            have HN2 := hid (HN.out.next hqo (tm_dv hz))
            clear hz
            go_wp2_with fail
            go_roundw
            case rel => exact ⟨d, f, q + 2, rfl, rfl, by go_num, HR.out, HN2.out, by omega, by omega, by omega, HU0.out⟩
            case measure => simp [intOf]; omega
    · have HA := hid (HN.out.all hne (by omega))
      clear HN
      rcases Int.lt_or_lt_of_ne hne with hs | hs
      · have hx : d < -d := by omega
        have hxq : ¬ (q : Int) * q ≤ -d := by omega
        clear hle hne
        go_wp2_with fail
        go_loopw [4, 5] (fun s t wr => ∃ (d : Int) (f : Nat), s = .int .i64 d ∧ t = .int .i64 ((f : Int)) ∧ Rv n d f ∧ (∀ j : Nat, 3 ≤ j → j % 2 = 1 → ¬ ((j : Int) * j ∣ d)) ∧ Below w.heap.size w wr) (fun s _ _ => (intOf s).natAbs)
        case atStart => exact ⟨d, f, rfl, rfl, HR.out, HA.out, HUo.out⟩
        case round =>
          clear hx hxq hs hd1 hd2 hfb HR HA
          obtain ⟨d, f, rfl, rfl, H, hN, hU⟩ := hrel
          have HU0 := hid hU
          clear hU
          obtain ⟨⟨hd1, hd2⟩, hfb⟩ := H.bd HB.out
          have HA := hid hN
          have HR := hid H
          have hne := H.ne
          clear H hN
          by_cases hz : d.tmod 4 = 0
          · have hz' : (d.tmod 4 == 0) = true := by simpa using hz
            have he : d = 4 * d.tdiv 4 := tm_ex hz
            obtain ⟨he1, he2⟩ := tdiv_bd (m := 4) ⟨hd1, hd2⟩
            generalize hev : d.tdiv 4 = e at he he1 he2
            clear hz
            have HE := hid he
            have hlt : e.natAbs < d.natAbs := by omega
            clear he
            cases hft : ftb e with
            | true =>
              have hR2 := HR.out.by (q := 2) (by omega) HE.out (ftb_fts.1 hft)
              have HR2 := hid hR2
              have hfb2 := (hR2.bd HB.out).2
              have HA2 := hid (fun j a b hj => HA.out j a b (by rw [HE.out]; exact Int.dvd_trans hj (Int.dvd_mul_left _ _)))
              clear hR2
              go_wp2_with fail
              refine (sFits9_any e _).mono ?_
              rintro e' w1 ⟨rfl, rfl⟩
              go_wp2_with fail
              go_roundw
              case rel => exact ⟨e, f * 2, rfl, by go_num, HR2.out, HA2.out, HU0.out⟩
              case measure => simp [intOf]; omega
            | false =>
              have HU := hid (um_model HA.out (fun e' h' hf => by
                have : e' = e := by have := HE.out; omega
                subst this
                rw [ftb_fts.2 hf] at hft
                cases hft))
              go_wp2_with fail
              refine (sFits9_any e _).mono ?_
              rintro e' w1 ⟨rfl, rfl⟩
              go_wp2_with fail
              go_ret2
              exact ⟨d, f, rfl, ⟨HR.out, HU.out⟩, HU0.out⟩
          · have hz' : (d.tmod 4 == 0) = false := by simpa using hz
            have HU := hid (um_model HA.out (fun e' h' hf => tm_dv hz ⟨e', h'⟩))
            clear hz
            go_wp2_with fail
            go_ret2
            exact ⟨d, f, rfl, ⟨HR.out, HU.out⟩, HU0.out⟩
      · have hx : ¬ d < -d := by omega
        have hxq : ¬ (q : Int) * q ≤ d := by omega
        clear hle hne
        go_wp2_with fail
        go_loopw [4, 5] (fun s t wr => ∃ (d : Int) (f : Nat), s = .int .i64 d ∧ t = .int .i64 ((f : Int)) ∧ Rv n d f ∧ (∀ j : Nat, 3 ≤ j → j % 2 = 1 → ¬ ((j : Int) * j ∣ d)) ∧ Below w.heap.size w wr) (fun s _ _ => (intOf s).natAbs)
        case atStart => exact ⟨d, f, rfl, rfl, HR.out, HA.out, HUo.out⟩
        case round =>
          clear hx hxq hs hd1 hd2 hfb HR HA
          obtain ⟨d, f, rfl, rfl, H, hN, hU⟩ := hrel
          have HU0 := hid hU
          clear hU
          obtain ⟨⟨hd1, hd2⟩, hfb⟩ := H.bd HB.out
          have HA := hid hN
          have HR := hid H
          have hne := H.ne
          clear H hN
          by_cases hz : d.tmod 4 = 0
          · have hz' : (d.tmod 4 == 0) = true := by simpa using hz
            have he : d = 4 * d.tdiv 4 := tm_ex hz
            obtain ⟨he1, he2⟩ := tdiv_bd (m := 4) ⟨hd1, hd2⟩
            generalize hev : d.tdiv 4 = e at he he1 he2
            clear hz
            have HE := hid he
            have hlt : e.natAbs < d.natAbs := by omega
            clear he
            cases hft : ftb e with
            | true =>
              have hR2 := HR.out.by (q := 2) (by omega) HE.out (ftb_fts.1 hft)
              have HR2 := hid hR2
              have hfb2 := (hR2.bd HB.out).2
              have HA2 := hid (fun j a b hj => HA.out j a b (by rw [HE.out]; exact Int.dvd_trans hj (Int.dvd_mul_left _ _)))
              clear hR2
              go_wp2_with fail
              refine (sFits9_any e _).mono ?_
              rintro e' w1 ⟨rfl, rfl⟩
              go_wp2_with fail
              go_roundw
              case rel => exact ⟨e, f * 2, rfl, by go_num, HR2.out, HA2.out, HU0.out⟩
              case measure => simp [intOf]; omega
            | false =>
              have HU := hid (um_model HA.out (fun e' h' hf => by
                have : e' = e := by have := HE.out; omega
                subst this
                rw [ftb_fts.2 hf] at hft
                cases hft))
              go_wp2_with fail
              refine (sFits9_any e _).mono ?_
              rintro e' w1 ⟨rfl, rfl⟩
              go_wp2_with fail
              go_ret2
              exact ⟨d, f, rfl, ⟨HR.out, HU.out⟩, HU0.out⟩
          · have hz' : (d.tmod 4 == 0) = false := by simpa using hz
            have HU := hid (um_model HA.out (fun e' h' hf => tm_dv hz ⟨e', h'⟩))
            clear hz
            go_wp2_with fail
            go_ret2
            exact ⟨d, f, rfl, ⟨HR.out, HU.out⟩, HU0.out⟩


end Go.Proofs.YtmhlolimaeejfaaDoor
