/- Chapter 9: the primes whose squares divide a number, as a function that is ranged over. -/
import Derived.Test.YtmhlolimaeejfaaDoorYs
import Derived.Test.YtmhlolimaeejfaaDoorYc
import Derived.Test.YtmhlolimaeejfaaDoorBx
import Derived.Test.YtmhlolimaeejfaaDoorZ16
namespace Go.Proofs.YtmhlolimaeejfaaDoor
open Go.RowKit Go.Shelf
attribute [local go_sem] Oper.semAt_some

/-- What can be moved. -/
abbrev Pn := {p : Nat // 2 ≤ p ∧ p ≤ 10000000}
def vls (ys : List Pn) : List Nat := ys.map (·.1)
theorem vls_app (ys : List Pn) (p : Nat) (h : 2 ≤ p ∧ p ≤ 10000000) : vls (ys ++ [⟨p, h⟩]) = vls ys ++ [p] := by simp [vls]
theorem vls_len (ys : List Pn) : (vls ys).length = ys.length := by simp [vls]
/-- All primes whose squares divide n stand in the list. -/
def Twi (n : Nat) (ys : List Nat) : Prop := (∀ x ∈ ys, 2 ≤ x ∧ x ≤ 10000000) ∧ ∀ q, Prm q → q * q ∣ n → q ∈ ys
structure Tws (n : Nat) (ys : List Nat) (p : Nat) : Prop where
  bd : ∀ x ∈ ys, 2 ≤ x ∧ x ≤ 10000000
  all : ∀ q, Prm q → q < p → q * q ∣ n → q ∈ ys
  len : ys.length ≤ p
theorem Tws.start {n : Nat} : Tws n [] 2 := ⟨fun x hx => (by cases hx), fun q hq h _ => (by have := hq.1; omega), by simp⟩
theorem Tws.take {n p : Nat} {ys : List Nat} (h : Tws n ys p) (h2 : 2 ≤ p) (h7 : p ≤ 10000000) : Tws n (ys ++ [p]) (p + 1) := by
  refine ⟨fun x hx => ?_, fun q hq hl hd => ?_, by rw [List.length_append]; have := h.len; simp; omega⟩
  · rcases List.mem_append.1 hx with h0 | h0
    · exact h.bd x h0
    · have := List.mem_singleton.1 h0; omega
  · by_cases e : q = p
    · subst e; simp
    · exact List.mem_append_left _ (h.all q hq (by omega) hd)
theorem Tws.skip {n p : Nat} {ys : List Nat} (h : Tws n ys p) (hn : Prm p → ¬ p * p ∣ n) : Tws n ys (p + 1) := by
  refine ⟨h.bd, fun q hq hl hd => ?_, by have := h.len; omega⟩
  by_cases e : q = p
  · subst e; exact absurd hd (hn hq)
  · exact h.all q hq (by omega) hd
theorem Tws.none {n p left : Nat} {ys : List Nat} (h : Tws n ys p) (hl : Lf n left p) (h2 : 2 ≤ p) (hend : left < p * p * p) (hr : ∀ q, 2 ≤ q → q * q ≠ left) : Twi n ys := by
  refine ⟨h.bd, fun q hq hd => ?_⟩
  by_cases e : q < p
  · exact h.all q hq e hd
  · exact absurd (hl.last h2 hend hq (by omega) hd) (hr q hq.1)
theorem Tws.root {n p left r : Nat} {ys : List Nat} (h : Tws n ys p) (hl : Lf n left p) (h2 : 2 ≤ p) (hend : left < p * p * p) (hr2 : 2 ≤ r) (hr7 : r ≤ 10000000) (hr : r * r = left) : Twi n (ys ++ [r]) := by
  refine ⟨fun x hx => ?_, fun q hq hd => ?_⟩
  · rcases List.mem_append.1 hx with h0 | h0
    · exact h.bd x h0
    · have := List.mem_singleton.1 h0; omega
  · by_cases e : q < p
    · exact List.mem_append_left _ (h.all q hq e hd)
    · have := hl.last h2 hend hq (by omega) hd
      have e2 : q = r := by
        have h3 : q * q = r * r := by omega
        rcases Nat.lt_trichotomy q r with h4 | h4 | h4
        · have := Nat.mul_self_lt_mul_self_iff.2 h4; omega
        · exact h4
        · have := Nat.mul_self_lt_mul_self_iff.2 h4; omega
      subst e2; simp
/-- The divisions, with their number. -/
theorem ld_sum {n left0 left p t : Nat} (h : Ld n left0 left p t) (hp : 2 ≤ p) (hs : t + left ≤ left0) : t + 1 + left / p ≤ left0 ∧ left / p < left := by
  have h1 := h.pos
  have h2 : left / p * p ≤ left := Nat.div_mul_le_self _ _
  have h3 : left / p * 2 ≤ left / p * p := Nat.mul_le_mul_left _ hp
  omega
theorem cub_bd {p : Nat} (h : p ≤ 46420) : (0 : Int) ≤ (p : Int) * p ∧ (p : Int) * p ≤ 2154816400 ∧ (0 : Int) ≤ (p : Int) * p * p ∧ (p : Int) * p * p ≤ 100026577288000 := by
  have h1 : (p : Int) * p ≤ 46420 * 46420 := Int.mul_le_mul (by omega) (by omega) (by omega) (by omega)
  have h0 : (0 : Int) ≤ (p : Int) * p := Int.mul_nonneg (by omega) (by omega)
  have h2 : (p : Int) * p * p ≤ 2154816400 * 46420 := Int.mul_le_mul (by omega) (by omega) (by omega) (by omega)
  have h3 : (0 : Int) ≤ (p : Int) * p * p := Int.mul_nonneg h0 (by omega)
  omega
theorem cub_lt {p : Nat} (h : (p : Int) * p * p ≤ 100000000000000) : p ≤ 46416 := by
  rcases Nat.lt_or_ge 46416 p with h0 | h0
  · have h1 : (46417 : Int) * 46417 ≤ (p : Int) * p := Int.mul_le_mul (by omega) (by omega) (by omega) (by omega)
    have h2 : (2154537889 : Int) * 46417 ≤ (p : Int) * p * p := Int.mul_le_mul (by omega) (by omega) (by omega) (Int.mul_nonneg (by omega) (by omega))
    omega
  · exact h0

theorem nosq {left r : Nat} (h1 : (r : Int) * r ≤ (left : Int)) (h2 : (left : Int) < ((r : Int) + 1) * (r + 1)) (he : ¬ r * r = left) : ∀ q, 2 ≤ q → q * q ≠ left := by
  intro q _ hq
  have h3 : r * r ≤ left := by exact_mod_cast h1
  have h4 : left < (r + 1) * (r + 1) := by exact_mod_cast h2
  have h5 : q < r + 1 := Nat.mul_self_lt_mul_self_iff.1 (by omega)
  have h6 : r ≤ q := Nat.mul_self_le_mul_self_iff.1 (by omega)
  have : q = r := by omega
  subst this
  exact he hq

set_option maxRecDepth 100000 in
set_option maxHeartbeats 4000000 in
theorem twice_stops (n : Int) (s k : Nat) (w : World) (hk : 1 ≤ k) (hn0 : n ≠ 0) (hb : -100000000000000 ≤ n ∧ n ≤ 100000000000000) (hlt : s < w.heap.size) (hc : w.cell? ⟨s, 0, none⟩ = some (.int .i64 n)) :
    SeqStopsK Fence.wide k Tryd.prog 72 #[.pointer (some ⟨s, 0, none⟩)] (fun p : Pn => #[.int .i64 ((p.1 : Int))]) (fun _ _ => True) (fun ys => Twi n.natAbs (vls ys)) (fun _ => True) 1000000 w := fun l J Jx W hW hJ hJx hY h0 => by
  have c0 : W.cell? ⟨s, 0, none⟩ = some (.int .i64 n) := (hW.cell (p := ⟨s, 0, none⟩) hlt).trans hc
  have HL : Hid (Lf n.natAbs n.natAbs 2) := hid (Lf.start (Int.natAbs_pos.2 hn0))
  obtain ⟨hb1, hb2⟩ := hb
  obtain ⟨N, hN⟩ : ∃ N, N = n.natAbs := ⟨_, rfl⟩
  rw [← hN] at HL
  have HN := hid hN
  have hNb : N ≤ 100000000000000 := by omega
  have HY := hid hY; have H0 := hid h0
  have HG := hid (show Twi n.natAbs = Twi N by rw [hN])
  clear hY h0 hJ hJx hlt hc hW
  refine callsIn_of_wp Tryd.func72 rfl trivial ?_ rfl
  simp only [Tryd.ntmps72, List.size_toArray, List.length_cons, List.length_nil, Nat.reduceAdd, Nat.reduceSub, Array.replicate_succ, Array.replicate_zero, List.push_toArray, List.append_toArray, List.nil_append, List.cons_append]
  have hmax : (n < -n ∧ -n = (N : Int)) ∨ (¬ n < -n ∧ n = (N : Int)) := by omega
  clear hN
  rcases hmax with ⟨hx, hy⟩ | ⟨hx, hy⟩
  · have HX := hid hy
    clear hy
    gi_wp2_with fail
    gi_loopw [3, 4] (fun s3 s4 wo => ∃ (left p : Nat) (ys : List Pn), s3 = .int .i64 ((left : Int)) ∧ s4 = .int .i64 ((p : Int)) ∧ 2 ≤ p ∧ p ≤ 46420 ∧ Lf N left p ∧ Tws N (vls ys) p ∧ J ys wo) (fun _ s4 _ => (46430 - intOf s4).toNat)
    case atStart => exact ⟨N, 2, [], by first | rfl | rw [HX.out], rfl, by omega, by omega, HL.out, Tws.start, H0.out⟩
    case round =>
      obtain ⟨left, p, ys, rfl, rfl, hp2, hpb, hF, hT, hJ⟩ := hrel
      obtain ⟨wo, hwo⟩ : ∃ wo, wo = wr := ⟨_, rfl⟩
      subst hwo
      obtain ⟨q0, q1, q2, q3⟩ := cub_bd hpb
      have hle := hF.le
      have hpos := hF.pos
      have hlen := hT.len
      rw [vls_len] at hlen
      have HF := hid hF; have HT := hid hT; have HJ := hid hJ
      clear hF hT hJ HL H0
      by_cases hc : (p : Int) * p * p ≤ (left : Int)
      · have hpp := cub_lt (p := p) (by omega)
        have hcb : decide ((p : Int) * p * p ≤ (left : Int)) = true := by simpa using hc
        gi_wp2_with fail
        gi_loopw [3, 5] (fun s3 s5 wr => ∃ (m t : Nat), s3 = .int .i64 ((m : Int)) ∧ s5 = .int .i64 ((t : Int)) ∧ Ld N left m p t ∧ t + m ≤ left ∧ J ys wr) (fun s3 _ _ => (intOf s3).toNat)
        case atStart => exact ⟨left, 0, rfl, rfl, HF.out.ld, by omega, HJ.out⟩
        case round =>
          obtain ⟨m, t, rfl, rfl, hD, hs, hJr⟩ := hrel
          have HD := hid hD; have HJr := hid hJr
          clear hD hJr hcb
          by_cases hz : m % p = 0
          · have hm : mul0 m p = true := by rw [mul0_e (by omega)]; simp; omega
            obtain ⟨d1, d2⟩ := ld_sum HD.out hp2 hs
            have HD2 := hid (HD.out.step hp2 hz)
            have hd2 : m / p ≤ 100000000000000 := by omega
            have hd0 : 0 ≤ (m : Int) / (p : Int) := by rw [← Int.natCast_ediv]; exact Int.natCast_nonneg _
            have hd1 : (m : Int) / (p : Int) ≤ 100000000000000 := Int.le_trans (Int.ediv_le_self _ (by omega)) (by omega)
            clear hz
            gi_wp2_with (refine ⟨trivial, ?_⟩; gi_at_call 64; refine (callsIn_wide.2 (isMultiple_any m p _ (by omega) (by omega))).mono ?_; rintro e w1 ⟨rfl, rfl⟩)
            go_roundw
            case rel => exact ⟨m / p, t + 1, by first | rfl | go_num | (rw [wr_in (by omega)]), by go_num, HD2.out, d1, HJr.out⟩
            case measure => simp [intOf]; omega
          · have hm : mul0 m p = false := by rw [mul0_e (by omega)]; simp; omega
            have HL2 := hid (HD.out.next hz)
            by_cases ht : 1 < t
            · have htb : decide ((1 : Int) < (t : Int)) = true := by simp; omega
              have hpr : 2 ≤ p ∧ p ≤ 10000000 := by omega
              have HT2 := hid (show Tws N (vls (ys ++ [⟨p, hpr⟩])) (p + 1) by rw [vls_app]; exact HT.out.take hp2 hpr.2)
              obtain ⟨fn, tmps, assign, body, hy, hR⟩ := HY.out ys ⟨p, hpr⟩ wr HJr.out (by omega)
              dsimp only at hy
              clear hz
              gi_wp2_with (refine ⟨trivial, ?_⟩; gi_at_call 64; refine (callsIn_wide.2 (isMultiple_any m p _ (by omega) (by omega))).mono ?_; rintro e w1 ⟨rfl, rfl⟩)
              refine hR.mono ?_
              rintro e W3 (⟨rfl, hJ3, _⟩ | ⟨rfl, hJx3⟩)
              · gi_wp2
                go_roundw
                case rel => exact ⟨m, p + 1, ys ++ [⟨p, hpr⟩], rfl, by go_num, by omega, by omega, HL2.out, HT2.out, hJ3⟩
                case measure => simp [intOf]; omega
              · gi_wp2
                (repeat (refine ⟨fun _ h => (by cases h), ?_⟩; gi_wp2))
                refine bodyPost_ret (results_none rfl _ _ _) rfl ?_
                exact ⟨⟨_, rfl⟩, .inr ⟨_, trivial, hJx3⟩⟩
            · have htb : decide ((1 : Int) < (t : Int)) = false := by simp; omega
              have HT2 := hid (HT.out.skip (fun hpr hd => HD.out.once hp2 hz (by omega) (HF.out.tw p hpr (Nat.le_refl _) hd)))
              clear hz
              gi_wp2_with (refine ⟨trivial, ?_⟩; gi_at_call 64; refine (callsIn_wide.2 (isMultiple_any m p _ (by omega) (by omega))).mono ?_; rintro e w1 ⟨rfl, rfl⟩)
              (repeat (refine ⟨fun _ h => (by cases h), ?_⟩; gi_wp2))
              go_roundw
              case rel => exact ⟨m, p + 1, ys, rfl, by go_num, by omega, by omega, HL2.out, HT2.out, HJr.out⟩
              case measure => simp [intOf]; omega
      · have hcb : decide ((p : Int) * p * p ≤ (left : Int)) = false := by simpa using hc
        have hend : left < p * p * p := by
          have : (left : Int) < (p : Int) * p * p := by omega
          exact_mod_cast this
        have hrt := fun W => squareRoot_any (left : Int) W (by omega)
        have HRT := hid hrt
        clear hrt
        gi_wp2_with fail
        refine ⟨trivial, (callsIn_wide.2 (HRT.out _)).mono ?_⟩
        rintro e w1 ⟨r, rfl, hr3, ⟨_, hsq⟩, rfl⟩
        obtain ⟨hsq1, hsq2⟩ := hsq (by omega)
        clear hsq
        have hr7 : r ≤ 10000000 := by
          rcases Nat.lt_or_ge 10000000 r with h3 | h3
          · have : (10000001 : Int) * 10000001 ≤ (r : Int) * r := Int.mul_le_mul (by omega) (by omega) (by omega) (by omega)
            omega
          · exact h3
        have hrr0 : (0 : Int) ≤ (r : Int) * r := Int.mul_nonneg (by omega) (by omega)
        have hrr1 : (r : Int) * r ≤ 100000000000000 := by omega
        by_cases h1 : 1 < r
        · have h1b : decide ((1 : Int) < (r : Int)) = true := by simp; omega
          by_cases he : r * r = left
          · have hebi : (r : Int) * r = (left : Int) := by exact_mod_cast he
            have heb : ((r : Int) * r == (left : Int)) = true := by simpa using hebi
            have hrr : 2 ≤ r ∧ r ≤ 10000000 := ⟨h1, hr7⟩
            have HTW := hid (show Twi N (vls (ys ++ [⟨r, hrr⟩])) by rw [vls_app]; exact HT.out.root HF.out hp2 hend h1 hr7 he)
            obtain ⟨fn, tmps, assign, body, hy, hR⟩ := HY.out ys ⟨r, hrr⟩ wo HJ.out (by omega)
            dsimp only at hy
            clear he hsq1 hsq2 hebi
            gi_wp2_with fail
            refine hR.mono ?_
            rintro e W3 (⟨rfl, hJ3, _⟩ | ⟨rfl, hJx3⟩)
            · gi_wp2
              go_end0
              exact ⟨⟨_, rfl⟩, .inl ⟨_, by rw [HG.out]; exact HTW.out, hJ3⟩⟩
            · gi_wp2
              go_end0
              exact ⟨⟨_, rfl⟩, .inr ⟨_, trivial, hJx3⟩⟩
          · have heb : ((r : Int) * r == (left : Int)) = false := by
              have : ¬ (r : Int) * r = (left : Int) := fun h => he (by exact_mod_cast h)
              simpa using this
            have HTW := hid (HT.out.none HF.out hp2 hend (nosq hsq1 hsq2 he))
            clear he hsq1 hsq2
            gi_wp2_with fail
            go_end0
            exact ⟨⟨_, rfl⟩, .inl ⟨_, by rw [HG.out]; exact HTW.out, HJ.out⟩⟩
        · have h1b : decide ((1 : Int) < (r : Int)) = false := by simp; omega
          have HTW := hid (HT.out.none HF.out hp2 hend (fun q h2 he => by
            have h3 : (q : Int) * q = (left : Int) := by exact_mod_cast he
            have h4 : (2 : Int) * 2 ≤ (q : Int) * q := Int.mul_le_mul (by omega) (by omega) (by omega) (by omega)
            have h5 : ((r : Int) + 1) * (r + 1) ≤ 2 * 2 := Int.mul_le_mul (by omega) (by omega) (by omega) (by omega)
            omega))
          clear hsq1 hsq2
          gi_wp2_with fail
          go_end0
          exact ⟨⟨_, rfl⟩, .inl ⟨_, by rw [HG.out]; exact HTW.out, HJ.out⟩⟩
  · have HX := hid hy
    clear hy
    gi_wp2_with fail
    gi_loopw [3, 4] (fun s3 s4 wo => ∃ (left p : Nat) (ys : List Pn), s3 = .int .i64 ((left : Int)) ∧ s4 = .int .i64 ((p : Int)) ∧ 2 ≤ p ∧ p ≤ 46420 ∧ Lf N left p ∧ Tws N (vls ys) p ∧ J ys wo) (fun _ s4 _ => (46430 - intOf s4).toNat)
    case atStart => exact ⟨N, 2, [], by first | rfl | rw [HX.out], rfl, by omega, by omega, HL.out, Tws.start, H0.out⟩
    case round =>
      obtain ⟨left, p, ys, rfl, rfl, hp2, hpb, hF, hT, hJ⟩ := hrel
      obtain ⟨wo, hwo⟩ : ∃ wo, wo = wr := ⟨_, rfl⟩
      subst hwo
      obtain ⟨q0, q1, q2, q3⟩ := cub_bd hpb
      have hle := hF.le
      have hpos := hF.pos
      have hlen := hT.len
      rw [vls_len] at hlen
      have HF := hid hF; have HT := hid hT; have HJ := hid hJ
      clear hF hT hJ HL H0
      by_cases hc : (p : Int) * p * p ≤ (left : Int)
      · have hpp := cub_lt (p := p) (by omega)
        have hcb : decide ((p : Int) * p * p ≤ (left : Int)) = true := by simpa using hc
        gi_wp2_with fail
        gi_loopw [3, 5] (fun s3 s5 wr => ∃ (m t : Nat), s3 = .int .i64 ((m : Int)) ∧ s5 = .int .i64 ((t : Int)) ∧ Ld N left m p t ∧ t + m ≤ left ∧ J ys wr) (fun s3 _ _ => (intOf s3).toNat)
        case atStart => exact ⟨left, 0, rfl, rfl, HF.out.ld, by omega, HJ.out⟩
        case round =>
          obtain ⟨m, t, rfl, rfl, hD, hs, hJr⟩ := hrel
          have HD := hid hD; have HJr := hid hJr
          clear hD hJr hcb
          by_cases hz : m % p = 0
          · have hm : mul0 m p = true := by rw [mul0_e (by omega)]; simp; omega
            obtain ⟨d1, d2⟩ := ld_sum HD.out hp2 hs
            have HD2 := hid (HD.out.step hp2 hz)
            have hd2 : m / p ≤ 100000000000000 := by omega
            have hd0 : 0 ≤ (m : Int) / (p : Int) := by rw [← Int.natCast_ediv]; exact Int.natCast_nonneg _
            have hd1 : (m : Int) / (p : Int) ≤ 100000000000000 := Int.le_trans (Int.ediv_le_self _ (by omega)) (by omega)
            clear hz
            gi_wp2_with (refine ⟨trivial, ?_⟩; gi_at_call 64; refine (callsIn_wide.2 (isMultiple_any m p _ (by omega) (by omega))).mono ?_; rintro e w1 ⟨rfl, rfl⟩)
            go_roundw
            case rel => exact ⟨m / p, t + 1, by first | rfl | go_num | (rw [wr_in (by omega)]), by go_num, HD2.out, d1, HJr.out⟩
            case measure => simp [intOf]; omega
          · have hm : mul0 m p = false := by rw [mul0_e (by omega)]; simp; omega
            have HL2 := hid (HD.out.next hz)
            by_cases ht : 1 < t
            · have htb : decide ((1 : Int) < (t : Int)) = true := by simp; omega
              have hpr : 2 ≤ p ∧ p ≤ 10000000 := by omega
              have HT2 := hid (show Tws N (vls (ys ++ [⟨p, hpr⟩])) (p + 1) by rw [vls_app]; exact HT.out.take hp2 hpr.2)
              obtain ⟨fn, tmps, assign, body, hy, hR⟩ := HY.out ys ⟨p, hpr⟩ wr HJr.out (by omega)
              dsimp only at hy
              clear hz
              gi_wp2_with (refine ⟨trivial, ?_⟩; gi_at_call 64; refine (callsIn_wide.2 (isMultiple_any m p _ (by omega) (by omega))).mono ?_; rintro e w1 ⟨rfl, rfl⟩)
              refine hR.mono ?_
              rintro e W3 (⟨rfl, hJ3, _⟩ | ⟨rfl, hJx3⟩)
              · gi_wp2
                go_roundw
                case rel => exact ⟨m, p + 1, ys ++ [⟨p, hpr⟩], rfl, by go_num, by omega, by omega, HL2.out, HT2.out, hJ3⟩
                case measure => simp [intOf]; omega
              · gi_wp2
                (repeat (refine ⟨fun _ h => (by cases h), ?_⟩; gi_wp2))
                refine bodyPost_ret (results_none rfl _ _ _) rfl ?_
                exact ⟨⟨_, rfl⟩, .inr ⟨_, trivial, hJx3⟩⟩
            · have htb : decide ((1 : Int) < (t : Int)) = false := by simp; omega
              have HT2 := hid (HT.out.skip (fun hpr hd => HD.out.once hp2 hz (by omega) (HF.out.tw p hpr (Nat.le_refl _) hd)))
              clear hz
              gi_wp2_with (refine ⟨trivial, ?_⟩; gi_at_call 64; refine (callsIn_wide.2 (isMultiple_any m p _ (by omega) (by omega))).mono ?_; rintro e w1 ⟨rfl, rfl⟩)
              (repeat (refine ⟨fun _ h => (by cases h), ?_⟩; gi_wp2))
              go_roundw
              case rel => exact ⟨m, p + 1, ys, rfl, by go_num, by omega, by omega, HL2.out, HT2.out, HJr.out⟩
              case measure => simp [intOf]; omega
      · have hcb : decide ((p : Int) * p * p ≤ (left : Int)) = false := by simpa using hc
        have hend : left < p * p * p := by
          have : (left : Int) < (p : Int) * p * p := by omega
          exact_mod_cast this
        have hrt := fun W => squareRoot_any (left : Int) W (by omega)
        have HRT := hid hrt
        clear hrt
        gi_wp2_with fail
        refine ⟨trivial, (callsIn_wide.2 (HRT.out _)).mono ?_⟩
        rintro e w1 ⟨r, rfl, hr3, ⟨_, hsq⟩, rfl⟩
        obtain ⟨hsq1, hsq2⟩ := hsq (by omega)
        clear hsq
        have hr7 : r ≤ 10000000 := by
          rcases Nat.lt_or_ge 10000000 r with h3 | h3
          · have : (10000001 : Int) * 10000001 ≤ (r : Int) * r := Int.mul_le_mul (by omega) (by omega) (by omega) (by omega)
            omega
          · exact h3
        have hrr0 : (0 : Int) ≤ (r : Int) * r := Int.mul_nonneg (by omega) (by omega)
        have hrr1 : (r : Int) * r ≤ 100000000000000 := by omega
        by_cases h1 : 1 < r
        · have h1b : decide ((1 : Int) < (r : Int)) = true := by simp; omega
          by_cases he : r * r = left
          · have hebi : (r : Int) * r = (left : Int) := by exact_mod_cast he
            have heb : ((r : Int) * r == (left : Int)) = true := by simpa using hebi
            have hrr : 2 ≤ r ∧ r ≤ 10000000 := ⟨h1, hr7⟩
            have HTW := hid (show Twi N (vls (ys ++ [⟨r, hrr⟩])) by rw [vls_app]; exact HT.out.root HF.out hp2 hend h1 hr7 he)
            obtain ⟨fn, tmps, assign, body, hy, hR⟩ := HY.out ys ⟨r, hrr⟩ wo HJ.out (by omega)
            dsimp only at hy
            clear he hsq1 hsq2 hebi
            gi_wp2_with fail
            refine hR.mono ?_
            rintro e W3 (⟨rfl, hJ3, _⟩ | ⟨rfl, hJx3⟩)
            · gi_wp2
              go_end0
              exact ⟨⟨_, rfl⟩, .inl ⟨_, by rw [HG.out]; exact HTW.out, hJ3⟩⟩
            · gi_wp2
              go_end0
              exact ⟨⟨_, rfl⟩, .inr ⟨_, trivial, hJx3⟩⟩
          · have heb : ((r : Int) * r == (left : Int)) = false := by
              have : ¬ (r : Int) * r = (left : Int) := fun h => he (by exact_mod_cast h)
              simpa using this
            have HTW := hid (HT.out.none HF.out hp2 hend (nosq hsq1 hsq2 he))
            clear he hsq1 hsq2
            gi_wp2_with fail
            go_end0
            exact ⟨⟨_, rfl⟩, .inl ⟨_, by rw [HG.out]; exact HTW.out, HJ.out⟩⟩
        · have h1b : decide ((1 : Int) < (r : Int)) = false := by simp; omega
          have HTW := hid (HT.out.none HF.out hp2 hend (fun q h2 he => by
            have h3 : (q : Int) * q = (left : Int) := by exact_mod_cast he
            have h4 : (2 : Int) * 2 ≤ (q : Int) * q := Int.mul_le_mul (by omega) (by omega) (by omega) (by omega)
            have h5 : ((r : Int) + 1) * (r + 1) ≤ 2 * 2 := Int.mul_le_mul (by omega) (by omega) (by omega) (by omega)
            omega))
          clear hsq1 hsq2
          gi_wp2_with fail
          go_end0
          exact ⟨⟨_, rfl⟩, .inl ⟨_, by rw [HG.out]; exact HTW.out, HJ.out⟩⟩


end Go.Proofs.YtmhlolimaeejfaaDoor
