/- Chapter 9: ideal numbers, the model's. -/
import Derived.Test.YtihcmgjfkiaelaaDoorSc
namespace Go.Proofs.YtihcmgjfkiaelaaDoor
open Go.RowKit

/-- Nodes of all numbers. -/
def Nds (ND : Nat → List (Nat × Nat)) : Prop := ND 0 = [] ∧ ∀ j, 1 ≤ j → Nod j (ND j)
theorem nds_ex : ∃ ND, Nds ND := by
  refine ⟨fun j => if h : 1 ≤ j then Classical.choose (Nod.ex j h) else [], ?_, fun j h => ?_⟩
  · simp
  · simp only [h, dif_pos]
    exact Classical.choose_spec (Nod.ex j h)
/-- What has been multiplied up when all primes below q are through. -/
def wvl (v : Nat → Nat → Int) (ND : Nat → List (Nat × Nat)) (q j : Nat) : Int := chf v q (ND j)
theorem wvl_0 {v : Nat → Nat → Int} {ND : Nat → List (Nat × Nat)} (h : Nds ND) (q : Nat) : wvl v ND q 0 = 1 := by unfold wvl; rw [h.1]; rfl
theorem wvl_2 {v : Nat → Nat → Int} {ND : Nat → List (Nat × Nat)} (h : Nds ND) (j : Nat) : wvl v ND 2 j = 1 := by
  rcases Nat.eq_zero_or_pos j with rfl | hj
  · exact wvl_0 h 2
  · exact chq_2 fun x hx => ((h.2 j hj).bd x hx).1
theorem wvl_np {v : Nat → Nat → Int} {ND : Nat → List (Nat × Nat)} (h : Nds ND) {q : Nat} (hq : ¬ Prm q) (j : Nat) : wvl v ND (q + 1) j = wvl v ND q j := by
  rcases Nat.eq_zero_or_pos j with rfl | hj
  · rw [wvl_0 h, wvl_0 h]
  · exact chq_same fun x hx e => hq (e ▸ ((h.2 j hj).prm x hx).1)
theorem wvl_nd {v : Nat → Nat → Int} {ND : Nat → List (Nat × Nat)} (h : Nds ND) {q : Nat} {j : Nat} (hd : ¬ (q ∣ j ∧ 1 ≤ j)) : wvl v ND (q + 1) j = wvl v ND q j := by
  rcases Nat.eq_zero_or_pos j with rfl | hj
  · rw [wvl_0 h, wvl_0 h]
  · exact chq_same fun x hx e => hd ⟨e ▸ ((h.2 j hj).prm x hx).2, hj⟩
theorem wvl_d {v : Nat → Nat → Int} {ND : Nat → List (Nat × Nat)} (h : Nds ND) {q k u j : Nat} (hq : Prm q) (hj : 1 ≤ j) (he : j = q ^ k * u) (hu : u % q ≠ 0) (hk : 1 ≤ k) : wvl v ND (q + 1) j = mu (wvl v ND q j) (v q k) :=
  chq_step (h.2 j hj).asc ((h.2 j hj).mem hq he hu hk)
theorem wvl_all {v : Nat → Nat → Int} {ND : Nat → List (Nat × Nat)} (h : Nds ND) {n j : Nat} (hj : 1 ≤ j) (hn : j ≤ n) : wvl v ND (n + 1) j = chl v 1 (ND j) :=
  chq_all fun x hx => by have := ((h.2 j hj).bd x hx).2.1; omega
/-- In the round of q, at i. -/
def wvr (v : Nat → Nat → Int) (ND : Nat → List (Nat × Nat)) (q i j : Nat) : Int := if q ∣ j ∧ 1 ≤ j ∧ j < i then wvl v ND (q + 1) j else wvl v ND q j
theorem wvr_start {v : Nat → Nat → Int} {ND : Nat → List (Nat × Nat)} {q : Nat} (j : Nat) : wvr v ND q q j = wvl v ND q j := by
  unfold wvr; rw [if_neg]
  rintro ⟨⟨c, rfl⟩, h1, h2⟩
  have : c ≠ 0 := fun e => by subst e; omega
  have : q * 1 ≤ q * c := Nat.mul_le_mul_left _ (by omega)
  omega
theorem wvr_at {v : Nat → Nat → Int} {ND : Nat → List (Nat × Nat)} {q i : Nat} : wvr v ND q i i = wvl v ND q i := by
  unfold wvr; rw [if_neg]; rintro ⟨_, _, h⟩; omega
theorem wvr_next {v : Nat → Nat → Int} {ND : Nat → List (Nat × Nat)} {q m : Nat} (hq : 2 ≤ q) (hm : 1 ≤ m) (j : Nat) : wvr v ND q (q * m + q) j = if j = q * m then wvl v ND (q + 1) j else wvr v ND q (q * m) j := by
  unfold wvr
  by_cases e : j = q * m
  · rw [if_pos e, if_pos]
    subst e
    exact ⟨Nat.dvd_mul_right _ _, Nat.mul_pos (by omega) hm, by omega⟩
  · rw [if_neg e]
    by_cases h : q ∣ j ∧ 1 ≤ j ∧ j < q * m
    · rw [if_pos h, if_pos ⟨h.1, h.2.1, by omega⟩]
    · rw [if_neg h, if_neg]
      rintro ⟨⟨c, rfl⟩, h1, h2⟩
      apply h
      refine ⟨Nat.dvd_mul_right _ _, h1, ?_⟩
      have h3 : c < m + 1 := by
        rcases Nat.lt_or_ge c (m + 1) with h4 | h4
        · exact h4
        · have : q * (m + 1) ≤ q * c := Nat.mul_le_mul_left _ h4
          rw [Nat.mul_add, Nat.mul_one] at this; omega
      have h5 : c ≠ m := fun e' => e (by rw [e'])
      exact Nat.mul_lt_mul_of_pos_left (by omega) (by omega)
theorem wvr_end {v : Nat → Nat → Int} {ND : Nat → List (Nat × Nat)} (h : Nds ND) {q i n j : Nat} (hi : n < i) (hj : j ≤ n) : wvr v ND q i j = wvl v ND (q + 1) j := by
  unfold wvr
  by_cases hd : q ∣ j ∧ 1 ≤ j
  · rw [if_pos ⟨hd.1, hd.2, by omega⟩]
  · rw [if_neg (fun h' => hd ⟨h'.1, h'.2.1⟩), wvl_nd h hd]
/-- ones -/
def one1 : Nat → List Int := fun i => List.replicate i 1
theorem one_app {w : World} {B : Nat} {t : TypeId} {v : Value} {i : Nat} (h : w.ownsRow B t 1 v (i + 1) ((one1 i).map (Value.int .i64) ++ [.int .i64 1])) : w.ownsRow B t 1 v (i + 1) ((one1 (i + 1)).map (Value.int .i64)) := by
  have : one1 (i + 1) = one1 i ++ [1] := by simp [one1, List.replicate_succ']
  rw [this]; simpa using h
theorem one_get {i n : Nat} (h : i < n) : (one1 n).getD i 0 = 1 := by simp [one1, h]
/-- The divisions that count how often q divides i. -/
structure Cnt (q i k u : Nat) : Prop where
  eq : i = q ^ k * u
  pos : 0 < u
theorem Cnt.step {q i k u : Nat} (h : Cnt q i k u) (hq : 2 ≤ q) (hz : u % q = 0) : Cnt q i (k + 1) (u / q) ∧ u / q < u := by
  obtain ⟨c, rfl⟩ := Nat.dvd_of_mod_eq_zero hz
  have hp := h.pos
  have hc : 0 < c := Nat.pos_of_ne_zero fun e => by subst e; simp at hp
  have hd : q * c / q = c := Nat.mul_div_cancel_left _ (by omega)
  rw [hd]
  refine ⟨⟨by rw [h.eq, Nat.pow_succ]; grind, hc⟩, ?_⟩
  have : 2 * c ≤ q * c := Nat.mul_le_mul_right _ hq
  omega
theorem Cnt.le {q i k u : Nat} (h : Cnt q i k u) (hq : 2 ≤ q) (hi : i ≤ 500) : k ≤ 8 ∧ u ≤ i := by
  have h1 : 2 ^ k ≤ q ^ k := Nat.pow_le_pow_left hq k
  have h2 : q ^ k ≤ i := by rw [h.eq]; exact Nat.le_mul_of_pos_right _ h.pos
  refine ⟨?_, by rw [h.eq]; exact Nat.le_mul_of_pos_left _ (Nat.pow_pos (by omega))⟩
  rcases Nat.lt_or_ge 8 k with h3 | h3
  · have : 2 ^ 9 ≤ 2 ^ k := Nat.pow_le_pow_right (by omega) h3
    omega
  · exact h3
theorem Cnt.one {q m k u : Nat} (h : Cnt q (q * m) k u) (hu : u % q ≠ 0) : 1 ≤ k := by
  rcases Nat.eq_zero_or_pos k with h0 | h0
  · subst h0
    have := h.eq
    rw [Nat.pow_zero, Nat.one_mul] at this
    exact absurd (by rw [← this]; exact Nat.mul_mod_right _ _) hu
  · exact h0
/-- A list that lies behind the first number of a row, and a code. -/
def Rd1 (B : Nat) (w : World) (v : Value) (n : Nat) (g : Nat → Int) : Prop :=
  (v = .slice none 0 0 ∧ n = 0) ∨ ∃ b cap, v = .slice (some ⟨b, 1, none⟩) n cap ∧ n ≤ cap ∧ cap ≤ maxLen ∧ b < B ∧ ∀ i, i < n → w.cell? ⟨b, 1 + i, none⟩ = some (.int .i64 (g i))

set_option maxRecDepth 100000 in
set_option maxHeartbeats 4000000 in
theorem l09Ideals_any (a b c d : Int) (n : Nat) (ND : Nat → List (Nat × Nat)) (w : World) (hND : Nds ND) (hF : isF a b c d = true) (h1 : 1 ≤ n) (h5 : n ≤ 500) :
    Calls Tryd.prog 78 #[.agg #[.int .i64 a, .int .i64 b, .int .i64 c, .int .i64 d], .int .i64 ((n : Int))] w fun e w' => ∃ v, e = .returned v ∧ Rd1 w'.heap.size w' v n (fun i => chl (fun p t => lcl (kdn a b c d p) t) 1 (ND (i + 1))) ∧ Below w.heap.size w w' := by
  have HK := hid (fun (q : Nat) (hq : prq (q : Int) = true) W => l05Kind_any a b c d q W hF hq)
  have HND := hid hND
  generalize hv : (fun (p t : Nat) => lcl (kdn a b c d p) t) = v
  have HV := hid (fun (p t : Nat) => (congrFun (congrFun hv p) t : lcl (kdn a b c d p) t = v p t))
  clear hv hND hF
  have A0 := (Bx.new w #[.int .i64 a, .int .i64 b, .int .i64 c, .int .i64 d] 25).alloc (.cells #[] 2)
  have U0 := gr_alloc (gr_alloc (Below.refl w.heap.size w) (.cells #[.int .i64 a, .int .i64 b, .int .i64 c, .int .i64 d] 25)) (.cells #[] 2)
  have O0 := owns_empty (w.alloc (.cells #[.int .i64 a, .int .i64 b, .int .i64 c, .int .i64 d] 25)) (w.heap.size + 1) 2 1 (by simp)
  go_enter Tryd.func78, Tryd.ntmps78
  go_wp2_with fail
  go_loopw [5, 6] (fun s5 s6 wr => ∃ i : Nat, i ≤ n + 1 ∧ s6 = .int .i64 ((i : Int)) ∧ wr.ownsRow (w.heap.size + 1) 2 1 s5 i ((one1 i).map (Value.int .i64)) ∧ Bx wr w.heap.size #[.int .i64 a, .int .i64 b, .int .i64 c, .int .i64 d] 25 ∧ Below w.heap.size w wr ∧ w.heap.size + 1 ≤ wr.heap.size) (fun _ s6 _ => (n + 1 - intOf s6).toNat)
  case atStart => exact ⟨0, by omega, rfl, by simpa [one1] using O0, A0, U0, by simp⟩
  case round =>
    obtain ⟨i, hi, rfl, hO, hA, hU, hs⟩ := hrel
    have HO := hid hO; have HA := hid hA; have HU := hid hU
    have hA0 := hA.lt
    clear hO hA hU O0 A0 U0
    by_cases hle : i ≤ n
    · have hleb : decide ((i : Int) ≤ (n : Int)) = true := by simp; omega
      go_wp2_with (at_builtin; refine app_i64 rfl _ _ rfl (w.heap.size + 1) rfl HO.out rfl (by omega) (by omega) ?_)
      intro v1 w1 O1 hg1
      have HO1 := hid (one_app O1)
      have HU1 := hid (gr_own (gr_alloc HU.out _) hg1 (fun j hj => by have := (HO.out.lt j hj).1; omega))
      have HA1 := hid ((HA.out.alloc (.cells #[.int .i64 1] 2)).grown hg1 (fun j hj => by have := (HO.out.lt j hj).1; omega))
      have hs1 := hg1.size
      simp only [World.size_alloc] at hs1
      clear O1 hg1
      go_wp2_with fail
      go_roundw
      case rel => exact ⟨i + 1, by omega, by go_num, HO1.out, HA1.out, HU1.out, by omega⟩
      case measure => simp [intOf]; omega
    · have hleb : decide ((i : Int) ≤ (n : Int)) = false := by simp; omega
      have e : i = n + 1 := by omega
      subst e
      have hleb2 : decide ((n : Int) + 1 ≤ (n : Int)) = false := decide_eq_false (by omega)
      have hVv := OwnV.of_owns (L := one1 (n + 1)) (by rw [show (one1 (n + 1)).length = n + 1 by simp [one1]]; exact HO.out)
      rcases hVv with ⟨_, h0⟩ | ⟨g, cap, rfl, hgB, hg, hcl, hcm, hcell⟩
      · simp [one1] at h0
      have hl1 : (one1 (n + 1)).length = n + 1 := by simp [one1]
      rw [hl1] at hcl hcell ⊢
      have HC := hid (show Cl wr g (n + 1) (wvl v ND 2) from ⟨hg, fun i hi => by
        obtain ⟨p, q⟩ := hcell i hi
        dsimp only at p
        rw [one_get hi] at p
        rw [wvl_2 HND.out]
        exact ⟨p, q⟩⟩)
      have hcm' := hcm
      unfold maxLen at hcm
      clear hcell HO hl1
      go_wp2_with fail
      go_loopw [7] (fun s7 wo => ∃ q : Nat, 2 ≤ q ∧ q ≤ n + 1 ∧ s7 = .int .i64 ((q : Int)) ∧ Cl wo g (n + 1) (wvl v ND q) ∧ Bx wo w.heap.size #[.int .i64 a, .int .i64 b, .int .i64 c, .int .i64 d] 25 ∧ Below w.heap.size w wo) (fun s7 _ => (n + 2 - intOf s7).toNat)
      case atStart => exact ⟨2, by omega, by omega, rfl, HC.out, HA.out, HU.out⟩
      case round =>
        obtain ⟨q, hq2, hqn, rfl, hC, hA, hU⟩ := hrel
        obtain ⟨wo, hwo⟩ : ∃ wo, wo = wr := ⟨_, rfl⟩
        subst hwo
        have HCo := hid hC; have HAo := hid hA; have HUo := hid hU
        have hgo := hC.1
        clear hC hA hU HC HA HU
        by_cases hq : q ≤ n
        · have hqb : decide ((q : Int) ≤ (n : Int)) = true := by simp; omega
          cases hpq : prq (q : Int) with
          | false =>
            have HNP : Hid (¬ Prm q) := hid (fun h => by
              rw [prm_prq9 h (by omega)] at hpq
              cases hpq)
            go_wp2_with fail
            refine (l09Prime_any q _ hq2 (by omega)).mono ?_
            rintro e w1 ⟨rfl, rfl⟩
            go_wp2_with fail
            go_roundw
            case rel =>
              (repeat apply Exists.intro)
              exact ⟨⟨q + 1, by omega, by omega, by go_num, HCo.out.congr (fun j _ => (wvl_np HND.out HNP.out j).symm), HAo.out, HUo.out⟩, rfl⟩
            case measure => simp [intOf]; omega
          | true =>
            have HPR : Hid (Prm q) := hid ⟨hq2, fun j a b e => prq_div hpq j a (by omega) (by exact_mod_cast e)⟩
            have HK1 := hid (fun W => HK.out q hpq W)
            obtain ⟨_, c0, c1, c2, c3, _⟩ := HAo.out.arr4
            go_wp2_with fail
            refine (l09Prime_any q _ hq2 (by omega)).mono ?_
            rintro e w1 ⟨rfl, rfl⟩
            have HVq := hid (fun t => HV.out q t)
            generalize kdn a b c d (q : Int) = kd at HK1 HVq
            go_wp2_with fail
            refine (HK1.out _).mono ?_
            rintro e w2 ⟨rfl, hb2⟩
            clear hpq
            go_wp2_with fail
            refine (l09Local_any kd _).mono ?_
            rintro e w3 ⟨lv, rfl, hlv, hb3⟩
            have hz2 := hb2.size
            have HC3 := hid ((HCo.out.below hb2).below hb3)
            have HA3 := hid ((HAo.out.next hb2).next hb3)
            have HU3 := hid (gr_trans (gr_trans HUo.out hb2) hb3)
            have hR3 := hlv.rdn (g := g) (.inl (by omega))
            obtain ⟨va, lcap, rfl⟩ := hR3.form
            have HR3 := hid hR3
            clear hlv hR3 c0 c1 c2 c3 HK1 HCo HAo HUo hb2 hb3 hgo
            go_wp2_with fail
            go_loopw [9] (fun s9 wi => ∃ i m : Nat, s9 = .int .i64 ((i : Int)) ∧ Hid (i = q * m) ∧ 1 ≤ m ∧ 1 ≤ i ∧ i ≤ n + q ∧ Cl wi g (n + 1) (wvr v ND q i) ∧ RdN g wi (.slice va 10 lcap) 10 (fun t => lcl kd t) ∧ Bx wi w.heap.size #[.int .i64 a, .int .i64 b, .int .i64 c, .int .i64 d] 25 ∧ Below w.heap.size w wi) (fun s9 _ => (n + q + 1 - intOf s9).toNat)
            case atStart => exact ⟨q, 1, rfl, hid (by omega), by omega, by omega, by omega, HC3.out.congr (fun j _ => (wvr_start j).symm), HR3.out, HA3.out, HU3.out⟩
            case round =>
              obtain ⟨i, m, rfl, him, hm1, hi1, hin, hC, hR, hA, hU⟩ := hrel
              obtain ⟨wi, hwi⟩ : ∃ wi, wi = wr := ⟨_, rfl⟩
              subst hwi
              have HIM : Hid (i = q * m) := him
              have HCi := hid hC; have HRi := hid hR; have HAi := hid hA; have HUi := hid hU
              have hgi := hC.1
              have hUs := hU.size
              clear hC hR hA hU him HC3 HR3 HA3 HU3
              by_cases hle : i ≤ n
              · have hleb : decide ((i : Int) ≤ (n : Int)) = true := by simp; omega
                have HCN0 : Hid (Cnt q i 0 i) := hid ⟨by simp, by omega⟩
                go_wp2_with fail
                go_loop [10, 11] (fun s10 s11 => ∃ k u : Nat, s10 = .int .i64 ((k : Int)) ∧ s11 = .int .i64 ((u : Int)) ∧ Cnt q i k u) (fun _ s11 => (intOf s11).toNat)
                case atStart => exact ⟨0, i, rfl, rfl, HCN0.out⟩
                case round =>
                  obtain ⟨k, u, rfl, rfl, hCN⟩ := hrel
                  obtain ⟨hk8, hui⟩ := hCN.le hq2 (by omega)
                  have HCN := hid hCN
                  have hu0 := hCN.pos
                  clear hCN HCN0
                  by_cases hz : u % q = 0
                  · have hz' : ((u : Int) % (q : Int) == 0) = true := by simp; omega
                    obtain ⟨h3, h4⟩ := HCN.out.step hq2 hz
                    have HCN2 := hid h3
                    have hd2 : u / q ≤ 500 := by omega
                    have hd0 : 0 ≤ (u : Int) / (q : Int) := by rw [← Int.natCast_ediv]; exact Int.natCast_nonneg _
                    have hd1 : (u : Int) / (q : Int) ≤ 500 := Int.le_trans (Int.ediv_le_self _ (by omega)) (by omega)
                    clear hz h3
                    go_wp2_with fail
                    go_round
                    case rel => exact ⟨k + 1, u / q, by go_num, by first | rfl | go_num, HCN2.out⟩
                    case measure => simp [intOf]; omega
                  · have hz' : ((u : Int) % (q : Int) == 0) = false := by simp; omega
                    have hk1 : 1 ≤ k := (show Cnt q (q * m) k u from HIM.out ▸ HCN.out).one hz
                    have HST := hid (wvl_d (v := v) HND.out HPR.out hi1 HCN.out.eq hz hk1)
                    rcases HRi.out with ⟨_, h0⟩ | ⟨lb, cap', e', r1, r2, r3, r4, hlc⟩
                    · omega
                    · cases e'
                      have y0 : wi.cell? ⟨lb, k, none⟩ = some (.int .i64 (lcl kd k)) := hlc k (by omega)
                      rw [HVq.out k] at y0
                      obtain ⟨y1, y2⟩ := HCi.out.2 i (by omega)
                      rw [wvr_at] at y1
                      have HS1 := hid (HCi.out.set (i := i) (by omega) (mu (wvl v ND q i) (v q k)))
                      have HNX := hid (fun j => wvr_next (v := v) (ND := ND) hq2 hm1 j)
                      generalize hx : wvl v ND q i = x at y1 HS1 HST
                      generalize v q k = y at y0 HS1 HST
                      unfold maxLen at r2
                      clear hx hlc hz
                      have y1d : wi.drew.cell? ⟨g, i, none⟩ = some (.int .i64 x) := y1
                      have y2d : wi.drew.frozen? ⟨g, i, none⟩ = false := y2
                      have hib : (i : Int) < (n : Int) + 1 := by omega
                      have hkb : (k : Int) < 10 := by omega
                      go_upto_region 19 with fail
                      go_still_tail 11, (by kernel_rfl)
                      go_wp2_with fail
                      go_roundw
                      case rel =>
                        refine ⟨i + q, m + 1, by go_num, hid (by rw [Nat.mul_add, Nat.mul_one, ← HIM.out]), by omega, by omega, by omega, ?_, (HRi.out.set i _).next (gr_drew (Below.refl _ _)), (HAi.out.away (by omega) i _).drew, gr_drew (gr_set HUi.out (by show w.heap.size ≤ g; omega) _)⟩
                        have h5 : Cl (wi.setCell ⟨g, i, none⟩ (.int .i64 (mu x y))).drew g (n + 1) _ := HS1.out
                        refine h5.congr fun j hj => ?_
                        have h6 := HNX.out j
                        rw [← HIM.out] at h6
                        rw [h6]
                        by_cases ej : j = i
                        · subst ej
                          rw [if_pos rfl, if_pos rfl, HST.out]
                        · rw [if_neg ej, if_neg ej]
                      case measure => simp [intOf]; omega
              · have hleb : decide ((i : Int) ≤ (n : Int)) = false := by simp; omega
                go_wp2_with fail
                go_roundw
                case rel =>
                  (repeat apply Exists.intro)
                  exact ⟨⟨q + 1, by omega, by omega, by go_num, HCi.out.congr (fun j hj => wvr_end (i := i) (n := n) HND.out (by omega) (by omega)), HAi.out, HUi.out⟩, rfl⟩
                case measure => simp [intOf]; omega
        · have hqb : decide ((q : Int) ≤ (n : Int)) = false := by simp; omega
          have e : q = n + 1 := by omega
          subst e
          have hc1 : ¬ cap = 1 := by omega
          have hgB := HCo.out.1
          go_wp2_with fail
          go_ret
          refine ⟨_, rfl, .inr ⟨g, cap - 1, ?_, by omega, by unfold maxLen; omega, hgB, fun i hi => ?_⟩, HUo.out⟩
          · rfl
          · show wo.cell? _ = some (.int .i64 (chl v 1 (ND (i + 1))))
            rw [← wvl_all HND.out (v := v) (n := n) (j := i + 1) (by omega) (by omega), Nat.add_comm 1 i]
            exact (HCo.out.2 (i + 1) (by omega)).1


end Go.Proofs.YtihcmgjfkiaelaaDoor
