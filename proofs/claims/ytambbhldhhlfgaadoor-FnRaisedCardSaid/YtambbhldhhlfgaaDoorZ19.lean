/- Several texts in one: XRq, XRs. -/
import Derived.Test.YtambbhldhhlfgaaDoorZ18
import Derived.Test.YtambbhldhhlfgaaDoorZ8
import Derived.Test.YtambbhldhhlfgaaDoorZ17

/- Chapter 5: RootsModulo, CountRoots. -/
namespace Go.Proofs.YtambbhldhhlfgaaDoor
open Go.RowKit

theorem RwX.intro {B : Nat} {w : World} {v : Value} {s : Nat} {R : List (List Int)} {T : List Nat} (h : Rwb B w v s R T) : RwX B w v s R := ⟨T, h⟩
theorem RwX.if0 {B : Nat} {w : World} {v : Value} {s : Nat} {R : List (List Int)} (h : RwX B w v s R) : RwX B w v s (if (0 : Int) = 0 then R else []) := by rw [if_pos rfl]; exact h
theorem owns_keep2 {w w' : World} {o o' : Obj} {B B' : Nat} {t t' : TypeId} {s s' : Nat} {v v' : Value} {n n' : Nat} {xs xs' : List Value} (h : w.ownsRow B t s v n xs) (h' : w.ownsRow B' t' s' v' n' xs') (ht : t ≠ t') (hg : ((w.alloc o).alloc o').grownBy w' v'.ownBlock) : w'.ownsRow B t s v n xs :=
  ((h.alloc o).alloc o').kept hg (owns_apart ((h.alloc o).alloc o') ((h'.alloc o).alloc o') ht)
theorem places_p (a b c d p : Int) (w : World) (h2 : 2 ≤ p) (h97 : p ≤ 499) : Calls Tryd.prog 186 #[.agg #[.int .i64 a, .int .i64 b, .int .i64 c, .int .i64 d], .int .i64 p] w (PlOut (ptm p) w) := by
  have H := hid (fun W => pointsModulo_any p W h2 h97)
  generalize ptm p = P at H ⊢
  have hp : (p == 0) = false := by simp; omega
  have U0 := gr_alloc (Below.refl w.heap.size w) (.cells #[.int .i64 a, .int .i64 b, .int .i64 c, .int .i64 d] 25)
  go_enter Tryd.func186, Tryd.ntmps186
  go_wp2_with fail
  refine (H.out _).mono ?_
  rintro e w1 ⟨v, rfl, hO, hb⟩
  go_wp2_with fail
  go_ret
  exact ⟨v, rfl, owns_mono hO U0.size, gr_trans U0 hb⟩
theorem stp_p {a b c d p : Int} (h2 : 2 ≤ p) (h97 : p ≤ 499) (ha : -1000 ≤ a ∧ a ≤ 1000) (hb : -1000 ≤ b ∧ b ≤ 1000) (hc : -1000 ≤ c ∧ c ≤ 1000) (hd : -1000 ≤ d ∧ d ≤ 1000) (hN : mul0 (cnt a b c d) p = false) : ∀ k, (h : k < (ptm p).length) → stp p (ptm p)[k].1 (ptm p)[k].2 4 [a, b, c, d] = true := by
  intro k h
  obtain ⟨n, rfl⟩ : ∃ n : Nat, p = n := ⟨p.toNat, by omega⟩
  have hl := ptm_len n
  by_cases hk : k < n
  · rw [ptm_k hk h]; exact (mlt_1 ha hb hc hd (by omega) hN).2
  · have e : k = n := by omega
    subst e
    rw [ptm_e h]; exact (mlt_0 ha hb hc hd hN).2
/-- The roots modulo a prime. -/
def rtp (a b c d p : Int) : List (Int × Int × Int) := rts p [a, b, c, d] (ptm p)
theorem rtp_len {a b c d p : Int} (h : p ≤ 499) : (rtp a b c d p).length ≤ 500 := by
  unfold rtp; rw [← rtK_e]; have := rtK_len p [a, b, c, d] (ptm p) (ptm p).length; rw [ptm_len] at *; omega
theorem roe_p (a b c d p : Int) (w : World) (h2 : 2 ≤ p) (h97 : p ≤ 499) (hF : isF a b c d = true) (hN : mul0 (cnt a b c d) p = false) :
    Calls Tryd.prog 94 #[.agg #[.int .i64 a, .int .i64 b, .int .i64 c, .int .i64 d], .int .i64 p] w (RtOk (rtp a b c d p).length ((rtp a b c d p).flatMap tr3) w) := by
  obtain ⟨ha, hb, hc, hd⟩ := isF_t hF
  exact rootsOrError_ok a b c d p (ptm p) w (by omega) h97 ha hb hc hd (fun W => places_p a b c d p W h2 h97) (by rw [ptm_len]; omega) (by rw [ptm_len]; omega) hN (stp_p h2 h97 ha hb hc hd hN)
theorem roe_n (a b c d p : Int) (pv : Value) (w : World) (hg : Sen w pv) (h2 : 2 ≤ p) (h97 : p ≤ 499) (hF : isF a b c d = true) (hN : mul0 (cnt a b c d) p = true) :
    Calls Tryd.prog 94 #[.agg #[.int .i64 a, .int .i64 b, .int .i64 c, .int .i64 d], .int .i64 p] w fun e w' => e = .returned (.tuple #[.slice none 0 0, .iface 191 pv]) ∧ Below w.heap.size w w' := by
  obtain ⟨ha, hb, hc, hd⟩ := isF_t hF
  exact rootsOrError_err a b c d p pv w hg (by omega) h97 ha hb hc hd hN
theorem ne_nilI (w : World) : (binOp .neq 97 .nilIface .nilIface).run Tryd.prog w = .ok (.bool false) w := by kernel_rfl
theorem ne_errI (pv : Value) (w : World) : (binOp .neq 97 (.iface 191 pv) .nilIface).run Tryd.prog w = .ok (.bool true) w := by kernel_rfl
/-- The code of RootsModulo. -/
def rmc (a b c d p : Int) : Int := if fpc a b c d p = 0 then (if mul0 (cnt a b c d) p then 5 else 0) else fpc a b c d p
theorem rmc_n {a b c d p : Int} (h : fpc a b c d p ≠ 0) : rmc a b c d p = fpc a b c d p := by simp [rmc, h]
theorem rmc_5 {a b c d p : Int} (h : fpc a b c d p = 0) (hN : mul0 (cnt a b c d) p = true) : rmc a b c d p = 5 := by simp [rmc, h, hN]
theorem rmc_0 {a b c d p : Int} (h : fpc a b c d p = 0) (hN : mul0 (cnt a b c d) p = false) : rmc a b c d p = 0 := by simp [rmc, h, hN]
theorem rtp_le (a b c d p : Int) : (if rmc a b c d p = 0 then (rtp a b c d p).map rw3 else []).length ≤ 10000000 := by
  split
  · rename_i h
    have h0 : fpc a b c d p = 0 := by
      by_cases h0 : fpc a b c d p = 0
      · exact h0
      · rw [rmc_n h0] at h; exact h
    have := rtp_len (a := a) (b := b) (c := c) (d := d) (prq_rng (prm_prq (fpc_0.1 h0).2)).2
    rw [List.length_map]; omega
  · exact Nat.zero_le _
/-- A list of rows that the call laid, and a code. -/
def RwOutC (s : Nat) (R : List (List Int)) (code : Int) (w : World) (e : Ending) (w' : World) : Prop := ∃ v, e = .returned (.tuple #[v, .int .i64 code]) ∧ RwX w.heap.size w' v s (if code = 0 then R else []) ∧ Below w.heap.size w w'

set_option maxRecDepth 100000 in
set_option maxHeartbeats 4000000 in
theorem iRootsModulo_any (a b c d p : Int) (pv : Value) (w : World) (hg : Sen w pv) : Calls Tryd.prog 61 #[.agg #[.int .i64 a, .int .i64 b, .int .i64 c, .int .i64 d], .int .i64 p] w (RwOutC 3 ((rtp a b c d p).map rw3) (rmc a b c d p) w) := by
  have hc0 := fun W => iCheckFP_any a b c d p W
  have hk : fpc a b c d p = 0 → isF a b c d = true ∧ prm p = true := fpc_0.1
  have hn := @rmc_n a b c d p
  have h5 := @rmc_5 a b c d p
  have h0 := @rmc_0 a b c d p
  generalize fpc a b c d p = k at hc0 hk hn h5 h0
  have HC := hid hc0; have HK := hid hk; have HN := hid hn; have H5 := hid h5; have H0 := hid h0
  clear hc0 hk hn h5 h0
  have U0 := gr_alloc (Below.refl w.heap.size w) (.cells #[.int .i64 a, .int .i64 b, .int .i64 c, .int .i64 d] 25)
  have G0 := hg.alloc (.cells #[.int .i64 a, .int .i64 b, .int .i64 c, .int .i64 d] 25)
  have q1 := ne_nilI
  have q2 := ne_errI pv
  go_enter Tryd.func61, Tryd.ntmps61
  go_wp2_with fail
  refine (HC.out _).mono ?_
  rintro e w1 ⟨rfl, hb1⟩
  obtain ⟨_, c0, c1, c2, c3, _⟩ := (Arr.new w a b c d 25).next hb1
  have U1 := gr_trans U0 hb1
  have G1 := G0.next hb1
  by_cases hk0 : k = 0
  · subst hk0
    obtain ⟨hF, hp⟩ := HK.out rfl
    obtain ⟨h2, h97⟩ := prq_rng (prm_prq hp)
    cases hN : mul0 (cnt a b c d) p with
    | true =>
      have HE := hid (H5.out rfl hN)
      have HR := hid (fun W hg => roe_n a b c d p pv W hg h2 h97 hF hN)
      clear hN hF hp
      go_wp2_with fail
      refine (HR.out _ G1).mono ?_
      rintro e w2 ⟨rfl, hb2⟩
      go_wp2_with fail
      go_ret2
      rw [HE.out]
      exact ⟨_, rfl, RwX.nil _ _ _, gr_trans U1 hb2⟩
    | false =>
      have HE := hid (H0.out rfl hN)
      have HR := hid (fun W => roe_p a b c d p W h2 h97 hF hN)
      have hl := rtp_len (a := a) (b := b) (c := c) (d := d) h97
      clear hN hF hp
      generalize hRR : rtp a b c d p = RR at HR hl
      have HRR := hid hRR
      clear hRR
      obtain ⟨i0, hi, hi0, hi1, hi2⟩ := info_parts info_sl5
      have HI := hid hi; have HZ0 := hid hi0; have HZ1 := hid hi1; have HZ2 := hid hi2
      clear hi hi0 hi1 hi2
      go_wp2_with fail
      refine (HR.out _).mono ?_
      rintro e w2 ⟨v, rfl, hO, hb2⟩
      have U2 := gr_trans U1 hb2
      have HO := hid (owns_mono hO U1.size)
      have R2 := RwX.nil w.heap.size w2 3
      have hf := hO
      have hform : ∃ va cap, v = .slice va RR.length cap := by
        rcases hO.2 with ⟨rfl, h⟩ | ⟨g, cap, cur, rfl, _⟩
        · exact ⟨none, 0, by rw [h]⟩
        · exact ⟨_, cap, rfl⟩
      obtain ⟨va, cap, rfl⟩ := hform
      clear c0 c1 c2 c3 hO hf U0 U1 G0 G1
      go_wp2_with fail
      go_loopw [9, 28] (fun s9 s28 wr => ∃ k : Nat, k ≤ RR.length ∧ s28 = .int .i64 ((k : Int)) ∧ RwX w.heap.size wr s9 3 ((RR.take k).map rw3) ∧ wr.ownsRow w.heap.size 138 3 (.slice va RR.length cap) RR.length (RR.flatMap tr3) ∧ Below w.heap.size w wr) (fun _ s28 _ => RR.length - (intOf s28).toNat)
      case atStart => exact ⟨0, Nat.zero_le _, rfl, R2, HO.out, U2⟩
      case round =>
        obtain ⟨k, hk, rfl, ⟨T, hT⟩, hO, hU⟩ := hrel
        have HT := hid hT; have HP := hid hO; have HU := hid hU
        have hsz := hU.size
        clear hT hU U2 R2
        by_cases hlt : k < RR.length
        · obtain ⟨g, cap', e', _, hg', _, hcm, hcell⟩ := owns_formS hO (by omega)
          cases e'
          have x0 := hcell (k * 3 + 0) _ ((flat_get tr3 3 (fun _ => rfl) RR k 0 hlt (by omega)).trans rfl)
          have x1 := hcell (k * 3 + 1) _ ((flat_get tr3 3 (fun _ => rfl) RR k 1 hlt (by omega)).trans rfl)
          have x2 := hcell (k * 3 + 2) _ ((flat_get tr3 3 (fun _ => rfl) RR k 2 hlt (by omega)).trans rfl)
          simp only [Nat.add_zero] at x0
          have HE1 := hid (show (RR.take (k + 1)).map rw3 = (RR.take k).map rw3 ++ [rw3 RR[k]] by rw [List.take_succ_eq_append_getElem hlt, List.map_append]; rfl)
          have hlm : ((RR.take k).map rw3).length ≤ 500 := by rw [List.length_map, List.length_take]; omega
          generalize RR[k] = r at x0 x1 x2 HE1
          obtain ⟨x, y, t⟩ := r
          simp only at x0 x1 x2
          unfold maxLen at hcm
          clear hcell hO
          generalize (RR.take k).map rw3 = Rk at HT HE1 hlm
          have HT1 := hid (HT.out.next ((Below.refl _ wr).alloc (Nat.le_refl _) (.cells #[.int .i64 x, .int .i64 y, .int .i64 t] 138)))
          go_wp2_with (at_builtin; refine wpList_append_own _ rfl _ _ 71 rfl w.heap.size 32 i0 (.slice none 0 0) 1 24 Tryd.underlying71 HI.out HZ0.out HZ1.out HZ2.out rfl (by decide) _ _ _ rfl ((HT1.out.own.alloc _).alloc _) ⟨wr.heap.size + 1 + 1, 0, none⟩ 1 1 [.slice (some ⟨wr.heap.size + 1, 0, none⟩) 3 3] rfl rfl ?a1 ?b1 ?c1 ?d1 ?e1 ?_)
          case a1 =>
            intro j u hj
            match j, hj with
            | 0, hj => simp at hj; subst hj; simp [Addr.add, go_sem]
          case b1 => first | (intro u hu; simp at hu; subst hu; rfl) | rfl | simp [Value.oneCell']
          case c1 => unfold maxLen; omega
          case d1 => omega
          case e1 => first | omega | (simp; omega)
          intro y1 W1 O1 hg1 _
          have HX := hid (HT1.out.app (r := [x, y, t]) rfl (by simp; omega) hg1 (by simpa using O1))
          have HP2 := hid (owns_keep2 (HP.out.alloc (.cells #[.int .i64 x, .int .i64 y, .int .i64 t] 138)) HT1.out.own (by decide) hg1)
          have HU2 := hid (gr_own (gr_alloc (gr_alloc (gr_alloc HU.out _) _) _) hg1 (fun j hj => (HT1.out.own.lt j hj).1))
          clear O1 hg1
          go_wp2_with fail
          go_roundw
          case rel => exact ⟨k + 1, by omega, by go_num, by rw [HE1.out]; exact ⟨_, HX.out⟩, HP2.out, HU2.out⟩
          case measure => simp [intOf]; omega
        · have e : k = RR.length := by omega
          subst e
          have HE1 := hid (show RR.take RR.length = RR from List.take_length)
          clear hO
          go_wp2_with fail
          go_ret2
          rw [HE.out, HRR.out]
          have := HT.out
          rw [HE1.out] at this
          have HX := RwX.intro this
          refine ⟨_, ?_, HX.if0, HU.out⟩
          rfl
  · have HE := hid (HN.out hk0)
    have hk' : (k == 0) = false := by simpa using hk0
    have HK0 := hid hk0
    clear hk0
    go_wp2_with fail
    go_ret2
    rw [HE.out]
    exact ⟨_, rfl, by rw [if_neg HK0.out]; exact RwX.nil _ _ _, U1⟩

set_option maxRecDepth 100000 in
set_option maxHeartbeats 4000000 in
theorem sRootsModulo_any (a b c d p : Int) (w : World) : Calls Tryd.prog 69 #[.agg #[.int .i64 a, .int .i64 b, .int .i64 c, .int .i64 d], .int .i64 p] w (RwOutC 3 ((rtp a b c d p).map rw3) (rmc a b c d p) w) := by
  have hc0 := fun W => l05Code_any a b c d p W
  have hk : fpc a b c d p = 0 → isF a b c d = true ∧ prm p = true := fpc_0.1
  have hn := @rmc_n a b c d p
  have h5 := @rmc_5 a b c d p
  have h0 := @rmc_0 a b c d p
  generalize fpc a b c d p = k at hc0 hk hn h5 h0
  have HC := hid hc0; have HK := hid hk; have HN := hid hn; have H5 := hid h5; have H0 := hid h0
  clear hc0 hk hn h5 h0
  have U0 := gr_alloc (Below.refl w.heap.size w) (.cells #[.int .i64 a, .int .i64 b, .int .i64 c, .int .i64 d] 25)
  go_enter Tryd.func69, Tryd.ntmps69
  go_wp2_with fail
  refine (HC.out _).mono ?_
  rintro e w1 ⟨rfl, hb1⟩
  have A1 := (Arr.new w a b c d 25).next hb1
  obtain ⟨_, c0, c1, c2, c3, _⟩ := id A1
  have U1 := gr_trans U0 hb1
  by_cases hk0 : k = 0
  · subst hk0
    obtain ⟨hF, hp⟩ := HK.out rfl
    obtain ⟨h2, h97⟩ := prq_rng (prm_prq hp)
    have HU := hid (fun W => l05Null_any a b c d p W h2 h97)
    obtain ⟨ha, hb, hc, hd⟩ := isF_t hF
    have HR := hid (fun hN W => l05Roots_any a b c d p W h2 h97 ha hb hc hd hN)
    have H50 := hid (H5.out rfl); have H00 := hid (H0.out rfl)
    clear hF hp ha hb hc hd
    go_wp2_with fail
    refine (HU.out _).mono ?_
    rintro e w2 ⟨rfl, hb2⟩
    have U2 := gr_trans U1 hb2
    have A2 := A1.next hb2
    clear c0 c1 c2 c3
    obtain ⟨_, c0, c1, c2, c3, _⟩ := id A2
    cases hN : mul0 (cnt a b c d) p with
    | true =>
      have HE := hid (H50.out hN)
      go_wp2_with fail
      go_ret2
      rw [HE.out]
      exact ⟨_, rfl, RwX.nil _ _ _, U2⟩
    | false =>
      have HE := hid (H00.out hN)
      have HR1 := hid (HR.out hN)
      go_wp2_with fail
      refine (HR1.out _).mono ?_
      rintro e w3 ⟨v, rfl, hX, hb3⟩
      go_wp2_with fail
      go_ret2
      rw [HE.out]
      exact ⟨_, rfl, hX.base U2.size, gr_trans U2 hb3⟩
  · have HE := hid (HN.out hk0)
    have hk' : (k == 0) = false := by simpa using hk0
    have HK0 := hid hk0
    clear hk0
    go_wp2_with fail
    go_ret2
    rw [HE.out]
    exact ⟨_, rfl, by rw [if_neg HK0.out]; exact RwX.nil _ _ _, U1⟩


end Go.Proofs.YtambbhldhhlfgaaDoor

/- Chapter 5: kinds, both sides' the same: there are no two roots of a multiplicity greater than 1. Mathematics; no Go function in sight. -/
namespace Go.Proofs.YtambbhldhhlfgaaDoor
open Go.RowKit

theorem prq_dvd_mul {p x y : Int} (hp : prq p = true) (h : p ∣ x * y) : p ∣ x ∨ p ∣ y := by
  obtain ⟨h2, h97⟩ := prq_rng hp
  by_cases hx : p ∣ x
  · exact .inl hx
  · right
    have hg : Int.gcd p x = 1 := by
      have hd : ((Int.gcd p x : Nat) : Int) ∣ p := Int.gcd_dvd_left ..
      have hdx : ((Int.gcd p x : Nat) : Int) ∣ x := Int.gcd_dvd_right ..
      by_cases h1 : Int.gcd p x = 1
      · exact h1
      · exfalso
        have hpos : 0 < Int.gcd p x := Int.gcd_pos_of_ne_zero_left _ (by omega)
        have hle := Int.le_of_dvd (by omega) hd
        by_cases he : ((Int.gcd p x : Nat) : Int) = p
        · rw [he] at hdx; exact hx hdx
        · exact prq_div hp (Int.gcd p x) (by omega) (by omega) (Int.emod_eq_zero_of_dvd hd)
    have hc : Nat.Coprime p.natAbs x.natAbs := hg
    have hn : p.natAbs ∣ x.natAbs * y.natAbs := by rw [← Int.natAbs_mul]; exact Int.natAbs_dvd_natAbs.2 h
    exact Int.natAbs_dvd_natAbs.1 (hc.dvd_of_dvd_mul_left hn)
theorem prm_dvd_mul {p x y : Int} (hp : prm p = true) (h : p ∣ x * y) : p ∣ x ∨ p ∣ y := prq_dvd_mul (prm_prq hp) h
theorem mm3_2 {p u v t : Int} (h : 2 ≤ mm3 p u v t) : p ∣ t ∧ p ∣ v := by
  unfold mm3 at h
  by_cases h1 : p ∣ t
  · by_cases h2 : p ∣ v
    · exact ⟨h1, h2⟩
    · simp [h1, h2] at h
  · simp [h1] at h
theorem mm3_le (p u v t : Int) : mm3 p u v t ≤ 3 := by
  unfold mm3
  split
  · omega
  · split
    · omega
    · split <;> omega
/-- Two double roots, at x and x + h: all numbers are multiples. -/
theorem two_fin {p a b c d x h : Int} (hp : prq p = true) (hh : ¬ p ∣ h) (t1 : p ∣ g3 a b c d x) (v1 : p ∣ g2 a b c x) (t2 : p ∣ g3 a b c d (x + h)) (v2 : p ∣ g2 a b c (x + h)) : p ∣ a ∧ p ∣ b ∧ p ∣ c ∧ p ∣ d := by
  have e1 : g3 a b c d (x + h) - (g3 a b c d x + h * g2 a b c x) = h * (h * (g1 a b x + a * h)) := by unfold g3 g2 g1; grind
  have e2 : g2 a b c (x + h) - g2 a b c x = h * (2 * g1 a b x + 3 * (a * h)) := by unfold g2 g1; grind
  have d1 : p ∣ h * (h * (g1 a b x + a * h)) := by rw [← e1]; exact Int.dvd_sub t2 (Int.dvd_add t1 (Int.dvd_mul_of_dvd_right v1))
  have d2 : p ∣ h * (2 * g1 a b x + 3 * (a * h)) := by rw [← e2]; exact Int.dvd_sub v2 v1
  have q1 : p ∣ g1 a b x + a * h := by
    rcases prq_dvd_mul hp d1 with q | q
    · exact absurd q hh
    · rcases prq_dvd_mul hp q with q | q
      · exact absurd q hh
      · exact q
  have q2 : p ∣ 2 * g1 a b x + 3 * (a * h) := (prq_dvd_mul hp d2).resolve_left hh
  have q3 : p ∣ a * h := by
    have e : a * h = (2 * g1 a b x + 3 * (a * h)) - 2 * (g1 a b x + a * h) := by grind
    rw [e]; exact Int.dvd_sub q2 (Int.dvd_mul_of_dvd_right q1)
  have qa : p ∣ a := (prq_dvd_mul hp q3).resolve_right hh
  have q4 : p ∣ g1 a b x := by
    have e : g1 a b x = (g1 a b x + a * h) - a * h := by grind
    rw [e]; exact Int.dvd_sub q1 q3
  exact g_null t1 v1 q4 qa
theorem two_inf {p a b c d x : Int} (ta : p ∣ a) (vb : p ∣ b) (t : p ∣ g3 a b c d x) (v : p ∣ g2 a b c x) : p ∣ a ∧ p ∣ b ∧ p ∣ c ∧ p ∣ d :=
  g_null t v (by unfold g1; exact Int.dvd_add (Int.dvd_mul_of_dvd_left (Int.dvd_mul_of_dvd_right ta)) vb) ta
theorem nd_lt {p k j : Nat} (hj : j < p) (hkj : k < j) : ¬ (p : Int) ∣ ((j : Int) - k) := fun h => by
  have := Int.le_of_dvd (by omega) h; omega
/-- The list of roots: multiplicities of at most 3; no two greater than 1. -/
theorem rtp_pw {a b c d p : Int} (hF : isF a b c d = true) (hp : prq p = true) (hN : mul0 (cnt a b c d) p = false) : (rtp a b c d p).Pairwise fun r r' => ¬ (1 < r.2.2 ∧ 1 < r'.2.2) := by
  obtain ⟨ha, hb, hc, hd⟩ := isF_t hF
  obtain ⟨h2, h97⟩ := prq_rng hp
  have hN' : ¬ (p ∣ a ∧ p ∣ b ∧ p ∣ c ∧ p ∣ d) := fun h => by
    rw [mul0_d] at hN; exact absurd (cnt_dvd.2 h) (by simpa using hN)
  have hr1 : ∀ (q : Int × Int) (r : Int × Int × Int), r ∈ rt1 p [a, b, c, d] q → 1 < r.2.2 → 2 ≤ mlt p q.1 q.2 4 [a, b, c, d] := by
    intro q r hr h1
    unfold rt1 at hr
    split at hr
    · simp at hr
    · simp at hr; subst hr; simp only at h1; omega
  unfold rtp rts
  rw [List.pairwise_flatMap]
  refine ⟨fun q _ => ?_, ?_⟩
  · unfold rt1; split <;> simp
  · rw [List.pairwise_iff_getElem]
    intro i j hi hj hij r hr r' hr' ⟨h1, h1'⟩
    have m1 := hr1 _ _ hr h1
    have m2 := hr1 _ _ hr' h1'
    obtain ⟨n, rfl⟩ : ∃ n : Nat, p = n := ⟨p.toNat, by omega⟩
    have hl := ptm_len n
    have hin : i < n := by omega
    rw [ptm_k hin hi] at m1
    simp only at m1
    rw [(mlt_1 ha hb hc hd (by omega) hN).1] at m1
    have q1 := mm3_2 (show 2 ≤ mm3 n (g1 a b i) (g2 a b c i) (g3 a b c d i) by simpa [mmu] using m1)
    by_cases hjn : j < n
    · rw [ptm_k hjn hj] at m2
      simp only at m2
      rw [(mlt_1 ha hb hc hd (by omega) hN).1] at m2
      have q2 := mm3_2 (show 2 ≤ mm3 n (g1 a b j) (g2 a b c j) (g3 a b c d j) by simpa [mmu] using m2)
      have e : (j : Int) = i + (j - i) := by omega
      rw [e] at q2
      exact hN' (two_fin hp (nd_lt hjn hij) q1.1 q1.2 q2.1 q2.2)
    · have e : j = n := by omega
      subst e
      rw [ptm_e hj] at m2
      simp only at m2
      rw [(mlt_0 ha hb hc hd hN).1] at m2
      have q2 := mm3_2 (show 2 ≤ mm3 j c b a by simpa [mmu] using m2)
      exact hN' (two_inf q2.1 q2.2 q1.1 q1.2)
theorem rtp_3 {a b c d p : Int} (hF : isF a b c d = true) (hp : prq p = true) (hN : mul0 (cnt a b c d) p = false) : ∀ r ∈ rtp a b c d p, 0 < r.2.2 ∧ r.2.2 ≤ 3 := by
  obtain ⟨ha, hb, hc, hd⟩ := isF_t hF
  obtain ⟨h2, h97⟩ := prq_rng hp
  intro r hr
  unfold rtp rts at hr
  obtain ⟨q, hq, hr⟩ := List.mem_flatMap.1 hr
  obtain ⟨i, hi, rfl⟩ := List.getElem_of_mem hq
  have hm : mlt p (ptm p)[i].1 (ptm p)[i].2 4 [a, b, c, d] ≤ 3 := by
    obtain ⟨n, rfl⟩ : ∃ n : Nat, p = n := ⟨p.toNat, by omega⟩
    have hl := ptm_len n
    by_cases hin : i < n
    · rw [ptm_k hin hi]
      simp only
      rw [(mlt_1 ha hb hc hd (by omega) hN).1]
      unfold mmu; split <;> exact mm3_le _ _ _ _
    · have e : i = n := by omega
      subst e
      rw [ptm_e hi]
      simp only
      rw [(mlt_0 ha hb hc hd hN).1]
      unfold mmu; split <;> exact mm3_le _ _ _ _
  unfold rt1 at hr
  split at hr
  · simp at hr
  · simp at hr; subst hr; simp only; omega

/-- The number of a kind, out of the roots: the program's way; the model's way. -/
def kdp (R : List (Int × Int × Int)) : Int := match R.find? (fun r => decide (1 < r.2.2)) with | some r => if r.2.2 = 2 then 4 else 5 | none => if R.length = 3 then 1 else if R.length = 1 then 2 else 3
def mxt (R : List (Int × Int × Int)) : Int := R.foldl (fun m r => max m r.2.2) 0
def kdm (R : List (Int × Int × Int)) : Int := if mxt R = 3 then 5 else if mxt R = 2 then 4 else if R.length = 3 then 1 else if R.length = 1 then 2 else 3
theorem mx_of : ∀ (R : List (Int × Int × Int)) (m B : Int), m ≤ B → (∀ r ∈ R, r.2.2 ≤ B) → R.foldl (fun m r => max m r.2.2) m ≤ B := by
  intro R
  induction R with
  | nil => intro m B hm _; exact hm
  | cons r R ih =>
    intro m B hm h
    refine ih _ B ?_ (fun x hx => h x (List.mem_cons_of_mem _ hx))
    have := h r List.mem_cons_self
    show max m r.2.2 ≤ B
    omega
theorem mx_ge : ∀ (R : List (Int × Int × Int)) (m : Int), m ≤ R.foldl (fun m r => max m r.2.2) m ∧ ∀ r ∈ R, r.2.2 ≤ R.foldl (fun m r => max m r.2.2) m := by
  intro R
  induction R with
  | nil => intro m; exact ⟨Int.le_refl _, fun r hr => by simp at hr⟩
  | cons r R ih =>
    intro m
    obtain ⟨i1, i2⟩ := ih (max m r.2.2)
    refine ⟨by simp only [List.foldl_cons]; omega, fun x hx => ?_⟩
    simp only [List.foldl_cons]
    rcases List.mem_cons.1 hx with rfl | hx
    · omega
    · exact i2 x hx
theorem kd_eq {R : List (Int × Int × Int)} (hp : R.Pairwise fun r r' => ¬ (1 < r.2.2 ∧ 1 < r'.2.2)) (h3 : ∀ r ∈ R, 0 < r.2.2 ∧ r.2.2 ≤ 3) : kdp R = kdm R := by
  unfold kdp
  cases hf : R.find? (fun r => decide (1 < r.2.2)) with
  | none =>
    have h1 : mxt R ≤ 1 := mx_of R 0 1 (by omega) fun r hr => by
      have := List.find?_eq_none.1 hf r hr; simp at this; exact this
    simp [kdm, show ¬ mxt R = 3 by omega, show ¬ mxt R = 2 by omega]
  | some r =>
    have hr : r ∈ R := List.mem_of_find?_eq_some hf
    have h1 : 1 < r.2.2 := by have := List.find?_some hf; simpa using this
    have hb := h3 r hr
    have hge := (mx_ge R 0).2 r hr
    have hle : mxt R ≤ r.2.2 := mx_of R 0 _ (by omega) fun x hx => by
      by_cases hxr : x = r
      · subst hxr; exact Int.le_refl _
      · have h := hp
        rw [List.pairwise_iff_getElem] at h
        obtain ⟨i, hi, ei⟩ := List.getElem_of_mem hr
        obtain ⟨j, hj, ej⟩ := List.getElem_of_mem hx
        have hne : i ≠ j := fun e => by subst e; exact hxr (ej.symm.trans ei)
        rcases Nat.lt_or_gt_of_ne hne with hlt | hlt
        · have := h i j hi hj hlt; rw [ei, ej] at this; omega
        · have := h j i hj hi hlt; rw [ei, ej] at this; omega
    have he : mxt R = r.2.2 := by unfold mxt at *; omega
    simp only [kdm, he]
    by_cases h2 : r.2.2 = 2
    · simp [h2]
    · have : r.2.2 = 3 := by omega
      simp [this]
/-- The kind of a form modulo a prime. -/
def kdn (a b c d p : Int) : Int := if mul0 (cnt a b c d) p then 0 else kdp (rtp a b c d p)


end Go.Proofs.YtambbhldhhlfgaaDoor
