/- Several texts in one: XRp, XRq. -/
import Derived.Test.YtambbhldhhlfgaaDoorFkZ13
import Derived.Test.YtambbhldhhlfgaaDoorFkZ9

/- Chapter 5: the model's list of roots modulo a prime. -/
namespace Go.Proofs.YtambbhldhhlfgaaDoor
open Go.RowKit

theorem info_sl5 : (Tryd.prog.info? 32).map (fun i => (i.zero, i.size, i.bytes)) = some (some (.slice none 0 0), 1, 24) := by kernel_rfl
def rw3 (r : Int × Int × Int) : List Int := [r.1, r.2.1, r.2.2]
theorem ptm_k {n k : Nat} (h : k < n) (h' : k < (ptm (n : Int)).length) : (ptm (n : Int))[k] = ((k : Int), 1) := by
  simp [ptm, ptl, h]
theorem ptm_e {n : Nat} (h' : n < (ptm (n : Int)).length) : (ptm (n : Int))[n] = (1, 0) := by
  simp [ptm, ptl]
/-- The root at a point: none, or one of a multiplicity greater than 0. -/
theorem rt_or (m : Int) (L : List Int) (x y : Int) {M : Nat} (hM : mlt m x y 4 L = M) : ((M : Int) = 0 ∧ rt1 m L (x, y) = []) ∨ (0 < (M : Int) ∧ rt1 m L (x, y) = [(x, y, (M : Int))]) := by
  rcases Nat.eq_zero_or_pos M with h | h
  · subst h; exact .inl ⟨rfl, by simp [rt1, hM]⟩
  · exact .inr ⟨by omega, by simp [rt1, hM, show ¬ M = 0 by omega]⟩
theorem map_app {R R' : List (Int × Int × Int)} {r : List (Int × Int × Int)} (h : R' = R ++ r) : R'.map rw3 = R.map rw3 ++ r.map rw3 := by rw [h, List.map_append]
/-- A list of rows that the call laid. -/
def RwOut (s : Nat) (R : List (List Int)) (w : World) (e : Ending) (w' : World) : Prop := ∃ v, e = .returned v ∧ RwX w.heap.size w' v s R ∧ Below w.heap.size w w'

set_option maxRecDepth 100000 in
set_option maxHeartbeats 4000000 in
theorem l05Roots_any (a b c d p : Int) (w : World) (h2 : 2 ≤ p) (h97 : p ≤ 499) (ha : -1000 ≤ a ∧ a ≤ 1000) (hb : -1000 ≤ b ∧ b ≤ 1000) (hc : -1000 ≤ c ∧ c ≤ 1000) (hd : -1000 ≤ d ∧ d ≤ 1000) (hN : mul0 (cnt a b c d) p = false) :
    Calls Tryd.prog 149 #[.agg #[.int .i64 a, .int .i64 b, .int .i64 c, .int .i64 d], .int .i64 p] w (RwOut 3 ((rts p [a, b, c, d] (ptm p)).map rw3) w) := by
  obtain ⟨n, rfl⟩ : ∃ n : Nat, p = n := ⟨p.toNat, by omega⟩
  have HR1 := hid (fun (k : Nat) (h : k < n) W => l05Root_1 a b c d n k W h2 h97 ha hb hc hd (by omega))
  have HR0 := hid (fun W => l05Root_0 a b c d n W h2 h97 ha hb hc hd)
  have HM1 := hid (fun (k : Nat) (h : k < n) => rt_or n [a, b, c, d] k 1 (mlt_1 (x := k) ha hb hc hd (by omega) hN).1)
  have HM0 := hid (rt_or n [a, b, c, d] 1 0 (mlt_0 ha hb hc hd hN).1)
  have HS := hid (fun (k : Nat) (h : k < n) => (show rtK n [a, b, c, d] (ptm n) (k + 1) = rtK n [a, b, c, d] (ptm n) k ++ rt1 n [a, b, c, d] ((k : Int), 1) by
    have h' : k < (ptm (n : Int)).length := by rw [ptm_len]; omega
    rw [rtK_s h', ptm_k h h']))
  have HE := hid (show rts n [a, b, c, d] (ptm n) = rtK n [a, b, c, d] (ptm n) n ++ rt1 n [a, b, c, d] (1, 0) by
    have h' : n < (ptm (n : Int)).length := by rw [ptm_len]; omega
    rw [← rtK_e, ptm_len, show (n : Int).toNat + 1 = n + 1 by omega, rtK_s h', ptm_e h'])
  have HL := hid (fun k => rtK_len n [a, b, c, d] (ptm n) k)
  have HZ := hid (show rtK n [a, b, c, d] (ptm n) 0 = [] by simp [rtK])
  clear ha hb hc hd hN
  generalize rts n [a, b, c, d] (ptm n) = RR at HE ⊢
  generalize rtK n [a, b, c, d] (ptm n) = K at HS HE HL HZ
  generalize rt1 n [a, b, c, d] = R1 at HM1 HM0 HS HE
  obtain ⟨i0, hi, hi0, hi1, hi2⟩ := info_parts info_sl5
  have HI := hid hi; have HZ0 := hid hi0; have HZ1 := hid hi1; have HZ2 := hid hi2
  clear hi hi0 hi1 hi2
  have F0 := (Bx.new w #[.int .i64 a, .int .i64 b, .int .i64 c, .int .i64 d] 25).alloc (.cells #[] 32)
  have U0 := gr_alloc (gr_alloc (Below.refl w.heap.size w) (.cells #[.int .i64 a, .int .i64 b, .int .i64 c, .int .i64 d] 25)) (.cells #[] 32)
  have R0 := RwX.empty w.heap.size (w.alloc (.cells #[.int .i64 a, .int .i64 b, .int .i64 c, .int .i64 d] 25)) 3 (by simp)
  simp only [World.size_alloc] at R0
  go_enter Tryd.func149, Tryd.ntmps149
  go_wp2_with fail
  go_loopw [5, 6] (fun s5 s6 wr => ∃ k : Nat, k ≤ n ∧ s6 = .int .i64 ((k : Int)) ∧ RwX w.heap.size wr s5 3 ((K k).map rw3) ∧ Bx wr w.heap.size #[.int .i64 a, .int .i64 b, .int .i64 c, .int .i64 d] 25 ∧ Below w.heap.size w wr) (fun _ s6 _ => n - (intOf s6).toNat)
  case atStart => exact ⟨0, Nat.zero_le _, rfl, by rw [HZ.out]; exact R0, F0, U0⟩
  case round =>
    obtain ⟨k, hk, rfl, ⟨T, hT⟩, hF, hU⟩ := hrel
    have HT := hid hT; have HF := hid hF; have HU := hid hU
    have hsz := hU.size
    have hl := HL.out k
    obtain ⟨_, c0, c1, c2, c3, _⟩ := hF.arr4
    clear hT hF hU F0 U0 R0
    by_cases hlt : k < n
    · have HC := hid (HR1.out k hlt)
      have hM := HM1.out k hlt
      have HK := hid (HS.out k hlt)
      generalize ((mmu (n : Int) a b c d (k : Int) 1 : Nat) : Int) = t at HC hM
      go_wp2_with fail
      refine (HC.out _).mono ?_
      rintro e w1 ⟨rfl, hb1⟩
      clear c0 c1 c2 c3 HC
      have HT1 := hid (HT.out.next hb1)
      have HF1 := hid (HF.out.next hb1)
      have HU1 := hid (gr_trans HU.out hb1)
      have hs1 := HU1.out.size
      rcases hM with ⟨rfl, h1⟩ | ⟨ht, h1⟩
      · have HE1 := hid (show K (k + 1) = K k by rw [HK.out, h1, List.append_nil])
        clear h1
        go_wp2_with fail
        go_roundw
        case rel => exact ⟨k + 1, by omega, by go_num, by rw [HE1.out]; exact ⟨T, HT1.out⟩, HF1.out, HU1.out⟩
        case measure => simp [intOf]; omega
      · have HE1 := hid (show (K (k + 1)).map rw3 = (K k).map rw3 ++ [[(k : Int), 1, t]] by rw [HK.out, h1, List.map_append]; rfl)
        clear h1
        have hlm : ((K k).map rw3).length ≤ 499 := by rw [List.length_map]; omega
        generalize (K k).map rw3 = Rk at HT HT1 HE1 hlm
        go_wp2_with (at_builtin; refine wpList_append_own _ rfl _ _ 71 rfl w.heap.size 32 i0 (.slice none 0 0) 1 24 Tryd.underlying71 HI.out HZ0.out HZ1.out HZ2.out rfl (by decide) _ _ _ rfl ((HT1.out.own.alloc _).alloc _) ⟨w1.heap.size + 1, 0, none⟩ 1 1 [.slice (some ⟨w1.heap.size, 0, none⟩) 3 3] rfl rfl ?a1 ?b1 ?c1 ?d1 ?e1 ?_)
        case a1 =>
          intro j u hj
          match j, hj with
          | 0, hj => simp at hj; subst hj; simp [Addr.add, go_sem]
        case b1 => first | (intro u hu; simp at hu; subst hu; rfl) | rfl | simp [Value.oneCell']
        case c1 => unfold maxLen; omega
        case d1 => omega
        case e1 => first | omega | (simp; omega)
        intro y1 W1 O1 hg1 _
        have HX := hid (HT1.out.app (r := [(k : Int), 1, t]) rfl (by omega) hg1 O1)
        have HF2 := hid ((HF1.out.alloc (.cells (cI [(k : Int), 1, t]) 2)).app (HT1.out.own.alloc _) (by decide) hg1)
        have HU2 := hid (gr_own (gr_alloc (gr_alloc HU1.out _) _) hg1 (fun j hj => (HT1.out.own.lt j hj).1))
        clear O1 hg1
        go_wp2_with fail
        go_roundw
        case rel => exact ⟨k + 1, by omega, by go_num, by rw [HE1.out]; exact ⟨_, HX.out⟩, HF2.out, HU2.out⟩
        case measure => simp [intOf]; omega
    · have e : k = n := by omega
      subst e
      have HC := hid HR0.out
      have hM := HM0.out
      generalize ((mmu (k : Int) a b c d 1 0 : Nat) : Int) = t at HC hM
      go_wp2_with fail
      refine (HC.out _).mono ?_
      rintro e w1 ⟨rfl, hb1⟩
      clear c0 c1 c2 c3 HC
      have HT1 := hid (HT.out.next hb1)
      have HU1 := hid (gr_trans HU.out hb1)
      have hs1 := HU1.out.size
      rcases hM with ⟨rfl, h1⟩ | ⟨ht, h1⟩
      · have HE1 := hid (show RR = K k by rw [HE.out, h1, List.append_nil])
        clear h1
        go_wp2_with fail
        go_ret
        exact ⟨_, rfl, by rw [HE1.out]; exact ⟨T, HT1.out⟩, HU1.out⟩
      · have HE1 := hid (show RR.map rw3 = (K k).map rw3 ++ [[1, 0, t]] by rw [HE.out, h1, List.map_append]; rfl)
        clear h1
        have hlm : ((K k).map rw3).length ≤ 499 := by rw [List.length_map]; omega
        generalize (K k).map rw3 = Rk at HT HT1 HE1 hlm
        go_wp2_with (at_builtin; refine wpList_append_own _ rfl _ _ 71 rfl w.heap.size 32 i0 (.slice none 0 0) 1 24 Tryd.underlying71 HI.out HZ0.out HZ1.out HZ2.out rfl (by decide) _ _ _ rfl ((HT1.out.own.alloc _).alloc _) ⟨w1.heap.size + 1, 0, none⟩ 1 1 [.slice (some ⟨w1.heap.size, 0, none⟩) 3 3] rfl rfl ?a2 ?b2 ?c2 ?d2 ?e2 ?_)
        case a2 =>
          intro j u hj
          match j, hj with
          | 0, hj => simp at hj; subst hj; simp [Addr.add, go_sem]
        case b2 => first | (intro u hu; simp at hu; subst hu; rfl) | rfl | simp [Value.oneCell']
        case c2 => unfold maxLen; omega
        case d2 => omega
        case e2 => first | omega | (simp; omega)
        intro y1 W1 O1 hg1 _
        have HX := hid (HT1.out.app (r := [1, 0, t]) rfl (by omega) hg1 O1)
        have HU2 := hid (gr_own (gr_alloc (gr_alloc HU1.out _) _) hg1 (fun j hj => (HT1.out.own.lt j hj).1))
        clear O1 hg1
        go_wp2_with fail
        go_ret
        exact ⟨_, rfl, by rw [HE1.out]; exact ⟨_, HX.out⟩, HU2.out⟩


end Go.Proofs.YtambbhldhhlfgaaDoor

/- Chapter 5: RootsModulo, CountRoots. -/
namespace Go.Proofs.YtambbhldhhlfgaaDoor
open Go.RowKit

theorem RwX.intro {B : Nat} {w : World} {v : Value} {s : Nat} {R : List (List Int)} {T : List Nat} (h : Rwb B w v s R T) : RwX B w v s R := ⟨T, h⟩
theorem RwX.if0 {B : Nat} {w : World} {v : Value} {s : Nat} {R : List (List Int)} (h : RwX B w v s R) : RwX B w v s (if (0 : Int) = 0 then R else []) := by rw [if_pos rfl]; exact h
theorem owns_keep2 {w w' : World} {o o' : Obj} {B B' : Nat} {t t' : TypeId} {s s' : Nat} {v v' : Value} {n n' : Nat} {xs xs' : List Value} (h : w.ownsRow B t s v n xs) (h' : w.ownsRow B' t' s' v' n' xs') (ht : t ≠ t') (hg : ((w.alloc o).alloc o').grownBy w' v'.ownBlock) : w'.ownsRow B t s v n xs :=
  ((h.alloc o).alloc o').kept hg (owns_apart ((h.alloc o).alloc o') ((h'.alloc o).alloc o') ht)
theorem places_p (a b c d p : Int) (w : World) (h2 : 2 ≤ p) (h97 : p ≤ 499) : Calls Tryd.prog 186 #[.agg #[.int .i64 a, .int .i64 b, .int .i64 c, .int .i64 d], .int .i64 p] w (PlOut (ptm p) w) := by
  have H := hid (fun W => pointsModulo_any p W h2 h97)
  generalize ptm p = P at H ⊢
  have hp : (p == 0) = false := by simp; omega
  have U0 := gr_alloc (Below.refl w.heap.size w) (.cells #[.int .i64 a, .int .i64 b, .int .i64 c, .int .i64 d] 25)
  go_enter Tryd.func186, Tryd.ntmps186
  go_wp2_with fail
  refine (H.out _).mono ?_
  rintro e w1 ⟨v, rfl, hO, hb⟩
  go_wp2_with fail
  go_ret
  exact ⟨v, rfl, owns_mono hO U0.size, gr_trans U0 hb⟩
theorem stp_p {a b c d p : Int} (h2 : 2 ≤ p) (h97 : p ≤ 499) (ha : -1000 ≤ a ∧ a ≤ 1000) (hb : -1000 ≤ b ∧ b ≤ 1000) (hc : -1000 ≤ c ∧ c ≤ 1000) (hd : -1000 ≤ d ∧ d ≤ 1000) (hN : mul0 (cnt a b c d) p = false) : ∀ k, (h : k < (ptm p).length) → stp p (ptm p)[k].1 (ptm p)[k].2 4 [a, b, c, d] = true := by
  intro k h
  obtain ⟨n, rfl⟩ : ∃ n : Nat, p = n := ⟨p.toNat, by omega⟩
  have hl := ptm_len n
  by_cases hk : k < n
  · rw [ptm_k hk h]; exact (mlt_1 ha hb hc hd (by omega) hN).2
  · have e : k = n := by omega
    subst e
    rw [ptm_e h]; exact (mlt_0 ha hb hc hd hN).2
/-- The roots modulo a prime. -/
def rtp (a b c d p : Int) : List (Int × Int × Int) := rts p [a, b, c, d] (ptm p)
theorem rtp_len {a b c d p : Int} (h : p ≤ 499) : (rtp a b c d p).length ≤ 500 := by
  unfold rtp; rw [← rtK_e]; have := rtK_len p [a, b, c, d] (ptm p) (ptm p).length; rw [ptm_len] at *; omega
theorem roe_p (a b c d p : Int) (w : World) (h2 : 2 ≤ p) (h97 : p ≤ 499) (hF : isF a b c d = true) (hN : mul0 (cnt a b c d) p = false) :
    Calls Tryd.prog 94 #[.agg #[.int .i64 a, .int .i64 b, .int .i64 c, .int .i64 d], .int .i64 p] w (RtOk (rtp a b c d p).length ((rtp a b c d p).flatMap tr3) w) := by
  obtain ⟨ha, hb, hc, hd⟩ := isF_t hF
  exact rootsOrError_ok a b c d p (ptm p) w (by omega) h97 ha hb hc hd (fun W => places_p a b c d p W h2 h97) (by rw [ptm_len]; omega) (by rw [ptm_len]; omega) hN (stp_p h2 h97 ha hb hc hd hN)
theorem roe_n (a b c d p : Int) (pv : Value) (w : World) (hg : Sen w pv) (h2 : 2 ≤ p) (h97 : p ≤ 499) (hF : isF a b c d = true) (hN : mul0 (cnt a b c d) p = true) :
    Calls Tryd.prog 94 #[.agg #[.int .i64 a, .int .i64 b, .int .i64 c, .int .i64 d], .int .i64 p] w fun e w' => e = .returned (.tuple #[.slice none 0 0, .iface 191 pv]) ∧ Below w.heap.size w w' := by
  obtain ⟨ha, hb, hc, hd⟩ := isF_t hF
  exact rootsOrError_err a b c d p pv w hg (by omega) h97 ha hb hc hd hN
theorem ne_nilI (w : World) : (binOp .neq 97 .nilIface .nilIface).run Tryd.prog w = .ok (.bool false) w := by kernel_rfl
theorem ne_errI (pv : Value) (w : World) : (binOp .neq 97 (.iface 191 pv) .nilIface).run Tryd.prog w = .ok (.bool true) w := by kernel_rfl
/-- The code of RootsModulo. -/
def rmc (a b c d p : Int) : Int := if fpc a b c d p = 0 then (if mul0 (cnt a b c d) p then 5 else 0) else fpc a b c d p
theorem rmc_n {a b c d p : Int} (h : fpc a b c d p ≠ 0) : rmc a b c d p = fpc a b c d p := by simp [rmc, h]
theorem rmc_5 {a b c d p : Int} (h : fpc a b c d p = 0) (hN : mul0 (cnt a b c d) p = true) : rmc a b c d p = 5 := by simp [rmc, h, hN]
theorem rmc_0 {a b c d p : Int} (h : fpc a b c d p = 0) (hN : mul0 (cnt a b c d) p = false) : rmc a b c d p = 0 := by simp [rmc, h, hN]
theorem rtp_le (a b c d p : Int) : (if rmc a b c d p = 0 then (rtp a b c d p).map rw3 else []).length ≤ 10000000 := by
  split
  · rename_i h
    have h0 : fpc a b c d p = 0 := by
      by_cases h0 : fpc a b c d p = 0
      · exact h0
      · rw [rmc_n h0] at h; exact h
    have := rtp_len (a := a) (b := b) (c := c) (d := d) (prq_rng (prm_prq (fpc_0.1 h0).2)).2
    rw [List.length_map]; omega
  · exact Nat.zero_le _
/-- A list of rows that the call laid, and a code. -/
def RwOutC (s : Nat) (R : List (List Int)) (code : Int) (w : World) (e : Ending) (w' : World) : Prop := ∃ v, e = .returned (.tuple #[v, .int .i64 code]) ∧ RwX w.heap.size w' v s (if code = 0 then R else []) ∧ Below w.heap.size w w'

set_option maxRecDepth 100000 in
set_option maxHeartbeats 4000000 in
theorem iRootsModulo_any (a b c d p : Int) (pv : Value) (w : World) (hg : Sen w pv) : Calls Tryd.prog 61 #[.agg #[.int .i64 a, .int .i64 b, .int .i64 c, .int .i64 d], .int .i64 p] w (RwOutC 3 ((rtp a b c d p).map rw3) (rmc a b c d p) w) := by
  have hc0 := fun W => iCheckFP_any a b c d p W
  have hk : fpc a b c d p = 0 → isF a b c d = true ∧ prm p = true := fpc_0.1
  have hn := @rmc_n a b c d p
  have h5 := @rmc_5 a b c d p
  have h0 := @rmc_0 a b c d p
  generalize fpc a b c d p = k at hc0 hk hn h5 h0
  have HC := hid hc0; have HK := hid hk; have HN := hid hn; have H5 := hid h5; have H0 := hid h0
  clear hc0 hk hn h5 h0
  have U0 := gr_alloc (Below.refl w.heap.size w) (.cells #[.int .i64 a, .int .i64 b, .int .i64 c, .int .i64 d] 25)
  have G0 := hg.alloc (.cells #[.int .i64 a, .int .i64 b, .int .i64 c, .int .i64 d] 25)
  have q1 := ne_nilI
  have q2 := ne_errI pv
  go_enter Tryd.func61, Tryd.ntmps61
  go_wp2_with fail
  refine (HC.out _).mono ?_
  rintro e w1 ⟨rfl, hb1⟩
  obtain ⟨_, c0, c1, c2, c3, _⟩ := (Arr.new w a b c d 25).next hb1
  have U1 := gr_trans U0 hb1
  have G1 := G0.next hb1
  by_cases hk0 : k = 0
  · subst hk0
    obtain ⟨hF, hp⟩ := HK.out rfl
    obtain ⟨h2, h97⟩ := prq_rng (prm_prq hp)
    cases hN : mul0 (cnt a b c d) p with
    | true =>
      have HE := hid (H5.out rfl hN)
      have HR := hid (fun W hg => roe_n a b c d p pv W hg h2 h97 hF hN)
      clear hN hF hp
      go_wp2_with fail
      refine (HR.out _ G1).mono ?_
      rintro e w2 ⟨rfl, hb2⟩
      go_wp2_with fail
      go_ret2
      rw [HE.out]
      exact ⟨_, rfl, RwX.nil _ _ _, gr_trans U1 hb2⟩
    | false =>
      have HE := hid (H0.out rfl hN)
      have HR := hid (fun W => roe_p a b c d p W h2 h97 hF hN)
      have hl := rtp_len (a := a) (b := b) (c := c) (d := d) h97
      clear hN hF hp
      generalize hRR : rtp a b c d p = RR at HR hl
      have HRR := hid hRR
      clear hRR
      obtain ⟨i0, hi, hi0, hi1, hi2⟩ := info_parts info_sl5
      have HI := hid hi; have HZ0 := hid hi0; have HZ1 := hid hi1; have HZ2 := hid hi2
      clear hi hi0 hi1 hi2
      go_wp2_with fail
      refine (HR.out _).mono ?_
      rintro e w2 ⟨v, rfl, hO, hb2⟩
      have U2 := gr_trans U1 hb2
      have HO := hid (owns_mono hO U1.size)
      have R2 := RwX.nil w.heap.size w2 3
      have hf := hO
      have hform : ∃ va cap, v = .slice va RR.length cap := by
        rcases hO.2 with ⟨rfl, h⟩ | ⟨g, cap, cur, rfl, _⟩
        · exact ⟨none, 0, by rw [h]⟩
        · exact ⟨_, cap, rfl⟩
      obtain ⟨va, cap, rfl⟩ := hform
      clear c0 c1 c2 c3 hO hf U0 U1 G0 G1
      go_wp2_with fail
      go_loopw [9, 28] (fun s9 s28 wr => ∃ k : Nat, k ≤ RR.length ∧ s28 = .int .i64 ((k : Int)) ∧ RwX w.heap.size wr s9 3 ((RR.take k).map rw3) ∧ wr.ownsRow w.heap.size 138 3 (.slice va RR.length cap) RR.length (RR.flatMap tr3) ∧ Below w.heap.size w wr) (fun _ s28 _ => RR.length - (intOf s28).toNat)
      case atStart => exact ⟨0, Nat.zero_le _, rfl, R2, HO.out, U2⟩
      case round =>
        obtain ⟨k, hk, rfl, ⟨T, hT⟩, hO, hU⟩ := hrel
        have HT := hid hT; have HP := hid hO; have HU := hid hU
        have hsz := hU.size
        clear hT hU U2 R2
        by_cases hlt : k < RR.length
        · obtain ⟨g, cap', e', _, hg', _, hcm, hcell⟩ := owns_formS hO (by omega)
          cases e'
          have x0 := hcell (k * 3 + 0) _ ((flat_get tr3 3 (fun _ => rfl) RR k 0 hlt (by omega)).trans rfl)
          have x1 := hcell (k * 3 + 1) _ ((flat_get tr3 3 (fun _ => rfl) RR k 1 hlt (by omega)).trans rfl)
          have x2 := hcell (k * 3 + 2) _ ((flat_get tr3 3 (fun _ => rfl) RR k 2 hlt (by omega)).trans rfl)
          simp only [Nat.add_zero] at x0
          have HE1 := hid (show (RR.take (k + 1)).map rw3 = (RR.take k).map rw3 ++ [rw3 RR[k]] by rw [List.take_succ_eq_append_getElem hlt, List.map_append]; rfl)
          have hlm : ((RR.take k).map rw3).length ≤ 500 := by rw [List.length_map, List.length_take]; omega
          generalize RR[k] = r at x0 x1 x2 HE1
          obtain ⟨x, y, t⟩ := r
          simp only at x0 x1 x2
          unfold maxLen at hcm
          clear hcell hO
          generalize (RR.take k).map rw3 = Rk at HT HE1 hlm
          have HT1 := hid (HT.out.next ((Below.refl _ wr).alloc (Nat.le_refl _) (.cells #[.int .i64 x, .int .i64 y, .int .i64 t] 138)))
          go_wp2_with (at_builtin; refine wpList_append_own _ rfl _ _ 71 rfl w.heap.size 32 i0 (.slice none 0 0) 1 24 Tryd.underlying71 HI.out HZ0.out HZ1.out HZ2.out rfl (by decide) _ _ _ rfl ((HT1.out.own.alloc _).alloc _) ⟨wr.heap.size + 1 + 1, 0, none⟩ 1 1 [.slice (some ⟨wr.heap.size + 1, 0, none⟩) 3 3] rfl rfl ?a1 ?b1 ?c1 ?d1 ?e1 ?_)
          case a1 =>
            intro j u hj
            match j, hj with
            | 0, hj => simp at hj; subst hj; simp [Addr.add, go_sem]
          case b1 => first | (intro u hu; simp at hu; subst hu; rfl) | rfl | simp [Value.oneCell']
          case c1 => unfold maxLen; omega
          case d1 => omega
          case e1 => first | omega | (simp; omega)
          intro y1 W1 O1 hg1 _
          have HX := hid (HT1.out.app (r := [x, y, t]) rfl (by simp; omega) hg1 (by simpa using O1))
          have HP2 := hid (owns_keep2 (HP.out.alloc (.cells #[.int .i64 x, .int .i64 y, .int .i64 t] 138)) HT1.out.own (by decide) hg1)
          have HU2 := hid (gr_own (gr_alloc (gr_alloc (gr_alloc HU.out _) _) _) hg1 (fun j hj => (HT1.out.own.lt j hj).1))
          clear O1 hg1
          go_wp2_with fail
          go_roundw
          case rel => exact ⟨k + 1, by omega, by go_num, by rw [HE1.out]; exact ⟨_, HX.out⟩, HP2.out, HU2.out⟩
          case measure => simp [intOf]; omega
        · have e : k = RR.length := by omega
          subst e
          have HE1 := hid (show RR.take RR.length = RR from List.take_length)
          clear hO
          go_wp2_with fail
          go_ret2
          rw [HE.out, HRR.out]
          have := HT.out
          rw [HE1.out] at this
          have HX := RwX.intro this
          refine ⟨_, ?_, HX.if0, HU.out⟩
          rfl
  · have HE := hid (HN.out hk0)
    have hk' : (k == 0) = false := by simpa using hk0
    have HK0 := hid hk0
    clear hk0
    go_wp2_with fail
    go_ret2
    rw [HE.out]
    exact ⟨_, rfl, by rw [if_neg HK0.out]; exact RwX.nil _ _ _, U1⟩

set_option maxRecDepth 100000 in
set_option maxHeartbeats 4000000 in
theorem sRootsModulo_any (a b c d p : Int) (w : World) : Calls Tryd.prog 69 #[.agg #[.int .i64 a, .int .i64 b, .int .i64 c, .int .i64 d], .int .i64 p] w (RwOutC 3 ((rtp a b c d p).map rw3) (rmc a b c d p) w) := by
  have hc0 := fun W => l05Code_any a b c d p W
  have hk : fpc a b c d p = 0 → isF a b c d = true ∧ prm p = true := fpc_0.1
  have hn := @rmc_n a b c d p
  have h5 := @rmc_5 a b c d p
  have h0 := @rmc_0 a b c d p
  generalize fpc a b c d p = k at hc0 hk hn h5 h0
  have HC := hid hc0; have HK := hid hk; have HN := hid hn; have H5 := hid h5; have H0 := hid h0
  clear hc0 hk hn h5 h0
  have U0 := gr_alloc (Below.refl w.heap.size w) (.cells #[.int .i64 a, .int .i64 b, .int .i64 c, .int .i64 d] 25)
  go_enter Tryd.func69, Tryd.ntmps69
  go_wp2_with fail
  refine (HC.out _).mono ?_
  rintro e w1 ⟨rfl, hb1⟩
  have A1 := (Arr.new w a b c d 25).next hb1
  obtain ⟨_, c0, c1, c2, c3, _⟩ := id A1
  have U1 := gr_trans U0 hb1
  by_cases hk0 : k = 0
  · subst hk0
    obtain ⟨hF, hp⟩ := HK.out rfl
    obtain ⟨h2, h97⟩ := prq_rng (prm_prq hp)
    have HU := hid (fun W => l05Null_any a b c d p W h2 h97)
    obtain ⟨ha, hb, hc, hd⟩ := isF_t hF
    have HR := hid (fun hN W => l05Roots_any a b c d p W h2 h97 ha hb hc hd hN)
    have H50 := hid (H5.out rfl); have H00 := hid (H0.out rfl)
    clear hF hp ha hb hc hd
    go_wp2_with fail
    refine (HU.out _).mono ?_
    rintro e w2 ⟨rfl, hb2⟩
    have U2 := gr_trans U1 hb2
    have A2 := A1.next hb2
    clear c0 c1 c2 c3
    obtain ⟨_, c0, c1, c2, c3, _⟩ := id A2
    cases hN : mul0 (cnt a b c d) p with
    | true =>
      have HE := hid (H50.out hN)
      go_wp2_with fail
      go_ret2
      rw [HE.out]
      exact ⟨_, rfl, RwX.nil _ _ _, U2⟩
    | false =>
      have HE := hid (H00.out hN)
      have HR1 := hid (HR.out hN)
      go_wp2_with fail
      refine (HR1.out _).mono ?_
      rintro e w3 ⟨v, rfl, hX, hb3⟩
      go_wp2_with fail
      go_ret2
      rw [HE.out]
      exact ⟨_, rfl, hX.base U2.size, gr_trans U2 hb3⟩
  · have HE := hid (HN.out hk0)
    have hk' : (k == 0) = false := by simpa using hk0
    have HK0 := hid hk0
    clear hk0
    go_wp2_with fail
    go_ret2
    rw [HE.out]
    exact ⟨_, rfl, by rw [if_neg HK0.out]; exact RwX.nil _ _ _, U1⟩


end Go.Proofs.YtambbhldhhlfgaaDoor
