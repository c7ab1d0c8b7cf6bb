/- Chapter 5: RationalRoots, the program's. -/
import Derived.Test.YthheongdgcfngaaDoorRq
import Derived.Test.YthheongdgcfngaaDoorGp
import Derived.Test.YthheongdgcfngaaDoorZ8
namespace Go.Proofs.YthheongdgcfngaaDoor
open Go.RowKit

theorem flS_bd {s : Int × Int} {n : Int} (h : 0 ≤ s.1 ∧ s.1 ≤ 1000 ∧ 0 ≤ s.2 ∧ s.2 ≤ 1000) (hn : -1000 ≤ n ∧ n ≤ 1000) : 0 ≤ (flS s n).1 ∧ (flS s n).1 ≤ 1000 ∧ 0 ≤ (flS s n).2 ∧ (flS s n).2 ≤ 1000 := by
  unfold flS
  split
  · exact h
  · split <;> simp only <;> omega
def fN (a b c d : Int) : Nat := (flK a b c d 4).1.toNat
def lN (a b c d : Int) : Nat := (flK a b c d 4).2.toNat
theorem flK_bd {a b c d : Int} (ha : -1000 ≤ a ∧ a ≤ 1000) (hb : -1000 ≤ b ∧ b ≤ 1000) (hc : -1000 ≤ c ∧ c ≤ 1000) (hd : -1000 ≤ d ∧ d ≤ 1000) : 0 ≤ (flK a b c d 4).1 ∧ (flK a b c d 4).1 ≤ 1000 ∧ 0 ≤ (flK a b c d 4).2 ∧ (flK a b c d 4).2 ≤ 1000 :=
  flS_bd (flS_bd (flS_bd (flS_bd (s := (0, 0)) (by decide) ha) hb) hc) hd
theorem flK_N {a b c d : Int} (ha : -1000 ≤ a ∧ a ≤ 1000) (hb : -1000 ≤ b ∧ b ≤ 1000) (hc : -1000 ≤ c ∧ c ≤ 1000) (hd : -1000 ≤ d ∧ d ≤ 1000) : flK a b c d 4 = ((fN a b c d : Int), (lN a b c d : Int)) ∧ fN a b c d ≤ 1000 ∧ lN a b c d ≤ 1000 := by
  obtain ⟨h1, h2, h3, h4⟩ := flK_bd ha hb hc hd
  unfold fN lN
  exact ⟨Prod.ext (by simp only; omega) (by simp only; omega), by omega, by omega⟩
/-- The places, and the roots among them. -/
def rpl (a b c d : Int) : List (Int × Int) := rpK (fN a b c d) (lN a b c d) (fN a b c d)
def rrt (a b c d : Int) : List (Int × Int × Int) := rts 0 [a, b, c, d] (rpl a b c d)
def rw2 (r : Int × Int × Int) : List Int := [r.1, r.2.1]
theorem mem_xs {L y x : Int} {i : Nat} (h : x ∈ xsK L y i) : -L ≤ x ∧ x < (i : Int) - L ∧ (x = 0 ∨ L % x = 0) ∧ Int.gcd x y = 1 := by
  unfold xsK at h
  obtain ⟨h1, h2⟩ := List.mem_filter.1 h
  obtain ⟨j, hj, rfl⟩ := List.mem_map.1 h1
  have := List.mem_range.1 hj
  simp only [Bool.and_eq_true, Bool.or_eq_true, beq_iff_eq] at h2
  exact ⟨by omega, by omega, h2.1, by omega⟩
theorem mem_rpK {F L : Int} {n : Nat} {q : Int × Int} (h : q ∈ rpK F L n) : q = (1, 0) ∨ (∃ j : Nat, j < n ∧ q.2 = (j : Int) + 1 ∧ F % q.2 = 0 ∧ q.1 ∈ xsK L q.2 (2 * L + 1).toNat) := by
  unfold rpK at h
  rcases List.mem_cons.1 h with h | h
  · exact .inl h
  · obtain ⟨j, hj, h⟩ := List.mem_flatMap.1 h
    unfold rpY at h
    split at h
    · rename_i hF
      obtain ⟨x, hx, rfl⟩ := List.mem_map.1 h
      exact .inr ⟨j, List.mem_range.1 hj, rfl, by simpa using hF, hx⟩
    · cases h
theorem stp_rpl {a b c d : Int} (ha : -1000 ≤ a ∧ a ≤ 1000) (hb : -1000 ≤ b ∧ b ≤ 1000) (hc : -1000 ≤ c ∧ c ≤ 1000) (hd : -1000 ≤ d ∧ d ≤ 1000) (hN : mul0 (cnt a b c d) 0 = false) : ∀ k, (h : k < (rpl a b c d).length) → stp 0 (rpl a b c d)[k].1 (rpl a b c d)[k].2 4 [a, b, c, d] = true := by
  intro k h
  obtain ⟨_, h1, h2⟩ := flK_N ha hb hc hd
  rcases mem_rpK (List.getElem_mem h) with e | ⟨j, hj, hy, _, hx⟩
  · rw [e]; exact (mlt_0 ha hb hc hd hN).2
  · obtain ⟨x1, x2, _, x4⟩ := mem_xs hx
    exact (stp_r ha hb hc hd (by omega) (by omega) (by omega) x4 hN).1
theorem rpl_len (a b c d : Int) (ha : -1000 ≤ a ∧ a ≤ 1000) (hb : -1000 ≤ b ∧ b ≤ 1000) (hc : -1000 ≤ c ∧ c ≤ 1000) (hd : -1000 ≤ d ∧ d ≤ 1000) : (rpl a b c d).length ≤ 2001001 ∧ 0 < (rpl a b c d).length := by
  obtain ⟨_, h1, h2⟩ := flK_N ha hb hc hd
  have h := rpK_len (fN a b c d) (lN a b c d) (fN a b c d)
  have h' : fN a b c d * (2 * (lN a b c d : Int) + 1).toNat ≤ 1000 * 2001 := Nat.mul_le_mul h1 (by omega)
  refine ⟨by unfold rpl; omega, by simp [rpl, rpK]⟩
theorem rrt_len {a b c d : Int} (ha : -1000 ≤ a ∧ a ≤ 1000) (hb : -1000 ≤ b ∧ b ≤ 1000) (hc : -1000 ≤ c ∧ c ≤ 1000) (hd : -1000 ≤ d ∧ d ≤ 1000) : (rrt a b c d).length ≤ 2001001 := by
  unfold rrt; rw [← rtK_e]; have := rtK_len 0 [a, b, c, d] (rpl a b c d) (rpl a b c d).length; have := rpl_len a b c d ha hb hc hd; omega
theorem places_0 (a b c d p : Int) (w : World) (hp : (p == 0) = true) (ha : -1000 ≤ a ∧ a ≤ 1000) (hb : -1000 ≤ b ∧ b ≤ 1000) (hc : -1000 ≤ c ∧ c ≤ 1000) (hd : -1000 ≤ d ∧ d ≤ 1000) : Calls Tryd.prog 94 #[.agg #[.int .i64 a, .int .i64 b, .int .i64 c, .int .i64 d], .int .i64 p] w (PlOut (rpl a b c d) w) := by
  obtain ⟨e, h1, h2⟩ := flK_N ha hb hc hd
  have H := hid (fun W => rationalPlaces_any a b c d _ _ W ha hb hc hd e h1 h2)
  change Hid (∀ W, Calls _ _ _ W (PlOut (rpl a b c d) W)) at H
  generalize rpl a b c d = P at H ⊢
  clear e h1 h2
  have U0 := gr_alloc (Below.refl w.heap.size w) (.cells #[.int .i64 a, .int .i64 b, .int .i64 c, .int .i64 d] 25)
  obtain ⟨_, c0, c1, c2, c3, _⟩ := Arr.new w a b c d 25
  go_enter Tryd.func94, Tryd.ntmps94
  go_wp2_with fail
  refine (H.out _).mono ?_
  rintro e w1 ⟨v, rfl, hO, hb⟩
  go_wp2_with fail
  go_ret
  exact ⟨v, rfl, owns_mono hO U0.size, gr_trans U0 hb⟩
theorem roe_r (a b c d : Int) (w : World) (hF : isF a b c d = true) (hN : mul0 (cnt a b c d) 0 = false) :
    Calls Tryd.prog 42 #[.agg #[.int .i64 a, .int .i64 b, .int .i64 c, .int .i64 d], .int .i64 0] w (RtOk (rrt a b c d).length ((rrt a b c d).flatMap tr3) w) := by
  obtain ⟨ha, hb, hc, hd⟩ := isF_t hF
  have hl := rpl_len a b c d ha hb hc hd
  exact rootsOrError_ok a b c d 0 (rpl a b c d) w (by omega) (by omega) ha hb hc hd (fun W => places_0 a b c d 0 W rfl ha hb hc hd) hl.2 (by omega) hN (stp_rpl ha hb hc hd hN)
theorem roe_rn (a b c d : Int) (pv : Value) (w : World) (hg : Sen w pv) (hF : isF a b c d = true) (hN : mul0 (cnt a b c d) 0 = true) :
    Calls Tryd.prog 42 #[.agg #[.int .i64 a, .int .i64 b, .int .i64 c, .int .i64 d], .int .i64 0] w fun e w' => e = .returned (.tuple #[.slice none 0 0, .iface 129 pv]) ∧ Below w.heap.size w w' := by
  obtain ⟨ha, hb, hc, hd⟩ := isF_t hF
  exact rootsOrError_err a b c d 0 pv w hg (by omega) (by omega) ha hb hc hd hN
/-- The code of RationalRoots. -/
def rrc (a b c d : Int) : Int := if isF a b c d = true then (if mul0 (cnt a b c d) 0 then 5 else 0) else 1
theorem rrc_n {a b c d : Int} (h : isF a b c d = false) : rrc a b c d = 1 := by simp [rrc, h]
theorem rrc_5 {a b c d : Int} (h : isF a b c d = true) (hN : mul0 (cnt a b c d) 0 = true) : rrc a b c d = 5 := by simp [rrc, h, hN]
theorem rrc_0 {a b c d : Int} (h : isF a b c d = true) (hN : mul0 (cnt a b c d) 0 = false) : rrc a b c d = 0 := by simp [rrc, h, hN]

set_option maxRecDepth 100000 in
set_option maxHeartbeats 4000000 in
theorem iRationalRoots_any (a b c d : Int) (pv : Value) (w : World) (hg : Sen w pv) : Calls Tryd.prog 29 #[.agg #[.int .i64 a, .int .i64 b, .int .i64 c, .int .i64 d]] w (RwOutC 2 ((rrt a b c d).map rw2) (rrc a b c d) w) := by
  have HC := hid (fun W => iIsForm_any a b c d W)
  have U0 := gr_alloc (Below.refl w.heap.size w) (.cells #[.int .i64 a, .int .i64 b, .int .i64 c, .int .i64 d] 25)
  have G0 := hg.alloc (.cells #[.int .i64 a, .int .i64 b, .int .i64 c, .int .i64 d] 25)
  have q1 := ne_nilI
  have q2 := ne_errI pv
  go_enter Tryd.func29, Tryd.ntmps29
  go_wp2_with fail
  refine (HC.out _).mono ?_
  rintro e w1 ⟨rfl, hb1⟩
  obtain ⟨_, c0, c1, c2, c3, _⟩ := (Arr.new w a b c d 25).next hb1
  have U1 := gr_trans U0 hb1
  have G1 := G0.next hb1
  cases hF : isF a b c d with
  | true =>
    have hF' := isF_t hF
    cases hN : mul0 (cnt a b c d) 0 with
    | true =>
      have HE := hid (rrc_5 hF hN)
      have HR := hid (fun W hg => roe_rn a b c d pv W hg hF hN)
      clear hN hF'
      go_wp2_with fail
      refine (HR.out _ G1).mono ?_
      rintro e w2 ⟨rfl, hb2⟩
      go_wp2_with fail
      go_ret2
      rw [HE.out]
      exact ⟨_, rfl, RwX.nil _ _ _, gr_trans U1 hb2⟩
    | false =>
      have HE := hid (rrc_0 hF hN)
      have HR := hid (fun W => roe_r a b c d W hF hN)
      have hl := rrt_len hF'.1 hF'.2.1 hF'.2.2.1 hF'.2.2.2
      clear hN hF'
      generalize hRR : rrt a b c d = RR at HR hl
      have HRR := hid hRR
      clear hRR
      obtain ⟨i0, hi, hi0, hi1, hi2⟩ := info_parts info_sl5
      have HI := hid hi; have HZ0 := hid hi0; have HZ1 := hid hi1; have HZ2 := hid hi2
      clear hi hi0 hi1 hi2
      go_wp2_with fail
      refine (HR.out _).mono ?_
      rintro e w2 ⟨v, rfl, hO, hb2⟩
      have U2 := gr_trans U1 hb2
      have HO := hid (owns_mono hO U1.size)
      have R2 := RwX.nil w.heap.size w2 2
      have hf := hO
      have hform : ∃ va cap, v = .slice va RR.length cap := by
        rcases hO.2 with ⟨rfl, h⟩ | ⟨g, cap, cur, rfl, _⟩
        · exact ⟨none, 0, by rw [h]⟩
        · exact ⟨_, cap, rfl⟩
      obtain ⟨va, cap, rfl⟩ := hform
      clear c0 c1 c2 c3 hO hf U0 U1 G0 G1
      go_wp2_with fail
      go_loopw [6, 21] (fun s6 s21 wr => ∃ k : Nat, k ≤ RR.length ∧ s21 = .int .i64 ((k : Int)) ∧ RwX w.heap.size wr s6 2 ((RR.take k).map rw2) ∧ wr.ownsRow w.heap.size 66 3 (.slice va RR.length cap) RR.length (RR.flatMap tr3) ∧ Below w.heap.size w wr) (fun _ s21 _ => RR.length - (intOf s21).toNat)
      case atStart => exact ⟨0, Nat.zero_le _, rfl, R2, HO.out, U2⟩
      case round =>
        obtain ⟨k, hk, rfl, ⟨T, hT⟩, hO, hU⟩ := hrel
        have HT := hid hT; have HP := hid hO; have HU := hid hU
        have hsz := hU.size
        clear hT hU U2 R2
        by_cases hlt : k < RR.length
        · obtain ⟨g, cap', e', _, hg', _, hcm, hcell⟩ := owns_formS hO (by omega)
          cases e'
          have x0 := hcell (k * 3 + 0) _ ((flat_get tr3 3 (fun _ => rfl) RR k 0 hlt (by omega)).trans rfl)
          have x1 := hcell (k * 3 + 1) _ ((flat_get tr3 3 (fun _ => rfl) RR k 1 hlt (by omega)).trans rfl)
          have x2 := hcell (k * 3 + 2) _ ((flat_get tr3 3 (fun _ => rfl) RR k 2 hlt (by omega)).trans rfl)
          simp only [Nat.add_zero] at x0
          have HE1 := hid (show (RR.take (k + 1)).map rw2 = (RR.take k).map rw2 ++ [rw2 RR[k]] by rw [List.take_succ_eq_append_getElem hlt, List.map_append]; rfl)
          have hlm : ((RR.take k).map rw2).length ≤ 2001001 := by rw [List.length_map, List.length_take]; omega
          generalize RR[k] = r at x0 x1 x2 HE1
          obtain ⟨x, y, t⟩ := r
          simp only at x0 x1 x2
          unfold maxLen at hcm
          clear hcell hO
          generalize (RR.take k).map rw2 = Rk at HT HE1 hlm
          have HT1 := hid (HT.out.next ((Below.refl _ wr).alloc (Nat.le_refl _) (.cells #[.int .i64 x, .int .i64 y, .int .i64 t] 66)))
          go_wp2_with (at_builtin; refine wpList_append_own _ rfl _ _ 32 rfl w.heap.size 35 i0 (.slice none 0 0) 1 24 Tryd.underlying32 HI.out HZ0.out HZ1.out HZ2.out rfl (by decide) _ _ _ rfl ((HT1.out.own.alloc _).alloc _) ⟨wr.heap.size + 1 + 1, 0, none⟩ 1 1 [.slice (some ⟨wr.heap.size + 1, 0, none⟩) 2 2] rfl rfl ?a1 ?b1 ?c1 ?d1 ?e1 ?_)
          case a1 =>
            intro j u hj
            match j, hj with
            | 0, hj => simp at hj; subst hj; simp [Addr.add, go_sem]
          case b1 => first | (intro u hu; simp at hu; subst hu; rfl) | rfl | simp [Value.oneCell']
          case c1 => unfold maxLen; omega
          case d1 => omega
          case e1 => first | omega | (simp; omega)
          intro y1 W1 O1 hg1 _
          have HX := hid (HT1.out.app (r := [x, y]) rfl (by simp; omega) hg1 (by simpa using O1))
          have HP2 := hid (owns_keep2 (HP.out.alloc (.cells #[.int .i64 x, .int .i64 y, .int .i64 t] 66)) HT1.out.own (by decide) hg1)
          have HU2 := hid (gr_own (gr_alloc (gr_alloc (gr_alloc HU.out _) _) _) hg1 (fun j hj => (HT1.out.own.lt j hj).1))
          clear O1 hg1
          go_wp2_with fail
          go_roundw
          case rel => exact ⟨k + 1, by omega, by go_num, by rw [HE1.out]; exact ⟨_, HX.out⟩, HP2.out, HU2.out⟩
          case measure => simp [intOf]; omega
        · have e : k = RR.length := by omega
          subst e
          have HE1 := hid (show RR.take RR.length = RR from List.take_length)
          clear hO
          go_wp2_with fail
          go_ret2
          rw [HE.out, HRR.out]
          have := HT.out
          rw [HE1.out] at this
          have HX := RwX.intro this
          refine ⟨_, ?_, HX.if0, HU.out⟩
          rfl
  | false =>
    have HE := hid (rrc_n hF)
    go_wp2_with fail
    go_ret2
    rw [HE.out]
    exact ⟨_, rfl, by rw [if_neg (by decide)]; exact RwX.nil _ _ _, U1⟩


end Go.Proofs.YthheongdgcfngaaDoor
