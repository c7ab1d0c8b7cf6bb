/- Several texts in one: XGq, XFb, XFe. -/
import Derived.Test.YthheongdgcfngaaDoorZ15
import Derived.Test.YthheongdgcfngaaDoorGp
import Derived.Test.YthheongdgcfngaaDoorZ21

/- Chapter 5: RationalRoots, the program's. -/
namespace Go.Proofs.YthheongdgcfngaaDoor
open Go.RowKit

theorem flS_bd {s : Int × Int} {n : Int} (h : 0 ≤ s.1 ∧ s.1 ≤ 1000 ∧ 0 ≤ s.2 ∧ s.2 ≤ 1000) (hn : -1000 ≤ n ∧ n ≤ 1000) : 0 ≤ (flS s n).1 ∧ (flS s n).1 ≤ 1000 ∧ 0 ≤ (flS s n).2 ∧ (flS s n).2 ≤ 1000 := by
  unfold flS
  split
  · exact h
  · split <;> simp only <;> omega
def fN (a b c d : Int) : Nat := (flK a b c d 4).1.toNat
def lN (a b c d : Int) : Nat := (flK a b c d 4).2.toNat
theorem flK_bd {a b c d : Int} (ha : -1000 ≤ a ∧ a ≤ 1000) (hb : -1000 ≤ b ∧ b ≤ 1000) (hc : -1000 ≤ c ∧ c ≤ 1000) (hd : -1000 ≤ d ∧ d ≤ 1000) : 0 ≤ (flK a b c d 4).1 ∧ (flK a b c d 4).1 ≤ 1000 ∧ 0 ≤ (flK a b c d 4).2 ∧ (flK a b c d 4).2 ≤ 1000 :=
  flS_bd (flS_bd (flS_bd (flS_bd (s := (0, 0)) (by decide) ha) hb) hc) hd
theorem flK_N {a b c d : Int} (ha : -1000 ≤ a ∧ a ≤ 1000) (hb : -1000 ≤ b ∧ b ≤ 1000) (hc : -1000 ≤ c ∧ c ≤ 1000) (hd : -1000 ≤ d ∧ d ≤ 1000) : flK a b c d 4 = ((fN a b c d : Int), (lN a b c d : Int)) ∧ fN a b c d ≤ 1000 ∧ lN a b c d ≤ 1000 := by
  obtain ⟨h1, h2, h3, h4⟩ := flK_bd ha hb hc hd
  unfold fN lN
  exact ⟨Prod.ext (by simp only; omega) (by simp only; omega), by omega, by omega⟩
/-- The places, and the roots among them. -/
def rpl (a b c d : Int) : List (Int × Int) := rpK (fN a b c d) (lN a b c d) (fN a b c d)
def rrt (a b c d : Int) : List (Int × Int × Int) := rts 0 [a, b, c, d] (rpl a b c d)
def rw2 (r : Int × Int × Int) : List Int := [r.1, r.2.1]
theorem mem_xs {L y x : Int} {i : Nat} (h : x ∈ xsK L y i) : -L ≤ x ∧ x < (i : Int) - L ∧ (x = 0 ∨ L % x = 0) ∧ Int.gcd x y = 1 := by
  unfold xsK at h
  obtain ⟨h1, h2⟩ := List.mem_filter.1 h
  obtain ⟨j, hj, rfl⟩ := List.mem_map.1 h1
  have := List.mem_range.1 hj
  simp only [Bool.and_eq_true, Bool.or_eq_true, beq_iff_eq] at h2
  exact ⟨by omega, by omega, h2.1, by omega⟩
theorem mem_rpK {F L : Int} {n : Nat} {q : Int × Int} (h : q ∈ rpK F L n) : q = (1, 0) ∨ (∃ j : Nat, j < n ∧ q.2 = (j : Int) + 1 ∧ F % q.2 = 0 ∧ q.1 ∈ xsK L q.2 (2 * L + 1).toNat) := by
  unfold rpK at h
  rcases List.mem_cons.1 h with h | h
  · exact .inl h
  · obtain ⟨j, hj, h⟩ := List.mem_flatMap.1 h
    unfold rpY at h
    split at h
    · rename_i hF
      obtain ⟨x, hx, rfl⟩ := List.mem_map.1 h
      exact .inr ⟨j, List.mem_range.1 hj, rfl, by simpa using hF, hx⟩
    · cases h
theorem stp_rpl {a b c d : Int} (ha : -1000 ≤ a ∧ a ≤ 1000) (hb : -1000 ≤ b ∧ b ≤ 1000) (hc : -1000 ≤ c ∧ c ≤ 1000) (hd : -1000 ≤ d ∧ d ≤ 1000) (hN : mul0 (cnt a b c d) 0 = false) : ∀ k, (h : k < (rpl a b c d).length) → stp 0 (rpl a b c d)[k].1 (rpl a b c d)[k].2 4 [a, b, c, d] = true := by
  intro k h
  obtain ⟨_, h1, h2⟩ := flK_N ha hb hc hd
  rcases mem_rpK (List.getElem_mem h) with e | ⟨j, hj, hy, _, hx⟩
  · rw [e]; exact (mlt_0 ha hb hc hd hN).2
  · obtain ⟨x1, x2, _, x4⟩ := mem_xs hx
    exact (stp_r ha hb hc hd (by omega) (by omega) (by omega) x4 hN).1
theorem rpl_len (a b c d : Int) (ha : -1000 ≤ a ∧ a ≤ 1000) (hb : -1000 ≤ b ∧ b ≤ 1000) (hc : -1000 ≤ c ∧ c ≤ 1000) (hd : -1000 ≤ d ∧ d ≤ 1000) : (rpl a b c d).length ≤ 2001001 ∧ 0 < (rpl a b c d).length := by
  obtain ⟨_, h1, h2⟩ := flK_N ha hb hc hd
  have h := rpK_len (fN a b c d) (lN a b c d) (fN a b c d)
  have h' : fN a b c d * (2 * (lN a b c d : Int) + 1).toNat ≤ 1000 * 2001 := Nat.mul_le_mul h1 (by omega)
  refine ⟨by unfold rpl; omega, by simp [rpl, rpK]⟩
theorem rrt_len {a b c d : Int} (ha : -1000 ≤ a ∧ a ≤ 1000) (hb : -1000 ≤ b ∧ b ≤ 1000) (hc : -1000 ≤ c ∧ c ≤ 1000) (hd : -1000 ≤ d ∧ d ≤ 1000) : (rrt a b c d).length ≤ 2001001 := by
  unfold rrt; rw [← rtK_e]; have := rtK_len 0 [a, b, c, d] (rpl a b c d) (rpl a b c d).length; have := rpl_len a b c d ha hb hc hd; omega
theorem places_0 (a b c d p : Int) (w : World) (hp : (p == 0) = true) (ha : -1000 ≤ a ∧ a ≤ 1000) (hb : -1000 ≤ b ∧ b ≤ 1000) (hc : -1000 ≤ c ∧ c ≤ 1000) (hd : -1000 ≤ d ∧ d ≤ 1000) : Calls Tryd.prog 94 #[.agg #[.int .i64 a, .int .i64 b, .int .i64 c, .int .i64 d], .int .i64 p] w (PlOut (rpl a b c d) w) := by
  obtain ⟨e, h1, h2⟩ := flK_N ha hb hc hd
  have H := hid (fun W => rationalPlaces_any a b c d _ _ W ha hb hc hd e h1 h2)
  change Hid (∀ W, Calls _ _ _ W (PlOut (rpl a b c d) W)) at H
  generalize rpl a b c d = P at H ⊢
  clear e h1 h2
  have U0 := gr_alloc (Below.refl w.heap.size w) (.cells #[.int .i64 a, .int .i64 b, .int .i64 c, .int .i64 d] 25)
  obtain ⟨_, c0, c1, c2, c3, _⟩ := Arr.new w a b c d 25
  go_enter Tryd.func94, Tryd.ntmps94
  go_wp2_with fail
  refine (H.out _).mono ?_
  rintro e w1 ⟨v, rfl, hO, hb⟩
  go_wp2_with fail
  go_ret
  exact ⟨v, rfl, owns_mono hO U0.size, gr_trans U0 hb⟩
theorem roe_r (a b c d : Int) (w : World) (hF : isF a b c d = true) (hN : mul0 (cnt a b c d) 0 = false) :
    Calls Tryd.prog 42 #[.agg #[.int .i64 a, .int .i64 b, .int .i64 c, .int .i64 d], .int .i64 0] w (RtOk (rrt a b c d).length ((rrt a b c d).flatMap tr3) w) := by
  obtain ⟨ha, hb, hc, hd⟩ := isF_t hF
  have hl := rpl_len a b c d ha hb hc hd
  exact rootsOrError_ok a b c d 0 (rpl a b c d) w (by omega) (by omega) ha hb hc hd (fun W => places_0 a b c d 0 W rfl ha hb hc hd) hl.2 (by omega) hN (stp_rpl ha hb hc hd hN)
theorem roe_rn (a b c d : Int) (pv : Value) (w : World) (hg : Sen w pv) (hF : isF a b c d = true) (hN : mul0 (cnt a b c d) 0 = true) :
    Calls Tryd.prog 42 #[.agg #[.int .i64 a, .int .i64 b, .int .i64 c, .int .i64 d], .int .i64 0] w fun e w' => e = .returned (.tuple #[.slice none 0 0, .iface 129 pv]) ∧ Below w.heap.size w w' := by
  obtain ⟨ha, hb, hc, hd⟩ := isF_t hF
  exact rootsOrError_err a b c d 0 pv w hg (by omega) (by omega) ha hb hc hd hN
/-- The code of RationalRoots. -/
def rrc (a b c d : Int) : Int := if isF a b c d = true then (if mul0 (cnt a b c d) 0 then 5 else 0) else 1
theorem rrc_n {a b c d : Int} (h : isF a b c d = false) : rrc a b c d = 1 := by simp [rrc, h]
theorem rrc_5 {a b c d : Int} (h : isF a b c d = true) (hN : mul0 (cnt a b c d) 0 = true) : rrc a b c d = 5 := by simp [rrc, h, hN]
theorem rrc_0 {a b c d : Int} (h : isF a b c d = true) (hN : mul0 (cnt a b c d) 0 = false) : rrc a b c d = 0 := by simp [rrc, h, hN]

set_option maxRecDepth 100000 in
set_option maxHeartbeats 4000000 in
theorem iRationalRoots_any (a b c d : Int) (pv : Value) (w : World) (hg : Sen w pv) : Calls Tryd.prog 29 #[.agg #[.int .i64 a, .int .i64 b, .int .i64 c, .int .i64 d]] w (RwOutC 2 ((rrt a b c d).map rw2) (rrc a b c d) w) := by
  have HC := hid (fun W => iIsForm_any a b c d W)
  have U0 := gr_alloc (Below.refl w.heap.size w) (.cells #[.int .i64 a, .int .i64 b, .int .i64 c, .int .i64 d] 25)
  have G0 := hg.alloc (.cells #[.int .i64 a, .int .i64 b, .int .i64 c, .int .i64 d] 25)
  have q1 := ne_nilI
  have q2 := ne_errI pv
  go_enter Tryd.func29, Tryd.ntmps29
  go_wp2_with fail
  refine (HC.out _).mono ?_
  rintro e w1 ⟨rfl, hb1⟩
  obtain ⟨_, c0, c1, c2, c3, _⟩ := (Arr.new w a b c d 25).next hb1
  have U1 := gr_trans U0 hb1
  have G1 := G0.next hb1
  cases hF : isF a b c d with
  | true =>
    have hF' := isF_t hF
    cases hN : mul0 (cnt a b c d) 0 with
    | true =>
      have HE := hid (rrc_5 hF hN)
      have HR := hid (fun W hg => roe_rn a b c d pv W hg hF hN)
      clear hN hF'
      go_wp2_with fail
      refine (HR.out _ G1).mono ?_
      rintro e w2 ⟨rfl, hb2⟩
      go_wp2_with fail
      go_ret2
      rw [HE.out]
      exact ⟨_, rfl, RwX.nil _ _ _, gr_trans U1 hb2⟩
    | false =>
      have HE := hid (rrc_0 hF hN)
      have HR := hid (fun W => roe_r a b c d W hF hN)
      have hl := rrt_len hF'.1 hF'.2.1 hF'.2.2.1 hF'.2.2.2
      clear hN hF'
      generalize hRR : rrt a b c d = RR at HR hl
      have HRR := hid hRR
      clear hRR
      obtain ⟨i0, hi, hi0, hi1, hi2⟩ := info_parts info_sl5
      have HI := hid hi; have HZ0 := hid hi0; have HZ1 := hid hi1; have HZ2 := hid hi2
      clear hi hi0 hi1 hi2
      go_wp2_with fail
      refine (HR.out _).mono ?_
      rintro e w2 ⟨v, rfl, hO, hb2⟩
      have U2 := gr_trans U1 hb2
      have HO := hid (owns_mono hO U1.size)
      have R2 := RwX.nil w.heap.size w2 2
      have hf := hO
      have hform : ∃ va cap, v = .slice va RR.length cap := by
        rcases hO.2 with ⟨rfl, h⟩ | ⟨g, cap, cur, rfl, _⟩
        · exact ⟨none, 0, by rw [h]⟩
        · exact ⟨_, cap, rfl⟩
      obtain ⟨va, cap, rfl⟩ := hform
      clear c0 c1 c2 c3 hO hf U0 U1 G0 G1
      go_wp2_with fail
      go_loopw [6, 21] (fun s6 s21 wr => ∃ k : Nat, k ≤ RR.length ∧ s21 = .int .i64 ((k : Int)) ∧ RwX w.heap.size wr s6 2 ((RR.take k).map rw2) ∧ wr.ownsRow w.heap.size 66 3 (.slice va RR.length cap) RR.length (RR.flatMap tr3) ∧ Below w.heap.size w wr) (fun _ s21 _ => RR.length - (intOf s21).toNat)
      case atStart => exact ⟨0, Nat.zero_le _, rfl, R2, HO.out, U2⟩
      case round =>
        obtain ⟨k, hk, rfl, ⟨T, hT⟩, hO, hU⟩ := hrel
        have HT := hid hT; have HP := hid hO; have HU := hid hU
        have hsz := hU.size
        clear hT hU U2 R2
        by_cases hlt : k < RR.length
        · obtain ⟨g, cap', e', _, hg', _, hcm, hcell⟩ := owns_formS hO (by omega)
          cases e'
          have x0 := hcell (k * 3 + 0) _ ((flat_get tr3 3 (fun _ => rfl) RR k 0 hlt (by omega)).trans rfl)
          have x1 := hcell (k * 3 + 1) _ ((flat_get tr3 3 (fun _ => rfl) RR k 1 hlt (by omega)).trans rfl)
          have x2 := hcell (k * 3 + 2) _ ((flat_get tr3 3 (fun _ => rfl) RR k 2 hlt (by omega)).trans rfl)
          simp only [Nat.add_zero] at x0
          have HE1 := hid (show (RR.take (k + 1)).map rw2 = (RR.take k).map rw2 ++ [rw2 RR[k]] by rw [List.take_succ_eq_append_getElem hlt, List.map_append]; rfl)
          have hlm : ((RR.take k).map rw2).length ≤ 2001001 := by rw [List.length_map, List.length_take]; omega
          generalize RR[k] = r at x0 x1 x2 HE1
          obtain ⟨x, y, t⟩ := r
          simp only at x0 x1 x2
          unfold maxLen at hcm
          clear hcell hO
          generalize (RR.take k).map rw2 = Rk at HT HE1 hlm
          have HT1 := hid (HT.out.next ((Below.refl _ wr).alloc (Nat.le_refl _) (.cells #[.int .i64 x, .int .i64 y, .int .i64 t] 66)))
          go_wp2_with (at_builtin; refine wpList_append_own _ rfl _ _ 32 rfl w.heap.size 35 i0 (.slice none 0 0) 1 24 Tryd.underlying32 HI.out HZ0.out HZ1.out HZ2.out rfl (by decide) _ _ _ rfl ((HT1.out.own.alloc _).alloc _) ⟨wr.heap.size + 1 + 1, 0, none⟩ 1 1 [.slice (some ⟨wr.heap.size + 1, 0, none⟩) 2 2] rfl rfl ?a1 ?b1 ?c1 ?d1 ?e1 ?_)
          case a1 =>
            intro j u hj
            match j, hj with
            | 0, hj => simp at hj; subst hj; simp [Addr.add, go_sem]
          case b1 => first | (intro u hu; simp at hu; subst hu; rfl) | rfl | simp [Value.oneCell']
          case c1 => unfold maxLen; omega
          case d1 => omega
          case e1 => first | omega | (simp; omega)
          intro y1 W1 O1 hg1 _
          have HX := hid (HT1.out.app (r := [x, y]) rfl (by simp; omega) hg1 (by simpa using O1))
          have HP2 := hid (owns_keep2 (HP.out.alloc (.cells #[.int .i64 x, .int .i64 y, .int .i64 t] 66)) HT1.out.own (by decide) hg1)
          have HU2 := hid (gr_own (gr_alloc (gr_alloc (gr_alloc HU.out _) _) _) hg1 (fun j hj => (HT1.out.own.lt j hj).1))
          clear O1 hg1
          go_wp2_with fail
          go_roundw
          case rel => exact ⟨k + 1, by omega, by go_num, by rw [HE1.out]; exact ⟨_, HX.out⟩, HP2.out, HU2.out⟩
          case measure => simp [intOf]; omega
        · have e : k = RR.length := by omega
          subst e
          have HE1 := hid (show RR.take RR.length = RR from List.take_length)
          clear hO
          go_wp2_with fail
          go_ret2
          rw [HE.out, HRR.out]
          have := HT.out
          rw [HE1.out] at this
          have HX := RwX.intro this
          refine ⟨_, ?_, HX.if0, HU.out⟩
          rfl
  | false =>
    have HE := hid (rrc_n hF)
    go_wp2_with fail
    go_ret2
    rw [HE.out]
    exact ⟨_, rfl, by rw [if_neg (by decide)]; exact RwX.nil _ _ _, U1⟩


end Go.Proofs.YthheongdgcfngaaDoor

/- Chapter 5: factors: the rows and the rest, root by root. Mathematics; no Go function in sight. -/
namespace Go.Proofs.YthheongdgcfngaaDoor
open Go.RowKit

theorem mlt_fuel {x y : Int} (hp : PT x y) : ∀ (n m : Nat) {L : List Int}, GL L → L.length ≤ n → L.length ≤ m → mlt 0 x y n L = mlt 0 x y m L := by
  intro n
  induction n with
  | zero => intro m L h h0 _; have := h.1; omega
  | succ n ih =>
    intro m L h h0 h1
    cases m with
    | zero => have := h.1; omega
    | succ m =>
      rw [mlt_e h hp, mlt_e h hp]
      by_cases e : ev L x y = 0
      · obtain ⟨M, eM⟩ := ev_mul h hp e
        obtain ⟨d, hM⟩ := dvd_mul h hp eM
        have hl := mulL_len x y M
        rw [← eM] at hl
        rw [if_pos e, if_pos e, d, ih m hM (by omega) (by omega)]
      · rw [if_neg e, if_neg e]
theorem mulA_sc (x y k : Int) : ∀ (M : List Int) (p : Int), (mulA x y p M).map (k * ·) = mulA x y (k * p) (M.map (k * ·)) := by
  intro M
  induction M with
  | nil => intro p; simp [mulA]; grind
  | cons m M ih => intro p; simp only [mulA, List.map_cons, ih]; congr 1; grind
theorem mulL_sc (x y k : Int) (M : List Int) : (mulL x y M).map (k * ·) = mulL x y (M.map (k * ·)) := by
  unfold mulL; rw [mulA_sc, Int.mul_zero]
theorem ev_sc {L : List Int} (h : GL L) (k x y : Int) : ev (L.map (k * ·)) x y = k * ev L x y := by
  rcases h.cases with ⟨a, rfl⟩ | ⟨a, b, rfl⟩ | ⟨a, b, c, rfl⟩ | ⟨a, b, c, d, rfl⟩
  · simp only [List.map_cons, List.map_nil, ev1]
  · simp only [List.map_cons, List.map_nil, ev2]; grind
  · simp only [List.map_cons, List.map_nil, ev3]; grind
  · simp only [List.map_cons, List.map_nil, ev4]; unfold vx; grind
/-- Multiples have the same roots. -/
theorem mlt_sc {x y k : Int} (hp : PT x y) (hk : k ≠ 0) : ∀ (n : Nat) {L : List Int}, GL L → GL (L.map (k * ·)) → mlt 0 x y n (L.map (k * ·)) = mlt 0 x y n L := by
  intro n
  induction n with
  | zero => intro _ _ _; rfl
  | succ n ih =>
    intro L h h'
    rw [mlt_e h hp, mlt_e h' hp, ev_sc h]
    by_cases e : ev L x y = 0
    · obtain ⟨M, eM⟩ := ev_mul h hp e
      obtain ⟨d, hM⟩ := dvd_mul h hp eM
      obtain ⟨d', hM'⟩ := dvd_mul h' hp (by rw [eM, mulL_sc])
      rw [if_pos e, if_pos (by rw [e]; simp), d, d', ih hM hM']
    · rw [if_neg e, if_neg (fun h0 => (Int.mul_eq_zero.1 h0).elim hk e)]

theorem mlt_le (x y : Int) : ∀ (n : Nat) (L : List Int), mlt 0 x y n L ≤ n := by
  intro n
  induction n with
  | zero => intro L; simp [mlt]
  | succ n ih =>
    intro L
    simp only [mlt]
    split
    · have := ih (dvd L x y); omega
    · omega

/-- One root, s times: the rows, the rest. -/
def fJ (x y : Int) : Nat → List (List Int) × List Int → List (List Int) × List Int
  | 0, st => st
  | s + 1, st => fJ x y s (st.1 ++ [[x, y]], dvd st.2 x y)
def fR (R : List (Int × Int × Int)) (st : List (List Int) × List Int) : List (List Int) × List Int := R.foldl (fun st r => fJ r.1 r.2.1 r.2.2.toNat st) st
theorem fR_cons (r : Int × Int × Int) (R : List (Int × Int × Int)) (st : List (List Int) × List Int) : fR (r :: R) st = fR R (fJ r.1 r.2.1 r.2.2.toNat st) := rfl
structure FInv (st : List (List Int) × List Int) (R : List (Int × Int × Int)) : Prop where
  gl : GL st.2
  len : st.1.length + st.2.length = 4
  wid : ∀ r ∈ st.1, r.length = 2
  rt : ∀ r ∈ R, PT r.1 r.2.1 ∧ ((mlt 0 r.1 r.2.1 4 st.2 : Nat) : Int) = r.2.2
  pw : R.Pairwise fun r r' => r.2.1 * r'.1 - r.1 * r'.2.1 ≠ 0
  hd : mlt 0 1 0 4 st.2 = 0 ∨ ∃ r ∈ R, r.1 = 1 ∧ r.2.1 = 0
structure FInJ (st : List (List Int) × List Int) (x y : Int) (s : Nat) (R : List (Int × Int × Int)) : Prop where
  gl : GL st.2
  len : st.1.length + st.2.length = 4
  wid : ∀ r ∈ st.1, r.length = 2
  pt : PT x y
  mu : mlt 0 x y 4 st.2 = s
  rt : ∀ r ∈ R, PT r.1 r.2.1 ∧ ((mlt 0 r.1 r.2.1 4 st.2 : Nat) : Int) = r.2.2 ∧ y * r.1 - x * r.2.1 ≠ 0
  pw : R.Pairwise fun r r' => r.2.1 * r'.1 - r.1 * r'.2.1 ≠ 0
  hd : mlt 0 1 0 4 st.2 = 0 ∨ (x = 1 ∧ y = 0) ∨ ∃ r ∈ R, r.1 = 1 ∧ r.2.1 = 0
theorem FInv.start {st : List (List Int) × List Int} {r : Int × Int × Int} {R : List (Int × Int × Int)} (h : FInv st (r :: R)) : FInJ st r.1 r.2.1 r.2.2.toNat R := by
  obtain ⟨p1, p2⟩ := List.pairwise_cons.1 h.pw
  obtain ⟨q1, q2⟩ := h.rt r List.mem_cons_self
  refine ⟨h.gl, h.len, h.wid, q1, by omega, fun r' hr' => ?_, p2, ?_⟩
  · obtain ⟨u1, u2⟩ := h.rt r' (List.mem_cons_of_mem _ hr')
    exact ⟨u1, u2, p1 r' hr'⟩
  · rcases h.hd with h0 | ⟨r', hr', e⟩
    · exact .inl h0
    · rcases List.mem_cons.1 hr' with rfl | hr'
      · exact .inr (.inl e)
      · exact .inr (.inr ⟨r', hr', e⟩)
theorem FInJ.z {st : List (List Int) × List Int} {x y : Int} {s : Nat} {R : List (Int × Int × Int)} (h : FInJ st x y (s + 1) R) : ev st.2 x y = 0 := by
  have := h.mu
  rw [mlt_e h.gl h.pt] at this
  split at this
  · assumption
  · omega
theorem FInJ.nz {st : List (List Int) × List Int} {x y : Int} {R : List (Int × Int × Int)} (h : FInJ st x y 0 R) : ev st.2 x y ≠ 0 := fun e => by
  have := h.mu
  rw [mlt_e h.gl h.pt, if_pos e] at this
  omega
theorem FInJ.step {st : List (List Int) × List Int} {x y : Int} {s : Nat} {R : List (Int × Int × Int)} (h : FInJ st x y (s + 1) R) : FInJ (st.1 ++ [[x, y]], dvd st.2 x y) x y s R ∧ 2 ≤ st.2.length := by
  have e := h.z
  obtain ⟨M, eM⟩ := ev_mul h.gl h.pt e
  obtain ⟨d, hM⟩ := dvd_mul h.gl h.pt eM
  have hl := mulL_len x y M
  rw [← eM] at hl
  have hM1 := hM.1
  have hm := h.mu
  have h4 := h.gl.2.1
  rw [mlt_e h.gl h.pt, if_pos e, d] at hm
  have hf := mlt_fuel h.pt 3 4 hM (by omega) (by omega)
  have hap : ∀ {x' y' : Int}, PT x' y' → y * x' - x * y' ≠ 0 → mlt 0 x' y' 4 M = mlt 0 x' y' 4 st.2 := fun hp' hne => (mlt_app hp' h.pt hne 4 h.gl eM).symm
  refine ⟨⟨by simpa [d] using hM, ?_, ?_, h.pt, by simp only [d]; omega, fun r hr => ?_, h.pw, ?_⟩, by omega⟩
  · have := h.len; simp only [d, List.length_append, List.length_singleton]; omega
  · intro r hr
    rcases List.mem_append.1 hr with hr | hr
    · exact h.wid r hr
    · simp at hr; subst hr; rfl
  · obtain ⟨u1, u2, u3⟩ := h.rt r hr
    exact ⟨u1, by simp only [d]; rw [hap u1 u3]; exact u2, u3⟩
  · simp only [d]
    by_cases hy : y * 1 - x * 0 ≠ 0
    · rw [hap (.inl ⟨rfl, rfl⟩) hy]; exact h.hd
    · rcases h.pt with q | q
      · exact .inr (.inl q)
      · omega
theorem FInJ.fin {st : List (List Int) × List Int} {x y : Int} {R : List (Int × Int × Int)} (h : FInJ st x y 0 R) : FInv st R := by
  refine ⟨h.gl, h.len, h.wid, fun r hr => ?_, h.pw, ?_⟩
  · obtain ⟨u1, u2, _⟩ := h.rt r hr
    exact ⟨u1, u2⟩
  · rcases h.hd with h0 | ⟨rfl, rfl⟩ | h0
    · exact .inl h0
    · exact .inl h.mu
    · exact .inr h0
/-- At the end the first number is not 0. -/
theorem FInv.head {st : List (List Int) × List Int} (h : FInv st []) : ∃ a L, st.2 = a :: L ∧ a ≠ 0 := by
  have h0 : mlt 0 1 0 4 st.2 = 0 := by
    rcases h.hd with h0 | ⟨r, hr, _⟩
    · exact h0
    · cases hr
  have he : ev st.2 1 0 ≠ 0 := fun e => by
    rw [mlt_e h.gl (.inl ⟨rfl, rfl⟩), if_pos e] at h0
    omega
  rcases h.gl.cases with ⟨a, e⟩ | ⟨a, b, e⟩ | ⟨a, b, c, e⟩ | ⟨a, b, c, d, e⟩ <;> rw [e] at he ⊢
  · rw [ev1] at he; exact ⟨_, _, rfl, he⟩
  · rw [ev2] at he; exact ⟨_, _, rfl, by simpa using he⟩
  · rw [ev3] at he; exact ⟨_, _, rfl, by simpa using he⟩
  · rw [ev4] at he; exact ⟨_, _, rfl, by simpa [vx] using he⟩
theorem fR_inv : ∀ (R : List (Int × Int × Int)) (st : List (List Int) × List Int), FInv st R → FInv (fR R st) [] := by
  intro R
  induction R with
  | nil => intro st h; exact h
  | cons r R ih =>
    intro st h
    rw [fR_cons]
    refine ih _ ?_
    have hs := h.start
    generalize r.2.2.toNat = s at hs ⊢
    generalize r.1 = x at hs ⊢
    generalize r.2.1 = y at hs ⊢
    clear h ih
    induction s generalizing st with
    | zero => exact hs.fin
    | succ s ihs => exact ihs _ hs.step.1

/-- The places: 1, 0 and pairs without a common divisor. -/
theorem rpl_PT {a b c d : Int} (ha : -1000 ≤ a ∧ a ≤ 1000) (hb : -1000 ≤ b ∧ b ≤ 1000) (hc : -1000 ≤ c ∧ c ≤ 1000) (hd : -1000 ≤ d ∧ d ≤ 1000) {q : Int × Int} (h : q ∈ rpl a b c d) : PT q.1 q.2 := by
  obtain ⟨_, h1, h2⟩ := flK_N ha hb hc hd
  rcases mem_rpK h with e | ⟨j, hj, hy, _, hx⟩
  · rw [e]; exact .inl ⟨rfl, rfl⟩
  · obtain ⟨x1, x2, _, x4⟩ := mem_xs hx
    exact .inr ⟨by omega, by omega, by omega, by omega, x4⟩
/-- Two points that are multiples of each other are one. -/
theorem PT_prop {x y s t : Int} (hx : 1 ≤ y) (hg : Int.gcd x y = 1) (ht : 1 ≤ t) (hg' : Int.gcd s t = 1) (h : y * s - x * t = 0) : x = s ∧ y = t := by
  have d1 : y ∣ x * t := ⟨s, by omega⟩
  have d2 : t ∣ s * y := ⟨x, by rw [Int.mul_comm s y, Int.mul_comm t x]; omega⟩
  have e1 := Int.le_of_dvd (by omega) (cop_dvd hg d1)
  have e2 := Int.le_of_dvd (by omega) (cop_dvd hg' d2)
  have e : y = t := by omega
  subst e
  have : y * (s - x) = 0 := by rw [Int.mul_sub, Int.mul_comm y x]; exact h
  have := mul_can hx this
  exact ⟨by omega, rfl⟩
theorem xsK_nodup (L y : Int) (i : Nat) : (xsK L y i).Nodup := by
  unfold xsK List.Nodup
  refine List.Pairwise.filter _ ?_
  rw [List.pairwise_map]
  exact List.nodup_range.imp fun h e => h (by omega)
theorem rpl_pw {a b c d : Int} (ha : -1000 ≤ a ∧ a ≤ 1000) (hb : -1000 ≤ b ∧ b ≤ 1000) (hc : -1000 ≤ c ∧ c ≤ 1000) (hd : -1000 ≤ d ∧ d ≤ 1000) : (rpl a b c d).Pairwise fun q q' => q.2 * q'.1 - q.1 * q'.2 ≠ 0 := by
  obtain ⟨_, h1, h2⟩ := flK_N ha hb hc hd
  unfold rpl rpK
  have hmem : ∀ {j : Nat} {q : Int × Int}, q ∈ rpY (fN a b c d) (lN a b c d) j → q.2 = (j : Int) + 1 ∧ Int.gcd q.1 q.2 = 1 := fun {j q} h => by
    unfold rpY at h
    split at h
    · obtain ⟨x, hx, rfl⟩ := List.mem_map.1 h
      exact ⟨rfl, (mem_xs hx).2.2.2⟩
    · cases h
  refine List.pairwise_cons.2 ⟨fun q hq => ?_, ?_⟩
  · obtain ⟨j, _, hq⟩ := List.mem_flatMap.1 hq
    have := (hmem hq).1
    simp only; omega
  · rw [List.pairwise_flatMap]
    refine ⟨fun j _ => ?_, ?_⟩
    · unfold rpY
      split
      · unfold prY
        rw [List.pairwise_map]
        refine (xsK_nodup _ _ _).imp_of_mem fun {x x'} hx hx' hne e => hne ?_
        exact (PT_prop (by omega) (mem_xs hx).2.2.2 (by omega) (mem_xs hx').2.2.2 e).1
      · exact List.Pairwise.nil
    · refine List.nodup_range.imp fun {j j'} hne q hq q' hq' e => hne ?_
      obtain ⟨y1, g1⟩ := hmem hq
      obtain ⟨y2, g2⟩ := hmem hq'
      have := (PT_prop (by omega) g1 (by omega) g2 e).2
      omega
theorem rrt_pw {a b c d : Int} (ha : -1000 ≤ a ∧ a ≤ 1000) (hb : -1000 ≤ b ∧ b ≤ 1000) (hc : -1000 ≤ c ∧ c ≤ 1000) (hd : -1000 ≤ d ∧ d ≤ 1000) : (rrt a b c d).Pairwise fun r r' => r.2.1 * r'.1 - r.1 * r'.2.1 ≠ 0 := by
  unfold rrt rts
  have hm : ∀ {L : List Int} {q : Int × Int} {r : Int × Int × Int}, r ∈ rt1 0 L q → r.1 = q.1 ∧ r.2.1 = q.2 := fun {L q r} h => by
    unfold rt1 at h
    split at h
    · cases h
    · simp at h; subst h; exact ⟨rfl, rfl⟩
  rw [List.pairwise_flatMap]
  refine ⟨fun q _ => ?_, (rpl_pw ha hb hc hd).imp fun {q q'} h r hr r' hr' => ?_⟩
  · unfold rt1; split <;> simp
  · rw [(hm hr).1, (hm hr).2, (hm hr').1, (hm hr').2]; exact h
/-- The part without the content. -/
def ptl4 (a b c d : Int) : List Int := [a.tdiv (cnt a b c d), b.tdiv (cnt a b c d), c.tdiv (cnt a b c d), d.tdiv (cnt a b c d)]
theorem ptl4_m {a b c d : Int} (hN : mul0 (cnt a b c d) 0 = false) : cnt a b c d ≠ 0 ∧ [a, b, c, d] = (ptl4 a b c d).map (cnt a b c d * ·) := by
  have h0 : cnt a b c d ≠ 0 := fun h => by rw [mul0_0, h] at hN; simp at hN
  obtain ⟨d0, d1, d2, d3⟩ := cnt_dvd.1 (Int.dvd_refl (cnt a b c d))
  refine ⟨h0, ?_⟩
  simp only [ptl4, List.map_cons, List.map_nil, Int.mul_tdiv_cancel' d0, Int.mul_tdiv_cancel' d1, Int.mul_tdiv_cancel' d2, Int.mul_tdiv_cancel' d3]
theorem tdiv_bd {a g : Int} (ha : -1000 ≤ a ∧ a ≤ 1000) : -1000 ≤ a.tdiv g ∧ a.tdiv g ≤ 1000 := by
  have := Int.natAbs_tdiv_le_natAbs a g
  omega
theorem GL_f {a b c d : Int} (ha : -1000 ≤ a ∧ a ≤ 1000) (hb : -1000 ≤ b ∧ b ≤ 1000) (hc : -1000 ≤ c ∧ c ≤ 1000) (hd : -1000 ≤ d ∧ d ≤ 1000) (hN : mul0 (cnt a b c d) 0 = false) : GL [a, b, c, d] ∧ GL (ptl4 a b c d) := by
  obtain ⟨h0, e⟩ := ptl4_m hN
  have hn : ¬ (a = 0 ∧ b = 0 ∧ c = 0 ∧ d = 0) := fun h => h0 (cnt_0.2 h)
  refine ⟨GL.m4 hn ha hb hc hd, GL.m4 (fun ⟨e0, e1, e2, e3⟩ => hn ?_) (tdiv_bd ha) (tdiv_bd hb) (tdiv_bd hc) (tdiv_bd hd)⟩
  simp only [ptl4, e0, e1, e2, e3, List.map_cons, List.map_nil, Int.mul_zero, List.cons.injEq, and_true] at e
  exact ⟨e.1, e.2.1, e.2.2.1, e.2.2.2⟩
/-- At the beginning. -/
theorem FInv_0 {a b c d : Int} (ha : -1000 ≤ a ∧ a ≤ 1000) (hb : -1000 ≤ b ∧ b ≤ 1000) (hc : -1000 ≤ c ∧ c ≤ 1000) (hd : -1000 ≤ d ∧ d ≤ 1000) (hN : mul0 (cnt a b c d) 0 = false) : FInv ([], ptl4 a b c d) (rrt a b c d) := by
  obtain ⟨g1, g2⟩ := GL_f ha hb hc hd hN
  obtain ⟨h0, e⟩ := ptl4_m hN
  have hm : ∀ {x y : Int}, PT x y → mlt 0 x y 4 (ptl4 a b c d) = mlt 0 x y 4 [a, b, c, d] := fun hp => by
    have := mlt_sc hp h0 4 g2 (e ▸ g1)
    rw [← e] at this
    exact this.symm
  refine ⟨g2, rfl, fun r hr => (by cases hr), fun r hr => ?_, rrt_pw ha hb hc hd, ?_⟩
  · unfold rrt rts at hr
    obtain ⟨q, hq, hr⟩ := List.mem_flatMap.1 hr
    have hp := rpl_PT ha hb hc hd hq
    unfold rt1 at hr
    split at hr
    · cases hr
    · simp at hr; subst hr
      exact ⟨hp, by rw [hm hp]⟩
  · by_cases hz : mlt 0 1 0 4 (ptl4 a b c d) = 0
    · exact .inl hz
    · rw [hm (.inl ⟨rfl, rfl⟩)] at hz
      refine .inr ⟨(1, 0, ((mlt 0 1 0 4 [a, b, c, d] : Nat) : Int)), ?_, rfl, rfl⟩
      unfold rrt rts
      refine List.mem_flatMap.2 ⟨(1, 0), by simp [rpl, rpK], ?_⟩
      unfold rt1
      rw [if_neg hz]
      simp
/-- What FactorForm finds. -/
def fac (a b c d : Int) : List (List Int) × List Int := fR (rrt a b c d) ([], ptl4 a b c d)
def fsg (L : List Int) : Int := if L.headD 0 < 0 then -1 else 1
def frs (L : List Int) : List Int := L.map (fsg L * ·)


end Go.Proofs.YthheongdgcfngaaDoor

/- Chapter 5: the model's division by y X - x Y: mathematics. -/
namespace Go.Proofs.YthheongdgcfngaaDoor
open Go.RowKit

def lastD (qs : List Int) : Int := qs.getLast?.getD 0
theorem lastD_app (qs : List Int) (q : Int) : lastD (qs ++ [q]) = q := by simp [lastD]
theorem mulA_app (x y : Int) : ∀ (qs : List Int) (p q : Int), mulA x y p (qs ++ [q]) = (mulA x y p qs).take qs.length ++ [y * q - x * (qs.getLast?.getD p), -(x * q)] := by
  intro qs
  induction qs with
  | nil => intro p q; simp [mulA]
  | cons m qs ih =>
    intro p q
    simp only [List.cons_append, mulA, ih, List.length_cons, List.take_succ_cons]
    congr 3
    cases qs <;> simp [List.getLast?_cons]
theorem mulL_app (x y : Int) (qs : List Int) (q : Int) : mulL x y (qs ++ [q]) = (mulL x y qs).take qs.length ++ [y * q - x * lastD qs, -(x * q)] := mulA_app x y qs 0 q
theorem mulA_end (x y : Int) : ∀ (qs : List Int) (p : Int), mulA x y p qs = (mulA x y p qs).take qs.length ++ [-(x * (qs.getLast?.getD p))] := by
  intro qs
  induction qs with
  | nil => intro p; simp [mulA]
  | cons m qs ih =>
    intro p
    simp only [mulA, List.length_cons, List.take_succ_cons, List.cons_append]
    congr 1
    rw [ih m]
    congr 1
    · rw [← ih m]
    · cases qs <;> simp [List.getLast?_cons]
theorem mulL_end (x y : Int) (qs : List Int) : mulL x y qs = (mulL x y qs).take qs.length ++ [-(x * lastD qs)] := mulA_end x y qs 0
/-- The quotient's first numbers are settled by the product's. -/
theorem mulA_uni {x y : Int} (hy : y ≠ 0) : ∀ (qs M : List Int) (p : Int), qs.length ≤ M.length → (mulA x y p qs).take qs.length = (mulA x y p M).take qs.length → qs = M.take qs.length := by
  intro qs
  induction qs with
  | nil => intro M p _ _; simp
  | cons q qs ih =>
    intro M p hl h
    cases M with
    | nil => simp at hl
    | cons m M =>
      simp only [mulA, List.length_cons, List.take_succ_cons, List.cons.injEq] at h hl ⊢
      obtain ⟨h1, h2⟩ := h
      have e : q = m := Int.eq_of_mul_eq_mul_left hy (by omega)
      subst e
      exact ⟨rfl, ih M q (by omega) h2⟩
/-- The first numbers of the quotient. -/
def Pq (x y : Int) (L qs : List Int) : Prop := qs.length < L.length ∧ L.take qs.length = (mulL x y qs).take qs.length
theorem Pq.nil {x y : Int} {L : List Int} (h : 0 < L.length) : Pq x y L [] := ⟨h, by simp⟩
theorem Pq.step {x y : Int} {L qs : List Int} (h : Pq x y L qs) {q : Int} (hl : qs.length + 1 < L.length) (e : L.getD qs.length 0 = y * q - x * lastD qs) : Pq x y L (qs ++ [q]) := by
  refine ⟨by simp; omega, ?_⟩
  rw [List.length_append, List.length_singleton, take_succ_getD L _ (by omega), h.2, e, mulL_app, List.take_append]
  have hm : ((mulL x y qs).take qs.length).length = qs.length := by simp [mulL_len]
  simp [hm, List.take_take, show min (qs.length + 1) qs.length = qs.length by omega]
theorem Pq.eq {x y : Int} {L qs M : List Int} (h : Pq x y L qs) (hy : y ≠ 0) (e : L = mulL x y M) : qs = M.take qs.length := by
  have hl := mulL_len x y M
  rw [← e] at hl
  refine mulA_uni (x := x) hy qs M 0 (by have := h.1; omega) ?_
  have := h.2
  rw [e] at this
  exact this.symm
theorem Pq.val {x y : Int} {L qs M : List Int} (h : Pq x y L qs) (hy : y ≠ 0) (e : L = mulL x y M) (hl : qs.length < M.length) : L.getD qs.length 0 + x * lastD qs = y * M.getD qs.length 0 := by
  have hq := h.eq hy e
  have h2 : Pq x y L (M.take (qs.length + 1)) := by
    refine ⟨by have := mulL_len x y M; rw [← e] at this; simp; omega, ?_⟩
    have ha : ∀ (k : Nat) (M : List Int) (p : Int), k ≤ M.length → (mulA x y p M).take k = (mulA x y p (M.take k)).take k := by
      intro k
      induction k with
      | zero => intro M p _; simp
      | succ k ih =>
        intro M p hk
        cases M with
        | nil => simp at hk
        | cons m M => simp only [mulA, List.take_succ_cons]; rw [ih M m (by simpa using hk)]
    have := ha (qs.length + 1) M 0 (by omega)
    rw [List.length_take, Nat.min_eq_left (by omega), e]
    exact this
  have h3 : M.take (qs.length + 1) = qs ++ [M.getD qs.length 0] := by
    rw [List.take_succ_eq_append_getElem hl, ← hq]; simp [List.getD, hl]
  rw [h3] at h2
  have h4 := h2.2
  rw [List.length_append, List.length_singleton, take_succ_getD L _ h.1, mulL_app, h.2, List.take_append] at h4
  have hm : ((mulL x y qs).take qs.length).length = qs.length := by simp [mulL_len]
  simp [hm, List.take_take, show min (qs.length + 1) qs.length = qs.length by omega] at h4
  simp only [List.getD]
  omega
/-- Where the division fails the form is no multiple. -/
theorem Pq.no {x y : Int} {L qs : List Int} (h : Pq x y L qs) (hL : GL L) (hp : PT x y) (hy : y ≠ 0) (hl : qs.length + 1 < L.length) (hn : ¬ y ∣ L.getD qs.length 0 + x * lastD qs) : ev L x y ≠ 0 := fun h0 => by
  obtain ⟨M, e⟩ := ev_mul hL hp h0
  have hm := mulL_len x y M
  rw [← e] at hm
  exact hn ⟨_, h.val hy e (by omega)⟩
theorem ev_mulL {L M : List Int} {x y : Int} (hL : GL L) (e : L = mulL x y M) : ev L x y = 0 := by
  have hm := mulL_len x y M
  rw [← e] at hm
  rw [e, ev_app (by have := hL.2.1; omega), Int.mul_comm y x, Int.sub_self, Int.zero_mul]
theorem Pq.fin {x y : Int} {L qs : List Int} (h : Pq x y L qs) (hL : GL L) (hp : PT x y) (hy : y ≠ 0) (hl : qs.length + 1 = L.length) : (L.getD qs.length 0 + x * lastD qs = 0 ↔ ev L x y = 0) ∧ (ev L x y = 0 → dvd L x y = qs) := by
  have hx : L = L.take qs.length ++ [L.getD qs.length 0] := by
    have := List.take_succ_eq_append_getElem (l := L) h.1
    rw [List.take_of_length_le (by omega)] at this
    simpa [List.getD, h.1] using this
  have k1 : L.getD qs.length 0 + x * lastD qs = 0 → L = mulL x y qs := fun h0 => by
    rw [mulL_end, ← h.2]
    rw [show -(x * lastD qs) = L.getD qs.length 0 by omega]
    exact hx
  have k2 : ev L x y = 0 → L = mulL x y qs := fun h0 => by
    obtain ⟨M, e⟩ := ev_mul hL hp h0
    have hm := mulL_len x y M
    rw [← e] at hm
    have hq := h.eq hy e
    rw [List.take_of_length_le (by omega)] at hq
    rw [hq]; exact e
  refine ⟨⟨fun h0 => ev_mulL hL (k1 h0), fun h0 => ?_⟩, fun h0 => (dvd_mul hL hp (k2 h0)).1⟩
  have e := k2 h0
  have e2 := mulL_end x y qs
  rw [← e] at e2
  have e3 := List.append_cancel_left (hx.symm.trans e2)
  simp at e3
  simp only [List.getD]
  omega
/-- The numbers of a quotient are not too great. -/
theorem Pq.bd {x y : Int} {L qs : List Int} (h : Pq x y L qs) (hL : GL L) (hp : PT x y) (hy : y ≠ 0) : -1003003001000 ≤ lastD qs ∧ lastD qs ≤ 1003003001000 := by
  obtain ⟨hx, _⟩ := hp.bd
  have hy1 : 1 ≤ y := by rcases hp with ⟨_, h⟩ | h <;> omega
  obtain ⟨h1, h2⟩ := h
  rcases hL.cases with ⟨a, rfl⟩ | ⟨a, b, rfl⟩ | ⟨a, b, c, rfl⟩ | ⟨a, b, c, d, rfl⟩
  · have : qs = [] := by cases qs; rfl; simp at h1
    subst this; simp [lastD]
  · rcases (show qs.length = 0 ∨ qs.length = 1 by simp at h1; omega) with e | e
    · rw [List.length_eq_zero_iff.1 e]; simp [lastD]
    · obtain ⟨q, rfl⟩ := len_1 e
      obtain ⟨_, ha, _⟩ := hL.b2
      simp [mulL1] at h2
      have := quo_bd (B := 1003003001000) hy1 (z := q) (by omega)
      simpa [lastD] using this
  · obtain ⟨_, ha, hb, _⟩ := hL.b3
    rcases (show qs.length = 0 ∨ qs.length = 1 ∨ qs.length = 2 by simp at h1; omega) with e | e | e
    · rw [List.length_eq_zero_iff.1 e]; simp [lastD]
    · obtain ⟨q, rfl⟩ := len_1 e
      simp [mulL1] at h2
      have := quo_bd (B := 1002001000) hy1 (z := q) (by omega)
      simp [lastD]; omega
    · obtain ⟨q, r, rfl⟩ := len_2 e
      simp [mulL2] at h2
      have q1 := quo_bd (B := 1002001000) hy1 (z := q) (by omega)
      have m1 := mulb hx q1
      have := quo_bd (B := 1003003001000) hy1 (z := r) (by omega)
      simpa [lastD] using this
  · obtain ⟨_, ha, hb, hc, _⟩ := hL.b4
    rcases (show qs.length = 0 ∨ qs.length = 1 ∨ qs.length = 2 ∨ qs.length = 3 by simp at h1; omega) with e | e | e | e
    · rw [List.length_eq_zero_iff.1 e]; simp [lastD]
    · obtain ⟨q, rfl⟩ := len_1 e
      simp [mulL1] at h2
      have := quo_bd (B := 1000) hy1 (z := q) (by omega)
      simp [lastD]; omega
    · obtain ⟨q, r, rfl⟩ := len_2 e
      simp [mulL2] at h2
      have q1 := quo_bd (B := 1000) hy1 (z := q) (by omega)
      have m1 := mulb hx q1
      have := quo_bd (B := 1001000) hy1 (z := r) (by omega)
      simp [lastD]; omega
    · obtain ⟨q, r, s, rfl⟩ := len_3 e
      simp [mulL3] at h2
      have q1 := quo_bd (B := 1000) hy1 (z := q) (by omega)
      have m1 := mulb hx q1
      have q2 := quo_bd (B := 1001000) hy1 (z := r) (by omega)
      have m2 := mulb hx q2
      have := quo_bd (B := 1001001000) hy1 (z := s) (by omega)
      simp [lastD]; omega


end Go.Proofs.YthheongdgcfngaaDoor
