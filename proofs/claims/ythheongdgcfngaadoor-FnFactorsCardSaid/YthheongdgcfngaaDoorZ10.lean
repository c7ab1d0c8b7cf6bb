/- Several texts in one: XFb, XFk, XAp. -/
import Derived.Test.YthheongdgcfngaaDoorZ8
import Derived.Test.YthheongdgcfngaaDoorGq
import Derived.Test.YthheongdgcfngaaDoorZ2
import Derived.Deep.AppendLies

/- Chapter 5: factors: the rows and the rest, root by root. Mathematics; no Go function in sight. -/
namespace Go.Proofs.YthheongdgcfngaaDoor
open Go.RowKit

theorem mlt_fuel {x y : Int} (hp : PT x y) : ∀ (n m : Nat) {L : List Int}, GL L → L.length ≤ n → L.length ≤ m → mlt 0 x y n L = mlt 0 x y m L := by
  intro n
  induction n with
  | zero => intro m L h h0 _; have := h.1; omega
  | succ n ih =>
    intro m L h h0 h1
    cases m with
    | zero => have := h.1; omega
    | succ m =>
      rw [mlt_e h hp, mlt_e h hp]
      by_cases e : ev L x y = 0
      · obtain ⟨M, eM⟩ := ev_mul h hp e
        obtain ⟨d, hM⟩ := dvd_mul h hp eM
        have hl := mulL_len x y M
        rw [← eM] at hl
        rw [if_pos e, if_pos e, d, ih m hM (by omega) (by omega)]
      · rw [if_neg e, if_neg e]
theorem mulA_sc (x y k : Int) : ∀ (M : List Int) (p : Int), (mulA x y p M).map (k * ·) = mulA x y (k * p) (M.map (k * ·)) := by
  intro M
  induction M with
  | nil => intro p; simp [mulA]; grind
  | cons m M ih => intro p; simp only [mulA, List.map_cons, ih]; congr 1; grind
theorem mulL_sc (x y k : Int) (M : List Int) : (mulL x y M).map (k * ·) = mulL x y (M.map (k * ·)) := by
  unfold mulL; rw [mulA_sc, Int.mul_zero]
theorem ev_sc {L : List Int} (h : GL L) (k x y : Int) : ev (L.map (k * ·)) x y = k * ev L x y := by
  rcases h.cases with ⟨a, rfl⟩ | ⟨a, b, rfl⟩ | ⟨a, b, c, rfl⟩ | ⟨a, b, c, d, rfl⟩
  · simp only [List.map_cons, List.map_nil, ev1]
  · simp only [List.map_cons, List.map_nil, ev2]; grind
  · simp only [List.map_cons, List.map_nil, ev3]; grind
  · simp only [List.map_cons, List.map_nil, ev4]; unfold vx; grind
/-- Multiples have the same roots. -/
theorem mlt_sc {x y k : Int} (hp : PT x y) (hk : k ≠ 0) : ∀ (n : Nat) {L : List Int}, GL L → GL (L.map (k * ·)) → mlt 0 x y n (L.map (k * ·)) = mlt 0 x y n L := by
  intro n
  induction n with
  | zero => intro _ _ _; rfl
  | succ n ih =>
    intro L h h'
    rw [mlt_e h hp, mlt_e h' hp, ev_sc h]
    by_cases e : ev L x y = 0
    · obtain ⟨M, eM⟩ := ev_mul h hp e
      obtain ⟨d, hM⟩ := dvd_mul h hp eM
      obtain ⟨d', hM'⟩ := dvd_mul h' hp (by rw [eM, mulL_sc])
      rw [if_pos e, if_pos (by rw [e]; simp), d, d', ih hM hM']
    · rw [if_neg e, if_neg (fun h0 => (Int.mul_eq_zero.1 h0).elim hk e)]

theorem mlt_le (x y : Int) : ∀ (n : Nat) (L : List Int), mlt 0 x y n L ≤ n := by
  intro n
  induction n with
  | zero => intro L; simp [mlt]
  | succ n ih =>
    intro L
    simp only [mlt]
    split
    · have := ih (dvd L x y); omega
    · omega

/-- One root, s times: the rows, the rest. -/
def fJ (x y : Int) : Nat → List (List Int) × List Int → List (List Int) × List Int
  | 0, st => st
  | s + 1, st => fJ x y s (st.1 ++ [[x, y]], dvd st.2 x y)
def fR (R : List (Int × Int × Int)) (st : List (List Int) × List Int) : List (List Int) × List Int := R.foldl (fun st r => fJ r.1 r.2.1 r.2.2.toNat st) st
theorem fR_cons (r : Int × Int × Int) (R : List (Int × Int × Int)) (st : List (List Int) × List Int) : fR (r :: R) st = fR R (fJ r.1 r.2.1 r.2.2.toNat st) := rfl
structure FInv (st : List (List Int) × List Int) (R : List (Int × Int × Int)) : Prop where
  gl : GL st.2
  len : st.1.length + st.2.length = 4
  wid : ∀ r ∈ st.1, r.length = 2
  rt : ∀ r ∈ R, PT r.1 r.2.1 ∧ ((mlt 0 r.1 r.2.1 4 st.2 : Nat) : Int) = r.2.2
  pw : R.Pairwise fun r r' => r.2.1 * r'.1 - r.1 * r'.2.1 ≠ 0
  hd : mlt 0 1 0 4 st.2 = 0 ∨ ∃ r ∈ R, r.1 = 1 ∧ r.2.1 = 0
structure FInJ (st : List (List Int) × List Int) (x y : Int) (s : Nat) (R : List (Int × Int × Int)) : Prop where
  gl : GL st.2
  len : st.1.length + st.2.length = 4
  wid : ∀ r ∈ st.1, r.length = 2
  pt : PT x y
  mu : mlt 0 x y 4 st.2 = s
  rt : ∀ r ∈ R, PT r.1 r.2.1 ∧ ((mlt 0 r.1 r.2.1 4 st.2 : Nat) : Int) = r.2.2 ∧ y * r.1 - x * r.2.1 ≠ 0
  pw : R.Pairwise fun r r' => r.2.1 * r'.1 - r.1 * r'.2.1 ≠ 0
  hd : mlt 0 1 0 4 st.2 = 0 ∨ (x = 1 ∧ y = 0) ∨ ∃ r ∈ R, r.1 = 1 ∧ r.2.1 = 0
theorem FInv.start {st : List (List Int) × List Int} {r : Int × Int × Int} {R : List (Int × Int × Int)} (h : FInv st (r :: R)) : FInJ st r.1 r.2.1 r.2.2.toNat R := by
  obtain ⟨p1, p2⟩ := List.pairwise_cons.1 h.pw
  obtain ⟨q1, q2⟩ := h.rt r List.mem_cons_self
  refine ⟨h.gl, h.len, h.wid, q1, by omega, fun r' hr' => ?_, p2, ?_⟩
  · obtain ⟨u1, u2⟩ := h.rt r' (List.mem_cons_of_mem _ hr')
    exact ⟨u1, u2, p1 r' hr'⟩
  · rcases h.hd with h0 | ⟨r', hr', e⟩
    · exact .inl h0
    · rcases List.mem_cons.1 hr' with rfl | hr'
      · exact .inr (.inl e)
      · exact .inr (.inr ⟨r', hr', e⟩)
theorem FInJ.z {st : List (List Int) × List Int} {x y : Int} {s : Nat} {R : List (Int × Int × Int)} (h : FInJ st x y (s + 1) R) : ev st.2 x y = 0 := by
  have := h.mu
  rw [mlt_e h.gl h.pt] at this
  split at this
  · assumption
  · omega
theorem FInJ.nz {st : List (List Int) × List Int} {x y : Int} {R : List (Int × Int × Int)} (h : FInJ st x y 0 R) : ev st.2 x y ≠ 0 := fun e => by
  have := h.mu
  rw [mlt_e h.gl h.pt, if_pos e] at this
  omega
theorem FInJ.step {st : List (List Int) × List Int} {x y : Int} {s : Nat} {R : List (Int × Int × Int)} (h : FInJ st x y (s + 1) R) : FInJ (st.1 ++ [[x, y]], dvd st.2 x y) x y s R ∧ 2 ≤ st.2.length := by
  have e := h.z
  obtain ⟨M, eM⟩ := ev_mul h.gl h.pt e
  obtain ⟨d, hM⟩ := dvd_mul h.gl h.pt eM
  have hl := mulL_len x y M
  rw [← eM] at hl
  have hM1 := hM.1
  have hm := h.mu
  have h4 := h.gl.2.1
  rw [mlt_e h.gl h.pt, if_pos e, d] at hm
  have hf := mlt_fuel h.pt 3 4 hM (by omega) (by omega)
  have hap : ∀ {x' y' : Int}, PT x' y' → y * x' - x * y' ≠ 0 → mlt 0 x' y' 4 M = mlt 0 x' y' 4 st.2 := fun hp' hne => (mlt_app hp' h.pt hne 4 h.gl eM).symm
  refine ⟨⟨by simpa [d] using hM, ?_, ?_, h.pt, by simp only [d]; omega, fun r hr => ?_, h.pw, ?_⟩, by omega⟩
  · have := h.len; simp only [d, List.length_append, List.length_singleton]; omega
  · intro r hr
    rcases List.mem_append.1 hr with hr | hr
    · exact h.wid r hr
    · simp at hr; subst hr; rfl
  · obtain ⟨u1, u2, u3⟩ := h.rt r hr
    exact ⟨u1, by simp only [d]; rw [hap u1 u3]; exact u2, u3⟩
  · simp only [d]
    by_cases hy : y * 1 - x * 0 ≠ 0
    · rw [hap (.inl ⟨rfl, rfl⟩) hy]; exact h.hd
    · rcases h.pt with q | q
      · exact .inr (.inl q)
      · omega
theorem FInJ.fin {st : List (List Int) × List Int} {x y : Int} {R : List (Int × Int × Int)} (h : FInJ st x y 0 R) : FInv st R := by
  refine ⟨h.gl, h.len, h.wid, fun r hr => ?_, h.pw, ?_⟩
  · obtain ⟨u1, u2, _⟩ := h.rt r hr
    exact ⟨u1, u2⟩
  · rcases h.hd with h0 | ⟨rfl, rfl⟩ | h0
    · exact .inl h0
    · exact .inl h.mu
    · exact .inr h0
/-- At the end the first number is not 0. -/
theorem FInv.head {st : List (List Int) × List Int} (h : FInv st []) : ∃ a L, st.2 = a :: L ∧ a ≠ 0 := by
  have h0 : mlt 0 1 0 4 st.2 = 0 := by
    rcases h.hd with h0 | ⟨r, hr, _⟩
    · exact h0
    · cases hr
  have he : ev st.2 1 0 ≠ 0 := fun e => by
    rw [mlt_e h.gl (.inl ⟨rfl, rfl⟩), if_pos e] at h0
    omega
  rcases h.gl.cases with ⟨a, e⟩ | ⟨a, b, e⟩ | ⟨a, b, c, e⟩ | ⟨a, b, c, d, e⟩ <;> rw [e] at he ⊢
  · rw [ev1] at he; exact ⟨_, _, rfl, he⟩
  · rw [ev2] at he; exact ⟨_, _, rfl, by simpa using he⟩
  · rw [ev3] at he; exact ⟨_, _, rfl, by simpa using he⟩
  · rw [ev4] at he; exact ⟨_, _, rfl, by simpa [vx] using he⟩
theorem fR_inv : ∀ (R : List (Int × Int × Int)) (st : List (List Int) × List Int), FInv st R → FInv (fR R st) [] := by
  intro R
  induction R with
  | nil => intro st h; exact h
  | cons r R ih =>
    intro st h
    rw [fR_cons]
    refine ih _ ?_
    have hs := h.start
    generalize r.2.2.toNat = s at hs ⊢
    generalize r.1 = x at hs ⊢
    generalize r.2.1 = y at hs ⊢
    clear h ih
    induction s generalizing st with
    | zero => exact hs.fin
    | succ s ihs => exact ihs _ hs.step.1

/-- The places: 1, 0 and pairs without a common divisor. -/
theorem rpl_PT {a b c d : Int} (ha : -1000 ≤ a ∧ a ≤ 1000) (hb : -1000 ≤ b ∧ b ≤ 1000) (hc : -1000 ≤ c ∧ c ≤ 1000) (hd : -1000 ≤ d ∧ d ≤ 1000) {q : Int × Int} (h : q ∈ rpl a b c d) : PT q.1 q.2 := by
  obtain ⟨_, h1, h2⟩ := flK_N ha hb hc hd
  rcases mem_rpK h with e | ⟨j, hj, hy, _, hx⟩
  · rw [e]; exact .inl ⟨rfl, rfl⟩
  · obtain ⟨x1, x2, _, x4⟩ := mem_xs hx
    exact .inr ⟨by omega, by omega, by omega, by omega, x4⟩
/-- Two points that are multiples of each other are one. -/
theorem PT_prop {x y s t : Int} (hx : 1 ≤ y) (hg : Int.gcd x y = 1) (ht : 1 ≤ t) (hg' : Int.gcd s t = 1) (h : y * s - x * t = 0) : x = s ∧ y = t := by
  have d1 : y ∣ x * t := ⟨s, by omega⟩
  have d2 : t ∣ s * y := ⟨x, by rw [Int.mul_comm s y, Int.mul_comm t x]; omega⟩
  have e1 := Int.le_of_dvd (by omega) (cop_dvd hg d1)
  have e2 := Int.le_of_dvd (by omega) (cop_dvd hg' d2)
  have e : y = t := by omega
  subst e
  have : y * (s - x) = 0 := by rw [Int.mul_sub, Int.mul_comm y x]; exact h
  have := mul_can hx this
  exact ⟨by omega, rfl⟩
theorem xsK_nodup (L y : Int) (i : Nat) : (xsK L y i).Nodup := by
  unfold xsK List.Nodup
  refine List.Pairwise.filter _ ?_
  rw [List.pairwise_map]
  exact List.nodup_range.imp fun h e => h (by omega)
theorem rpl_pw {a b c d : Int} (ha : -1000 ≤ a ∧ a ≤ 1000) (hb : -1000 ≤ b ∧ b ≤ 1000) (hc : -1000 ≤ c ∧ c ≤ 1000) (hd : -1000 ≤ d ∧ d ≤ 1000) : (rpl a b c d).Pairwise fun q q' => q.2 * q'.1 - q.1 * q'.2 ≠ 0 := by
  obtain ⟨_, h1, h2⟩ := flK_N ha hb hc hd
  unfold rpl rpK
  have hmem : ∀ {j : Nat} {q : Int × Int}, q ∈ rpY (fN a b c d) (lN a b c d) j → q.2 = (j : Int) + 1 ∧ Int.gcd q.1 q.2 = 1 := fun {j q} h => by
    unfold rpY at h
    split at h
    · obtain ⟨x, hx, rfl⟩ := List.mem_map.1 h
      exact ⟨rfl, (mem_xs hx).2.2.2⟩
    · cases h
  refine List.pairwise_cons.2 ⟨fun q hq => ?_, ?_⟩
  · obtain ⟨j, _, hq⟩ := List.mem_flatMap.1 hq
    have := (hmem hq).1
    simp only; omega
  · rw [List.pairwise_flatMap]
    refine ⟨fun j _ => ?_, ?_⟩
    · unfold rpY
      split
      · unfold prY
        rw [List.pairwise_map]
        refine (xsK_nodup _ _ _).imp_of_mem fun {x x'} hx hx' hne e => hne ?_
        exact (PT_prop (by omega) (mem_xs hx).2.2.2 (by omega) (mem_xs hx').2.2.2 e).1
      · exact List.Pairwise.nil
    · refine List.nodup_range.imp fun {j j'} hne q hq q' hq' e => hne ?_
      obtain ⟨y1, g1⟩ := hmem hq
      obtain ⟨y2, g2⟩ := hmem hq'
      have := (PT_prop (by omega) g1 (by omega) g2 e).2
      omega
theorem rrt_pw {a b c d : Int} (ha : -1000 ≤ a ∧ a ≤ 1000) (hb : -1000 ≤ b ∧ b ≤ 1000) (hc : -1000 ≤ c ∧ c ≤ 1000) (hd : -1000 ≤ d ∧ d ≤ 1000) : (rrt a b c d).Pairwise fun r r' => r.2.1 * r'.1 - r.1 * r'.2.1 ≠ 0 := by
  unfold rrt rts
  have hm : ∀ {L : List Int} {q : Int × Int} {r : Int × Int × Int}, r ∈ rt1 0 L q → r.1 = q.1 ∧ r.2.1 = q.2 := fun {L q r} h => by
    unfold rt1 at h
    split at h
    · cases h
    · simp at h; subst h; exact ⟨rfl, rfl⟩
  rw [List.pairwise_flatMap]
  refine ⟨fun q _ => ?_, (rpl_pw ha hb hc hd).imp fun {q q'} h r hr r' hr' => ?_⟩
  · unfold rt1; split <;> simp
  · rw [(hm hr).1, (hm hr).2, (hm hr').1, (hm hr').2]; exact h
/-- The part without the content. -/
def ptl4 (a b c d : Int) : List Int := [a.tdiv (cnt a b c d), b.tdiv (cnt a b c d), c.tdiv (cnt a b c d), d.tdiv (cnt a b c d)]
theorem ptl4_m {a b c d : Int} (hN : mul0 (cnt a b c d) 0 = false) : cnt a b c d ≠ 0 ∧ [a, b, c, d] = (ptl4 a b c d).map (cnt a b c d * ·) := by
  have h0 : cnt a b c d ≠ 0 := fun h => by rw [mul0_0, h] at hN; simp at hN
  obtain ⟨d0, d1, d2, d3⟩ := cnt_dvd.1 (Int.dvd_refl (cnt a b c d))
  refine ⟨h0, ?_⟩
  simp only [ptl4, List.map_cons, List.map_nil, Int.mul_tdiv_cancel' d0, Int.mul_tdiv_cancel' d1, Int.mul_tdiv_cancel' d2, Int.mul_tdiv_cancel' d3]
theorem tdiv_bd {a g : Int} (ha : -1000 ≤ a ∧ a ≤ 1000) : -1000 ≤ a.tdiv g ∧ a.tdiv g ≤ 1000 := by
  have := Int.natAbs_tdiv_le_natAbs a g
  omega
theorem GL_f {a b c d : Int} (ha : -1000 ≤ a ∧ a ≤ 1000) (hb : -1000 ≤ b ∧ b ≤ 1000) (hc : -1000 ≤ c ∧ c ≤ 1000) (hd : -1000 ≤ d ∧ d ≤ 1000) (hN : mul0 (cnt a b c d) 0 = false) : GL [a, b, c, d] ∧ GL (ptl4 a b c d) := by
  obtain ⟨h0, e⟩ := ptl4_m hN
  have hn : ¬ (a = 0 ∧ b = 0 ∧ c = 0 ∧ d = 0) := fun h => h0 (cnt_0.2 h)
  refine ⟨GL.m4 hn ha hb hc hd, GL.m4 (fun ⟨e0, e1, e2, e3⟩ => hn ?_) (tdiv_bd ha) (tdiv_bd hb) (tdiv_bd hc) (tdiv_bd hd)⟩
  simp only [ptl4, e0, e1, e2, e3, List.map_cons, List.map_nil, Int.mul_zero, List.cons.injEq, and_true] at e
  exact ⟨e.1, e.2.1, e.2.2.1, e.2.2.2⟩
/-- At the beginning. -/
theorem FInv_0 {a b c d : Int} (ha : -1000 ≤ a ∧ a ≤ 1000) (hb : -1000 ≤ b ∧ b ≤ 1000) (hc : -1000 ≤ c ∧ c ≤ 1000) (hd : -1000 ≤ d ∧ d ≤ 1000) (hN : mul0 (cnt a b c d) 0 = false) : FInv ([], ptl4 a b c d) (rrt a b c d) := by
  obtain ⟨g1, g2⟩ := GL_f ha hb hc hd hN
  obtain ⟨h0, e⟩ := ptl4_m hN
  have hm : ∀ {x y : Int}, PT x y → mlt 0 x y 4 (ptl4 a b c d) = mlt 0 x y 4 [a, b, c, d] := fun hp => by
    have := mlt_sc hp h0 4 g2 (e ▸ g1)
    rw [← e] at this
    exact this.symm
  refine ⟨g2, rfl, fun r hr => (by cases hr), fun r hr => ?_, rrt_pw ha hb hc hd, ?_⟩
  · unfold rrt rts at hr
    obtain ⟨q, hq, hr⟩ := List.mem_flatMap.1 hr
    have hp := rpl_PT ha hb hc hd hq
    unfold rt1 at hr
    split at hr
    · cases hr
    · simp at hr; subst hr
      exact ⟨hp, by rw [hm hp]⟩
  · by_cases hz : mlt 0 1 0 4 (ptl4 a b c d) = 0
    · exact .inl hz
    · rw [hm (.inl ⟨rfl, rfl⟩)] at hz
      refine .inr ⟨(1, 0, ((mlt 0 1 0 4 [a, b, c, d] : Nat) : Int)), ?_, rfl, rfl⟩
      unfold rrt rts
      refine List.mem_flatMap.2 ⟨(1, 0), by simp [rpl, rpK], ?_⟩
      unfold rt1
      rw [if_neg hz]
      simp
/-- What FactorForm finds. -/
def fac (a b c d : Int) : List (List Int) × List Int := fR (rrt a b c d) ([], ptl4 a b c d)
def fsg (L : List Int) : Int := if L.headD 0 < 0 then -1 else 1
def frs (L : List Int) : List Int := L.map (fsg L * ·)


end Go.Proofs.YthheongdgcfngaaDoor

/- Chapter 5: factors lead back: mathematics. -/
namespace Go.Proofs.YthheongdgcfngaaDoor
open Go.RowKit

/-- A list times the linear forms of rows. -/
def mulAll (Rs : List (List Int)) (L : List Int) : List Int := Rs.foldl (fun L r => mulL (r.getD 0 0) (r.getD 1 0) L) L
theorem mulAll_app (Rs : List (List Int)) (x y : Int) (L : List Int) : mulAll (Rs ++ [[x, y]]) L = mulL x y (mulAll Rs L) := by simp [mulAll, List.foldl_append, List.getD]
theorem mulAll_com (x y : Int) : ∀ (Rs : List (List Int)) (M : List Int), M.length + Rs.length ≤ 3 → mulAll Rs (mulL x y M) = mulL x y (mulAll Rs M) := by
  intro Rs
  induction Rs with
  | nil => intro M _; rfl
  | cons r Rs ih =>
    intro M h
    simp only [List.length_cons] at h
    show mulAll Rs (mulL _ _ (mulL x y M)) = mulL x y (mulAll Rs (mulL _ _ M))
    rw [mulL_com (by omega), ih _ (by rw [mulL_len]; omega)]
theorem FInJ.back {st : List (List Int) × List Int} {x y : Int} {s : Nat} {R : List (Int × Int × Int)} (h : FInJ st x y (s + 1) R) : mulAll (st.1 ++ [[x, y]]) (dvd st.2 x y) = mulAll st.1 st.2 := by
  obtain ⟨M, eM⟩ := ev_mul h.gl h.pt h.z
  obtain ⟨d, _⟩ := dvd_mul h.gl h.pt eM
  have hl := mulL_len x y M
  rw [← eM] at hl
  have := h.len
  rw [d, mulAll_app, ← mulAll_com x y st.1 M (by omega), ← eM]
theorem fR_back : ∀ (R : List (Int × Int × Int)) (st : List (List Int) × List Int), FInv st R → mulAll (fR R st).1 (fR R st).2 = mulAll st.1 st.2 := by
  intro R
  induction R with
  | nil => intro st _; rfl
  | cons r R ih =>
    intro st h
    rw [fR_cons]
    have hs := h.start
    have hj : ∀ (s : Nat) (st : List (List Int) × List Int), FInJ st r.1 r.2.1 s R → FInv (fJ r.1 r.2.1 s st) R ∧ mulAll (fJ r.1 r.2.1 s st).1 (fJ r.1 r.2.1 s st).2 = mulAll st.1 st.2 := by
      intro s
      induction s with
      | zero => intro st h; exact ⟨h.fin, rfl⟩
      | succ s ihs =>
        intro st h
        obtain ⟨k1, k2⟩ := ihs _ h.step.1
        exact ⟨k1, k2.trans h.back⟩
    obtain ⟨k1, k2⟩ := hj _ _ hs
    exact (ih _ k1).trans k2
/-- The factors of a form other than 0, times each other, are its part without the content. -/
theorem fac_back {a b c d : Int} (ha : -1000 ≤ a ∧ a ≤ 1000) (hb : -1000 ≤ b ∧ b ≤ 1000) (hc : -1000 ≤ c ∧ c ≤ 1000) (hd : -1000 ≤ d ∧ d ≤ 1000) (hN : mul0 (cnt a b c d) 0 = false) : mulAll (fac a b c d).1 (fac a b c d).2 = ptl4 a b c d :=
  fR_back _ _ (FInv_0 ha hb hc hd hN)


end Go.Proofs.YthheongdgcfngaaDoor

/- Appends to rows of the call's own, with all that they ask. -/
namespace Go.Proofs.YthheongdgcfngaaDoor
open Go.RowKit

/-- append(out, z), out a row of integers of the call's own: z lies in the newest block. -/
theorem app_i64 {ops : Array Oper} {rest : List Oper} {o : Oper} {a : Act} {Q : Exit → Act → World → Prop} {w : World} {T : TypeId} (hgd : o.guard = none) (s x : Operand)
    (ho : o.op = .call { callee := .builtin .append, args := #[s, x], argTypes := #[35, 35] }) (base : Nat) {v : Value} {n : Nat} {xs : List Value} (hs : a.eval s = v) (hown : w.ownsRow base 2 1 v n xs)
    {z : Int} (hx : a.eval x = .slice (some ⟨w.heap.size, 0, none⟩) 1 1) (hn : n ≤ 1000000000) (hbase : base ≤ w.heap.size)
    (h : ∀ v' w', w'.ownsRow base 2 1 v' (n + 1) (xs ++ [.int .i64 z]) → (w.alloc (.cells #[.int .i64 z] T)).grownBy w' v.ownBlock → wpList Tryd.prog ops Q rest (a.put o.dst v') w') : wpList Tryd.prog ops Q (o :: rest) a (w.alloc (.cells #[.int .i64 z] T)) := by
  obtain ⟨i0, hi, hi0, hi1, hi2⟩ := info_parts info_l64
  refine wpList_append_own _ hgd s x 35 ho base 2 i0 (.int .i64 0) 1 8 Tryd.underlying35 hi hi0 hi1 hi2 rfl (by decide) v n xs hs (hown.alloc _) ⟨w.heap.size, 0, none⟩ 1 1 [.int .i64 z] hx rfl ?_ ?_ ?_ ?_ ?_ (fun v' w' h1 h2 _ => h v' w' h1 h2)
  · intro j u hj
    match j, hj with
    | 0, hj => simp at hj; subst hj; simp [Addr.add, go_sem]
  · intro u hu; simp at hu; subst hu; rfl
  · unfold maxLen; omega
  · omega
  · simp; omega

/-- .. the newest block told by its number. -/
theorem app_i64n {ops : Array Oper} {rest : List Oper} {o : Oper} {a : Act} {Q : Exit → Act → World → Prop} {w : World} {T : TypeId} (hgd : o.guard = none) (s x : Operand)
    (ho : o.op = .call { callee := .builtin .append, args := #[s, x], argTypes := #[35, 35] }) (base N : Nat) {v : Value} {n : Nat} {xs : List Value} (hs : a.eval s = v) (hown : w.ownsRow base 2 1 v n xs)
    {z : Int} (hx : a.eval x = .slice (some ⟨N, 0, none⟩) 1 1) (hN : N = w.heap.size) (hn : n ≤ 1000000000) (hbase : base ≤ w.heap.size)
    (h : ∀ v' w', w'.ownsRow base 2 1 v' (n + 1) (xs ++ [.int .i64 z]) → (w.alloc (.cells #[.int .i64 z] T)).grownBy w' v.ownBlock → wpList Tryd.prog ops Q rest (a.put o.dst v') w') : wpList Tryd.prog ops Q (o :: rest) a (w.alloc (.cells #[.int .i64 z] T)) := by
  subst hN
  exact app_i64 hgd s x ho base hs hown hx hn hbase h

/-- .. in a region that draws its order. -/
theorem step_i64 {ops : Array Oper} {o : Oper} {a : Act} {K : Act → World → Prop} {Q : Exit → Act → World → Prop} {E : Prop} {w : World} {T : TypeId} (hgd : o.guard = none) (s x : Operand)
    (ho : o.op = .call { callee := .builtin .append, args := #[s, x], argTypes := #[35, 35] }) (base : Nat) (v : Value) {n : Nat} {xs : List Value} (hs : a.eval s = v) (hown : w.ownsRow base 2 1 v n xs)
    (z : Int) (hx : a.eval x = .slice (some ⟨w.heap.size, 0, none⟩) 1 1) (hn : n ≤ 1000000000) (hbase : base ≤ w.heap.size)
    (h : ∀ g cap w', w'.ownsRow base 2 1 (.slice (some ⟨g, 0, none⟩) (n + 1) cap) (n + 1) (xs ++ [.int .i64 z]) → (w.alloc (.cells #[.int .i64 z] T)).grownBy w' v.ownBlock → K (a.put o.dst (.slice (some ⟨g, 0, none⟩) (n + 1) cap)) w') :
    if Region.wanted o (yielded ops a.tmps) = true then Oper.wp Tryd.prog o a (w.alloc (.cells #[.int .i64 z] T)) K Q else E := by
  obtain ⟨i0, hi, hi0, hi1, hi2⟩ := info_parts info_l64
  refine step_append_lies _ hgd s x 35 ho base 2 i0 (.int .i64 0) 1 8 Tryd.underlying35 hi hi0 hi1 hi2 rfl (by decide) v n xs hs (hown.alloc _) ⟨w.heap.size, 0, none⟩ 1 1 [.int .i64 z] hx rfl ?_ ?_ (by decide) ?_ ?_ ?_ _ rfl (fun g cap w' h1 h2 _ _ => h g cap w' h1 h2)
  · intro j u hj
    match j, hj with
    | 0, hj => simp at hj; subst hj; simp [Addr.add, go_sem]
  · intro u hu; simp at hu; subst hu; rfl
  · unfold maxLen; omega
  · omega
  · simp; omega


end Go.Proofs.YthheongdgcfngaaDoor
