/- Chapter 5: what FnFactors asks of the numbers. Mathematics; no Go function in sight. -/
import Derived.Test.YthheongdgcfngaaDoorZ10
import Derived.Test.YthheongdgcfngaaDoorGw
namespace Go.Proofs.YthheongdgcfngaaDoor
open Go.RowKit

/-- A rational root is a place with the value 0, within the limits. -/
theorem rrt_z {a b c d : Int} (hF : isF a b c d = true) (hN : mul0 (cnt a b c d) 0 = false) {r : Int × Int × Int} (hr : r ∈ rrt a b c d) : va0 a b c d r.1 r.2.1 = 0 ∧ plc a b c d r.1 r.2.1 = 0 := by
  obtain ⟨ha, hb, hc, hd⟩ := isF_t hF
  obtain ⟨g1, _⟩ := GL_f ha hb hc hd hN
  unfold rrt rts at hr
  obtain ⟨q, hq, hr⟩ := List.mem_flatMap.1 hr
  have hp := rpl_PT ha hb hc hd hq
  obtain ⟨hx, hy⟩ := hp.bd
  unfold rt1 at hr
  split at hr
  · cases hr
  · rename_i hm
    simp at hr; subst hr
    rw [mlt_e g1 hp] at hm
    have he : ev [a, b, c, d] q.1 q.2 = 0 := by
      split at hm
      · assumption
      · exact absurd rfl hm
    rw [ev4] at he
    have hp0 : plc a b c d q.1 q.2 = 0 := by
      unfold plc
      rw [hF, rng_mk (show -10000 ≤ q.1 by omega) (show q.1 ≤ 10000 by omega), rng_mk (show -10000 ≤ q.2 by omega) (show q.2 ≤ 10000 by omega)]
      rfl
    refine ⟨?_, hp0⟩
    show va0 a b c d q.1 q.2 = 0
    unfold va0
    rw [if_pos hp0, vl_wr, he]
    exact wr_0
theorem rrt_pos {a b c d : Int} {r : Int × Int × Int} (hr : r ∈ rrt a b c d) : 1 ≤ r.2.2.toNat := by
  unfold rrt rts at hr
  obtain ⟨q, hq, hr⟩ := List.mem_flatMap.1 hr
  unfold rt1 at hr
  split at hr
  · cases hr
  · rename_i hm
    simp at hr; subst hr
    simp only [Int.toNat_natCast]
    omega
theorem fJ_len (x y : Int) : ∀ (s : Nat) (st : List (List Int) × List Int), (fJ x y s st).1.length = st.1.length + s := by
  intro s
  induction s with
  | zero => intro st; rfl
  | succ s ih => intro st; rw [fJ, ih]; simp; omega
theorem fR_len : ∀ (R : List (Int × Int × Int)) (st : List (List Int) × List Int), (∀ r ∈ R, 1 ≤ r.2.2.toNat) → st.1.length + R.length ≤ (fR R st).1.length := by
  intro R
  induction R with
  | nil => intro st _; exact Nat.le_refl _
  | cons r R ih =>
    intro st h
    rw [fR_cons]
    have h1 := ih (fJ r.1 r.2.1 r.2.2.toNat st) (fun r' hr' => h r' (List.mem_cons_of_mem _ hr'))
    have h2 := fJ_len r.1 r.2.1 r.2.2.toNat st
    have h3 := h r List.mem_cons_self
    simp only [List.length_cons]
    omega
/-- There are at most three rational roots. -/
theorem rrt_3 {a b c d : Int} (hF : isF a b c d = true) (hN : mul0 (cnt a b c d) 0 = false) : (rrt a b c d).length ≤ 3 := by
  obtain ⟨ha, hb, hc, hd⟩ := isF_t hF
  have h := fR_inv _ _ (FInv_0 ha hb hc hd hN)
  have h1 := fR_len (rrt a b c d) ([], ptl4 a b c d) (fun r hr => rrt_pos hr)
  have h2 := h.len
  have h3 := h.gl.1
  simp only [List.length_nil] at h1
  omega
theorem fsg_sq (L : List Int) : fsg L * fsg L = 1 := by unfold fsg; split <;> rfl
theorem rrc_t {a b c d : Int} (h : rrc a b c d = 0) : isF a b c d = true ∧ mul0 (cnt a b c d) 0 = false := by
  unfold rrc at h
  split at h
  · rename_i hF
    refine ⟨hF, ?_⟩
    cases hm : mul0 (cnt a b c d) 0
    · rfl
    · rw [hm] at h; simp at h
  · omega
/-- The list that the law begins with, and what the roots make of it. -/
def bgn (sg n : Int) (L : List Int) : List Int := L.map (fun r => sg * n * r)
theorem mulAll_sc (k : Int) : ∀ (Rs : List (List Int)) (L : List Int), mulAll Rs (L.map (k * ·)) = (mulAll Rs L).map (k * ·) := by
  intro Rs
  induction Rs with
  | nil => intro L; rfl
  | cons r Rs ih =>
    intro L
    show mulAll Rs (mulL _ _ _) = (mulAll Rs (mulL _ _ _)).map _
    rw [← mulL_sc, ih]
theorem fac_all {a b c d : Int} (h : rrc a b c d = 0) : mulAll (fac a b c d).1 (bgn (fsg (fac a b c d).2) (cnt a b c d) (frs (fac a b c d).2)) = [a, b, c, d] := by
  obtain ⟨hF, hN⟩ := rrc_t h
  obtain ⟨ha, hb, hc, hd⟩ := isF_t hF
  obtain ⟨_, e⟩ := ptl4_m hN
  have hb2 : bgn (fsg (fac a b c d).2) (cnt a b c d) (frs (fac a b c d).2) = (fac a b c d).2.map (cnt a b c d * ·) := by
    unfold bgn frs
    rw [List.map_map]
    refine List.map_congr_left fun r _ => ?_
    have := fsg_sq (fac a b c d).2
    simp only [Function.comp]
    generalize fsg (fac a b c d).2 = s at this
    rw [show s * cnt a b c d * (s * r) = (s * s) * (cnt a b c d * r) by grind, this, Int.one_mul]
  rw [hb2, mulAll_sc, fac_back ha hb hc hd hN, ← e]
theorem fac_ln {a b c d : Int} (h : rrc a b c d = 0) : (fac a b c d).1.length + (frs (fac a b c d).2).length = 4 ∧ 1 ≤ (frs (fac a b c d).2).length ∧ ∀ r ∈ (fac a b c d).1, r.length = 2 := by
  obtain ⟨hF, hN⟩ := rrc_t h
  obtain ⟨ha, hb, hc, hd⟩ := isF_t hF
  have h := fR_inv _ _ (FInv_0 ha hb hc hd hN)
  have h2 := h.len
  have h3 := h.gl.1
  have e : fac a b c d = fR (rrt a b c d) ([], ptl4 a b c d) := rfl
  rw [← e] at h2 h3
  refine ⟨?_, ?_, fun r hr => h.wid r hr⟩ <;> simp only [frs, List.length_map] <;> omega
theorem mulAll_len : ∀ (Rs : List (List Int)) (L : List Int), (mulAll Rs L).length = L.length + Rs.length := by
  intro Rs
  induction Rs with
  | nil => intro L; rfl
  | cons r Rs ih =>
    intro L
    show (mulAll Rs (mulL _ _ _)).length = _
    rw [ih, mulL_len, List.length_cons]; omega
theorem mulAll_take {Rs : List (List Int)} {k : Nat} (h : k < Rs.length) (L : List Int) : mulAll (Rs.take (k + 1)) L = mulL (Rs.getD k []|>.getD 0 0) (Rs.getD k []|>.getD 1 0) (mulAll (Rs.take k) L) := by
  rw [List.take_succ_eq_append_getElem h]
  unfold mulAll
  rw [List.foldl_append]
  simp [List.getD, h]
/-- The next list, after j rounds. -/
def nx (x y : Int) (L : List Int) (j : Nat) : List Int := (List.range (L.length + 1)).map fun i => (if i < j then y * L.getD i 0 else 0) - (if 1 ≤ i ∧ i ≤ j then x * L.getD (i - 1) 0 else 0)
theorem nx_len (x y : Int) (L : List Int) (j : Nat) : (nx x y L j).length = L.length + 1 := by simp [nx]
theorem nx_get {x y : Int} {L : List Int} {j i : Nat} (h : i < L.length + 1) : (nx x y L j).getD i 0 = (if i < j then y * L.getD i 0 else 0) - (if 1 ≤ i ∧ i ≤ j then x * L.getD (i - 1) 0 else 0) := by
  simp [nx, List.getD, h]
theorem nx_0 (x y : Int) (L : List Int) : nx x y L 0 = List.replicate (L.length + 1) 0 := by
  refine List.ext_getElem (by simp [nx]) fun i h1 h2 => ?_
  simp only [nx, List.getElem_map, List.getElem_range, List.getElem_replicate]
  rw [if_neg (by omega), if_neg (by omega)]; rfl
theorem mulA_get (x y : Int) : ∀ (M : List Int) (p : Int) (i : Nat), i < M.length + 1 → (mulA x y p M).getD i 0 = y * M.getD i 0 - x * (if i = 0 then p else M.getD (i - 1) 0) := by
  intro M
  induction M with
  | nil => intro p i h; simp at h; subst h; simp [mulA]
  | cons m M ih =>
    intro p i h
    cases i with
    | zero => simp [mulA]
    | succ i =>
      have := ih m i (by simp at h; omega)
      simp only [mulA, List.getD_cons_succ] at this ⊢
      rw [this]
      cases i with
      | zero => simp
      | succ i => simp
theorem nx_e (x y : Int) (L : List Int) : nx x y L L.length = mulL x y L := by
  refine List.ext_getElem (by rw [nx_len, mulL_len]) fun i h1 h2 => ?_
  have hi : i < L.length + 1 := by rw [nx_len] at h1; exact h1
  have e1 : (nx x y L L.length)[i] = (nx x y L L.length).getD i 0 := by simp [List.getD, h1]
  have e2 : (mulL x y L)[i] = (mulL x y L).getD i 0 := by simp [List.getD, h2]
  rw [e1, e2, nx_get hi]
  unfold mulL
  rw [mulA_get x y L 0 i hi]
  by_cases h0 : i = 0
  · subst h0
    rw [if_neg (show ¬(1 ≤ 0 ∧ 0 ≤ L.length) by omega), if_pos rfl]
    by_cases hl : 0 < L.length
    · rw [if_pos hl]; simp
    · rw [if_neg hl]
      have : L = [] := List.length_eq_zero_iff.1 (by omega)
      subst this; simp
  · rw [if_neg h0, if_pos (show 1 ≤ i ∧ i ≤ L.length by omega)]
    by_cases hl : i < L.length
    · rw [if_pos hl]
    · rw [if_neg hl]
      have : L.getD i 0 = 0 := by simp [List.getD, show L.length ≤ i by omega]
      rw [this, Int.mul_zero]
theorem getD_mapw (L : List Int) (i : Nat) : (L.map wrap64).getD i 0 = wrap64 (L.getD i 0) := by
  by_cases h : i < L.length
  · simp [List.getD, h]
  · simp [List.getD, show L.length ≤ i by omega, wr_0]
theorem nx_s {x y : Int} {L : List Int} {j : Nat} (h : j < L.length) {u v : Int} (hu : u = wrap64 (wrap64 ((nx x y L j).getD j 0) + wrap64 (y * wrap64 (L.getD j 0)))) (hv : v = wrap64 (wrap64 ((nx x y L j).getD (j + 1) 0) - wrap64 (x * wrap64 (L.getD j 0)))) :
    (((nx x y L j).map wrap64).set j u).set (j + 1) v = (nx x y L (j + 1)).map wrap64 := by
  rw [nx_get (by omega)] at hu hv
  rw [if_neg (show ¬ j < j by omega)] at hu
  rw [if_neg (show ¬ j + 1 < j by omega), if_neg (show ¬(1 ≤ j + 1 ∧ j + 1 ≤ j) by omega)] at hv
  simp only [wr_al, wr_ar, wr_sl, wr_sr, wr_mr] at hu hv
  refine List.ext_getElem (by simp [nx_len]) fun i h1 h2 => ?_
  simp only [List.length_map, nx_len, List.length_set] at h1 h2
  have e2 : ((nx x y L (j + 1)).map wrap64)[i]'(by simpa [nx_len] using h2) = wrap64 ((nx x y L (j + 1)).getD i 0) := by
    have : i < (nx x y L (j + 1)).length := by rw [nx_len]; exact h2
    simp [List.getD, this]
  rw [e2, nx_get h2]
  by_cases ij : i = j + 1
  · subst ij
    rw [List.getElem_set_self, hv, if_neg (show ¬ j + 1 < j + 1 by omega), if_pos (show 1 ≤ j + 1 ∧ j + 1 ≤ j + 1 by omega)]
    simp
  · rw [List.getElem_set_ne (by omega)]
    by_cases ij2 : i = j
    · subst ij2
      rw [List.getElem_set_self, hu, if_pos (show i < i + 1 by omega)]
      by_cases h0 : 1 ≤ i
      · rw [if_pos (show 1 ≤ i ∧ i ≤ i by omega), if_pos (show 1 ≤ i ∧ i ≤ i + 1 by omega)]
        congr 1; omega
      · rw [if_neg (show ¬(1 ≤ i ∧ i ≤ i) by omega), if_neg (show ¬(1 ≤ i ∧ i ≤ i + 1) by omega)]
        congr 1; omega
    · rw [List.getElem_set_ne (by omega)]
      have : i < (nx x y L j).length := by rw [nx_len]; exact h2
      rw [List.getElem_map]
      have e3 : (nx x y L j)[i] = (nx x y L j).getD i 0 := by simp [List.getD, this]
      rw [e3, nx_get h2]
      congr 1
      by_cases q1 : i < j
      · rw [if_pos q1, if_pos (show i < j + 1 by omega)]
        by_cases h0 : 1 ≤ i
        · rw [if_pos (show 1 ≤ i ∧ i ≤ j by omega), if_pos (show 1 ≤ i ∧ i ≤ j + 1 by omega)]
        · rw [if_neg (show ¬(1 ≤ i ∧ i ≤ j) by omega), if_neg (show ¬(1 ≤ i ∧ i ≤ j + 1) by omega)]
      · rw [if_neg q1, if_neg (show ¬ i < j + 1 by omega), if_neg (show ¬(1 ≤ i ∧ i ≤ j) by omega), if_neg (show ¬(1 ≤ i ∧ i ≤ j + 1) by omega)]


end Go.Proofs.YthheongdgcfngaaDoor
