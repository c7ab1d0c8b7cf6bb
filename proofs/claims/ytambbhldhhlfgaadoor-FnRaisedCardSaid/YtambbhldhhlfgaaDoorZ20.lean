/- Several texts in one: XRam, XFj2. -/
import Derived.Test.YtambbhldhhlfgaaDoorOk
import Derived.Test.YtambbhldhhlfgaaDoorZ14
import Derived.Test.YtambbhldhhlfgaaDoorOi
import Derived.Test.YtambbhldhhlfgaaDoorZ17
import Derived.Test.YtambbhldhhlfgaaDoorRu
import Derived.Test.YtambbhldhhlfgaaDoorZ3
import Derived.Test.YtambbhldhhlfgaaDoorZ5
import Derived.Deep.RegionHeld3

/- Chapter 6: what FnRaised asks of the numbers: counts of lowered forms, divided forms, discriminants. Mathematics; no Go function in sight. -/
namespace Go.Proofs.YtambbhldhhlfgaaDoor
open Go.RowKit

theorem flat_cnt (m : Int) (L : List Int) (g : Nat → Int × Int) : ∀ l : List Nat, ((l.map g).flatMap (rt1 m L)).length = (l.filter fun i => decide (mlt m (g i).1 (g i).2 4 L ≠ 0)).length := by
  intro l
  induction l with
  | nil => rfl
  | cons i l ih =>
    rw [List.map_cons, List.flatMap_cons, List.length_append, ih, List.filter_cons]
    by_cases h : mlt m (g i).1 (g i).2 4 L = 0
    · rw [rt1_0 h]; simp [h]
    · obtain ⟨n, hn⟩ := Nat.exists_eq_succ_of_ne_zero h
      rw [rt1_n hn]; simp [h]; omega
theorem fbl_crv {a b c d p : Int} (hF : isF a b c d = true) (hp : prm p = true) : ((fbl a b c d p).length : Int) = crv a b c d p := by
  obtain ⟨h2, h97⟩ := prm_rng hp
  obtain ⟨ha, hb, hc, hd⟩ := isF_t hF
  have hf : fpc a b c d p = 0 := fpc_0.2 ⟨hF, hp⟩
  obtain ⟨n, rfl⟩ : ∃ n : Nat, p = n := ⟨p.toNat, by omega⟩
  have e0 : (fbl a b c d n).length = ((List.range (n + 1)).filter fun i : Nat => lOk a b c d n i).length := by
    unfold fbl stl; rw [List.length_map, List.length_map, Int.toNat_natCast]
  unfold crv
  rw [if_pos hf, e0]
  cases hN : mul0 (cnt a b c d) n with
  | true =>
    rw [if_pos rfl]
    have hall := cnt_dvd.1 (show (n : Int) ∣ cnt a b c d by rw [mul0_d] at hN; simpa using hN)
    obtain ⟨d0, d1, d2, d3⟩ := hall
    have : ((List.range (n + 1)).filter fun i : Nat => lOk a b c d n i) = List.range (n + 1) := by
      rw [List.filter_eq_self]
      intro i _
      unfold lOk tlD cA vx
      rw [mul0_d, decide_eq_true_iff]
      split
      · exact Int.dvd_add (Int.dvd_add (Int.dvd_add (Int.dvd_mul_of_dvd_left (Int.dvd_mul_of_dvd_left (Int.dvd_mul_of_dvd_left d0))) (Int.dvd_mul_of_dvd_left (Int.dvd_mul_of_dvd_left (Int.dvd_mul_of_dvd_left d1)))) (Int.dvd_mul_of_dvd_left (Int.dvd_mul_of_dvd_left (Int.dvd_mul_of_dvd_left d2)))) (Int.dvd_mul_of_dvd_left (Int.dvd_mul_of_dvd_left (Int.dvd_mul_of_dvd_left d3)))
      · exact Int.dvd_add (Int.dvd_add (Int.dvd_add (Int.dvd_mul_of_dvd_left (Int.dvd_mul_of_dvd_left (Int.dvd_mul_of_dvd_left d0))) (Int.dvd_mul_of_dvd_left (Int.dvd_mul_of_dvd_left (Int.dvd_mul_of_dvd_left d1)))) (Int.dvd_mul_of_dvd_left (Int.dvd_mul_of_dvd_left (Int.dvd_mul_of_dvd_left d2)))) (Int.dvd_mul_of_dvd_left (Int.dvd_mul_of_dvd_left (Int.dvd_mul_of_dvd_left d3)))
    rw [this, List.length_range]; simp
  | false =>
    rw [if_neg (by simp)]
    have e1 : (rtp a b c d n).length = ((List.range (n + 1)).filter fun i : Nat => lOk a b c d n i).length := by
      unfold rtp rts ptm ptl
      rw [Int.toNat_natCast, List.flatMap_append, List.length_append, flat_cnt, List.range_succ, List.filter_append, List.length_append]
      congr 1
      · congr 1
        refine List.filter_congr fun i hi => ?_
        have hi' : i < n := List.mem_range.1 hi
        have hm := (mlt_1 (p := n) ha hb hc hd (x := (i : Int)) (by omega) hN).1
        simp only [hm]
        unfold lOk tlD mmu cA vx
        rw [if_neg (show ¬ ((i : Int) = n) by omega), if_neg (show ¬ ((1 : Int) = 0) by decide), mul0_d]
        unfold mm3
        have e : a * (i : Int) * i * i + b * i * i * 1 + c * i * 1 * 1 + d * 1 * 1 * 1 = g3 a b c d i := by unfold g3; grind
        rw [e]
        by_cases q : (n : Int) ∣ g3 a b c d i
        · rw [if_neg (by simpa using q)]
          simp only [q, decide_true, decide_eq_true_eq, ne_eq]
          split <;> first | (intro h; cases h) | (split <;> (intro h; cases h))
        · simp [q]
      · have hm := (mlt_0 (p := n) ha hb hc hd hN).1
        have e : lOk a b c d n (n : Int) = decide ((n : Int) ∣ a) := by
          unfold lOk tlD cA vx; rw [if_pos rfl, mul0_d]; congr 1; simp
        rw [List.flatMap_cons, List.flatMap_nil, List.append_nil, List.filter_cons, List.filter_nil, e]
        by_cases q : (n : Int) ∣ a
        · have : mlt (n : Int) 1 0 4 [a, b, c, d] ≠ 0 := by
            rw [hm]; unfold mmu mm3; rw [if_pos rfl, if_neg (by simpa using q)]
            split <;> first | (intro h; cases h) | (split <;> (intro h; cases h))
          obtain ⟨k, hk⟩ := Nat.exists_eq_succ_of_ne_zero this
          rw [rt1_n (q := (1, 0)) hk]; simp [q]
        · have : mlt (n : Int) 1 0 4 [a, b, c, d] = 0 := by
            rw [hm]; unfold mmu mm3; rw [if_pos rfl, if_pos q]
          rw [rt1_0 (q := (1, 0)) this]; simp [q]
    rw [e1]
theorem fpc_of {a b c d p : Int} (hF : isF a b c d = true) (hp : prm p = true) : fpc a b c d p = 0 := fpc_0.2 ⟨hF, hp⟩
/-- Maximal, as the law has it. -/
theorem mx_law {a b c d p : Int} (h : fpc a b c d p = 0) : mxA a b c d p = (decide (((prp a b c d p).length : Int) = 0) && !decide (dfc a b c d p = 0)) := by
  unfold mxA dfc
  rw [if_pos h, h]
  have e : (ptK (rOk a b c d p) (p.toNat + 1)).isEmpty = decide (((prp a b c d p).length : Int) = 0) := by
    have : (ptK (rOk a b c d p) (p.toNat + 1)).length = (prp a b c d p).length := by
      unfold ptK prp stl; rw [List.length_map, List.length_map, List.length_map]
    rw [Bool.eq_iff_iff, List.isEmpty_iff, ← List.length_eq_zero_iff, this, decide_eq_true_iff]; omega
  rw [e]
  cases mul0 (cnt a b c d) p <;> simp
/-- Divided numbers lead back. -/
theorem dv_law {a b c d p : Int} (h : dfc a b c d p = 0) : a.tdiv p * p = a ∧ b.tdiv p * p = b ∧ c.tdiv p * p = c ∧ d.tdiv p * p = d := by
  have h' : mul0 (cnt a b c d) p = true := by
    unfold dfc at h
    split at h
    · split at h
      · assumption
      · cases h
    · rename_i q; exact absurd h q
  obtain ⟨d0, d1, d2, d3⟩ := cnt_dvd.1 (show p ∣ cnt a b c d by rw [mul0_d] at h'; simpa using h')
  exact ⟨Int.tdiv_mul_cancel d0, Int.tdiv_mul_cancel d1, Int.tdiv_mul_cancel d2, Int.tdiv_mul_cancel d3⟩
/-- Discriminants of raised and lowered forms. -/
theorem dx_lo (A B C D p : Int) : dx (p * p * A) (p * B) C D = dx A B C (p * D) * p * p := by unfold dx; grind
theorem dx_tl (a b c d r : Int) : dx (cA a b c d 1 0) (cB a b c d 1 r 0 1) (cC a b c d 1 r 0 1) (cA a b c d r 1) = dx a b c d := by unfold dx cA cB cC vx; grind
theorem dx_sw (a b c d : Int) : dx (cA a b c d 0 (-1)) (cB a b c d 0 1 (-1) 0) (cC a b c d 0 1 (-1) 0) (cA a b c d 1 0) = dx a b c d := by unfold dx cA cB cC vx; grind
theorem dx_tu (a b c d r : Int) : dx (cA a b c d r 1) (cB a b c d r (-1) 1 0) (cC a b c d r (-1) 1 0) (cA a b c d (-1) 0) = dx a b c d := by unfold dx cA cB cC vx; grind
theorem stc_0 {fp p r : Int} {ok fits : Bool} (h : stc fp p r ok fits = 0) : fp = 0 ∧ ok = true ∧ fits = true ∧ 0 ≤ r ∧ r ≤ p := by
  unfold stc at h
  split at h
  · split at h
    · split at h
      · split at h
        · rename_i h0 h1 h2 h3; exact ⟨h0, h2, h3, h1⟩
        · cases h
      · cases h
    · cases h
  · rename_i q; exact absurd h q
theorem dx_tlp (a b c d p r : Int) : dx (tlA a b c d p r) (tlB a b c d p r) (tlC a b c d p r) (tlD a b c d p r) = dx a b c d := by
  unfold tlA tlB tlC tlD; split
  · exact dx_sw a b c d
  · exact dx_tl a b c d r
theorem dx_tup (a b c d p r : Int) : dx (tuA a b c d p r) (tuB a b c d p r) (tuC a b c d p r) (tuD a b c d p r) = dx a b c d := by
  unfold tuA tuB tuC tuD; split
  · rfl
  · exact dx_tu a b c d r
theorem lo_law {a b c d p r : Int} (h : lfc a b c d p r = 0) : isF a b c d = true ∧ isF (loA a b c d p r) (loB a b c d p r) (loC a b c d p r) (loD a b c d p r) = true ∧
    dsc (loA a b c d p r) (loB a b c d p r) (loC a b c d p r) (loD a b c d p r) = wrap64 (wrap64 (dsc a b c d * p) * p) ∧
    fpc (loA a b c d p r) (loB a b c d p r) (loC a b c d p r) (loD a b c d p r) p = 0 ∧ 2 ≤ p ∧ p ≤ 97 ∧
    p ∈ prp (loA a b c d p r) (loB a b c d p r) (loC a b c d p r) (loD a b c d p r) p := by
  obtain ⟨hf, hk, hF', h0, h1⟩ := stc_0 h
  obtain ⟨hF, hp⟩ := fpc_0.1 hf
  obtain ⟨h2, h97⟩ := prm_rng hp
  have hd : p * loD a b c d p r = tlD a b c d p r := by
    unfold lOk at hk; rw [mul0_d] at hk
    exact Int.mul_tdiv_cancel' (by simpa using hk)
  refine ⟨hF, hF', ?_, fpc_of hF' hp, h2, h97, ?_⟩
  · rw [dsc_wr, dsc_wr]; simp only [wr_ml]
    congr 1
    unfold loA loB loC
    rw [dx_lo, hd, dx_tlp]
  · have hok : rOk (loA a b c d p r) (loB a b c d p r) (loC a b c d p r) (loD a b c d p r) p p = true := by
      unfold rOk tuA tuB
      rw [if_pos rfl, if_pos rfl, mul0_d, mul0_d]
      simp only [Bool.and_eq_true, decide_eq_true_eq]
      unfold loA loB
      exact ⟨Int.dvd_mul_right _ _, Int.dvd_mul_right _ _⟩
    unfold prp stl
    simp only [List.map_map, List.mem_map, List.mem_filter, List.mem_range, Function.comp]
    exact ⟨p.toNat, ⟨by omega, by rw [show ((p.toNat : Nat) : Int) = p by omega]; exact hok⟩, by omega⟩
theorem ra_law {a b c d p r : Int} (h : rfc a b c d p r = 0) : isF a b c d = true ∧ isF (raA a b c d p r) (raB a b c d p r) (raC a b c d p r) (raD a b c d p r) = true ∧
    dsc a b c d = wrap64 (wrap64 (dsc (raA a b c d p r) (raB a b c d p r) (raC a b c d p r) (raD a b c d p r) * p) * p) := by
  obtain ⟨hf, hk, hF', h0, h1⟩ := stc_0 h
  obtain ⟨hF, hp⟩ := fpc_0.1 hf
  refine ⟨hF, hF', ?_⟩
  unfold rOk at hk
  rw [mul0_d, mul0_d, Bool.and_eq_true, decide_eq_true_eq, decide_eq_true_eq] at hk
  have hA : p * p * raA a b c d p r = tuA a b c d p r := Int.mul_tdiv_cancel' hk.1
  have hB : p * raB a b c d p r = tuB a b c d p r := Int.mul_tdiv_cancel' hk.2
  rw [dsc_wr, dsc_wr]; simp only [wr_ml]
  congr 1
  unfold raC raD
  rw [← dx_lo, hA, hB, dx_tup]

end Go.Proofs.YtambbhldhhlfgaaDoor

/- Lists that are the same, as the laws with draws compare them (without rows). -/
namespace Go.Proofs.YtambbhldhhlfgaaDoor
open Go.RowKit

set_option maxRecDepth 100000 in
set_option maxHeartbeats 1000000 in
theorem likeI_any (u v : Value) (n : Nat) (g : Nat → Int) (w : World) (hu : Rd w u n g) (hv : Rd w v n g) :
    Calls Tryd.prog 19 #[u, v] w fun e w' => e = .returned (.bool true) ∧ Below w.heap.size w w' := by
  rcases hu with ⟨rfl, hn⟩ | ⟨b, cap, rfl, hc1, hm1, hb1, hcell1⟩
  · rcases hv with ⟨rfl, _⟩ | ⟨b', cap', rfl, hc2, hm2, hb2, hcell2⟩
    · go_enter Tryd.func19, Tryd.ntmps19
      go_wp2
      refine wp_loop_rounds 1 ?_
      rw [rounds_succ]; go_wp2
      go_ret
      exact ⟨rfl, Below.refl _ _⟩
    · subst hn
      go_enter Tryd.func19, Tryd.ntmps19
      go_wp2
      refine wp_loop_rounds 1 ?_
      rw [rounds_succ]; go_wp2
      go_ret
      exact ⟨rfl, Below.refl _ _⟩
  · unfold maxLen at hm1
    have hlen : ∃ a' cap', v = .slice a' n cap' := by
      rcases hv with ⟨rfl, rfl⟩ | ⟨b', cap', rfl, _⟩
      · exact ⟨_, _, rfl⟩
      · exact ⟨_, _, rfl⟩
    obtain ⟨a', cap', rfl⟩ := hlen
    have HV := hid hv
    have HC := hid hcell1
    clear hv hcell1
    go_enter Tryd.func19, Tryd.ntmps19
    go_wp2
    go_loopw [5] (fun i wr => ∃ k : Nat, k ≤ n ∧ i = .int .i64 k ∧ Below w.heap.size w wr) (fun i _ => n - (intOf i).toNat)
    case atStart => exact ⟨0, Nat.zero_le _, rfl, Below.refl _ _⟩
    case round =>
      obtain ⟨k, hk, rfl, hB⟩ := hrel
      by_cases hlt : k < n
      · rcases HV.out with ⟨h0, rfl⟩ | ⟨b', cap'', h0, hc2, hm2, hb2, hcell2⟩
        · omega
        · cases h0
          have c1 : wr.cell? ⟨b, k, none⟩ = some (.int .i64 (g k)) := (hB.cell (p := ⟨b, k, none⟩) hb1).trans (HC.out k hlt)
          have c2 : wr.cell? ⟨b', k, none⟩ = some (.int .i64 (g k)) := (hB.cell (p := ⟨b', k, none⟩) hb2).trans (hcell2 k hlt)
          unfold maxLen at hm2
          clear hcell2
          go_wp2
          go_quiet (fail)
          go_wp2
          go_roundw
          case rel => exact ⟨k + 1, by omega, by go_num, gr_drewN hB _⟩
          case measure => simp [intOf]; omega
      · go_wp2
        go_ret
        exact ⟨rfl, hB⟩


end Go.Proofs.YtambbhldhhlfgaaDoor
