/- Chapter 3: the model's determinants, by the numbers of the first row. -/
import Derived.Test.YtigbaelbeaobpaaDm
import Derived.Deep.RegionHeld3
import Derived.Deep.DeepCutAuto
namespace Go.Proofs.Ytigbaelbeaobpaa
open Go.RowKit

theorem dt_o {k : Nat} {S S' t x d : Int} (h : S' = S + t) (ht : t = alt k (x * d)) (hp : ((k : Int) % 2 == 1) = true) : ((.int .i64 (wrap64 (wrap64 S + wrap64 (-wrap64 (x * wrap64 d))))) : Value) = .int .i64 (wrap64 S') := by
  subst h ht
  unfold alt
  have : k % 2 = 1 := by simp at hp; omega
  rw [if_pos this]
  simp only [wr_al, wr_ar, wr_mr, wr_n]
theorem dt_e {k : Nat} {S S' t x d : Int} (h : S' = S + t) (ht : t = alt k (x * d)) (hp : ((k : Int) % 2 == 1) = false) : ((.int .i64 (wrap64 (wrap64 S + wrap64 (x * wrap64 d)))) : Value) = .int .i64 (wrap64 S') := by
  subst h ht
  unfold alt
  have : ¬ k % 2 = 1 := by simp at hp; omega
  rw [if_neg this]
  simp only [wr_al, wr_ar, wr_mr]

set_option maxRecDepth 100000 in
set_option maxHeartbeats 4000000 in
theorem l03Det_any : ∀ (n : Nat), n ≤ 6 → ∀ (M : Nat → Nat → Int) (v : Value) (w : World), RdR n w v M →
    Calls Try.prog 59 #[v] w fun e w' => e = .returned (.int .i64 (wrap64 (DL n M))) ∧ Below w.heap.size w w' := by
  intro n
  induction n with
  | zero =>
    intro _ M v w hR
    obtain ⟨a, cap, rfl⟩ : ∃ a cap, v = .slice a 0 cap := by
      rcases hR with ⟨_, a, cap, rfl⟩ | ⟨b, cap, rfl, _⟩
      · exact ⟨_, _, rfl⟩
      · exact ⟨_, _, rfl⟩
    clear hR
    go_enter Try.func59, Try.ntmps59
    go_wp2
    go_ret
    exact ⟨ret_int (by show (1 : Int) = wrap64 1; simp [wrap64]), Below.refl _ _⟩
  | succ n ih =>
    intro hn6 M v w hR
    have HI := hid (ih (by omega))
    clear ih
    rcases hR with ⟨h0, _⟩ | ⟨b, cap, rfl, hnc, hcm, hbl, hrows⟩
    · omega
    have HRW := hid hrows
    clear hrows
    have HD := hid (DL_s n M)
    generalize DL (n + 1) M = D at HD ⊢
    obtain ⟨i0, hi, hz0, hz1, hz2⟩ := info_parts info_di
    have HJ := hid hi; have HZ0 := hid hz0; have HZ1 := hid hz1; have HZ2 := hid hz2
    clear hi hz0 hz1 hz2
    obtain ⟨i1, hi, hz0, hz1, hz2⟩ := info_parts info_ls
    have HJ' := hid hi; have HY0 := hid hz0; have HY1 := hid hz1; have HY2 := hid hz2
    clear hi hz0 hz1 hz2
    unfold maxLen at hcm
    go_enter Try.func59, Try.ntmps59
    go_wp2_with fail
    go_loopw [3, 4] (fun s3 s4 wr => ∃ k : Nat, k ≤ n + 1 ∧ s4 = .int .i64 k ∧ s3 = .int .i64 (wrap64 (sumc (dtm n M) 0 k)) ∧ Below w.heap.size w wr) (fun _ s4 _ => n + 1 - (intOf s4).toNat)
    case atStart => exact ⟨0, by omega, rfl, by simp [sumc, wrap64], Below.refl _ _⟩
    case round =>
      obtain ⟨k, hk, rfl, rfl, hU⟩ := hrel
      have HU := hid hU
      have hUs := hU.size
      by_cases hlt : k < n + 1
      · obtain ⟨g0, c0, hh0, hc0, hm0, hg0, hr0⟩ := HRW.out 0 (by omega)
        have hH := (Ce.mk hbl hh0).next' hU
        have hX := (Ce.mk hg0 (hr0 k hlt)).next' hU
        have hcell0 := hH.c
        have hcellx := hX.c
        have HSN := hid (sumc_snoc (dtm n M) k 0)
        rw [Nat.zero_add] at HSN
        have HT := hid (show dtm n M k = alt k (M 0 k * DL n (mnr M k)) from rfl)
        have HT0 := hid (dtm_0 (n := n) (M := M) (k := k))
        unfold maxLen at hm0
        generalize hxx : M 0 k = x at hX hcellx HT HT0
        clear hxx hh0 hr0 hU
        generalize sumc (dtm n M) 0 k = S0 at HSN ⊢
        by_cases hx0 : x = 0
        · have hxb : (x == 0) = true := by simpa using hx0
          have HZ := hid (HT0.out hx0)
          clear hx0
          go_wp2_with fail
          go_roundw
          case rel => exact ⟨k + 1, by omega, by go_num, by rw [HSN.out, HZ.out, Int.add_zero], HU.out⟩
          case measure => simp [intOf]; omega
        · have hxb : (x == 0) = false := by simpa using hx0
          clear hx0
          have hd14 : decide ((k : Int) < (n : Int) + 1) = true := by simp; omega
          obtain ⟨wo, hwo⟩ : ∃ wo, wo = wr := ⟨_, rfl⟩
          subst hwo
          have hbr : b < wo.heap.size := by omega
          go_wp2_with fail
          go_loopw [5, 6] (fun s5 s6 wr => ∃ i j : Nat, i < j ∧ j ≤ i + 1 ∧ j ≤ n + 1 ∧ s6 = .int .i64 j ∧ RwV wo.heap.size wr s5 i n (mnr M k) ∧ Below w.heap.size w wr ∧ Below wo.heap.size wo wr) (fun _ s6 _ => n + 1 - (intOf s6).toNat)
          case atStart => exact ⟨0, 1, by omega, by omega, by omega, rfl, RwV.empty _ _ _ _ (Nat.le_refl _), gr_alloc HU.out _, gr_alloc (Below.refl _ _) _⟩
          case round =>
            obtain ⟨i, j, hij, hji, hjn, rfl, hV, hUi, hUr⟩ := hrel
            have HV := hid hV; have HUi := hid hUi; have HUr := hid hUr
            have hUis := hUi.size
            have hUrs := hUr.size
            by_cases hjl : j < n + 1
            · obtain ⟨g, c, hh, hcn, hcm2, hgl, hr⟩ := HRW.out j hjl
              have hHd := (Ce.mk hbl hh).next' hUi
              have HC := hid (fun q (hq : q < n + 1) => ((Ce.mk hgl (hr q hq)).next' hUi).c)
              have hgi : g < wr.heap.size := by omega
              have hch := hHd.c
              unfold maxLen at hcm2
              have HHW := hid (Ce.mk hbl hh)
              obtain ⟨hs, hL⟩ := hV.open
              have HL := hid hL
              clear hV hUi hUr hh hr hL
              have HNM := hid (nums_mnr M k n i j (by omega) hij hji)
              go_wp2_with fail
              rcases Nat.lt_or_ge (k + 1) c with hkc | hkc
              · have hk1 : ¬ c = k + 1 := by omega
                have hwt : ((k : Int) + 1).toNat = k + 1 := by omega
                have hwn : (0 : Int) ≤ (k : Int) + 1 := by omega
                have hwk : IntKind.i64.wrap ((k : Int) + 1) = (k : Int) + 1 := IntWalk.i64_in _ (by omega)
                have hk0 : (0 : Int) ≤ (k : Int) := by omega
                have hki : (k : Int) ≤ (c : Int) := by omega
                have hkj : k ≤ c := by omega
                have hc0 : ¬ c = 0 := by omega
                have hkn : k ≤ n := by omega
                have hkm : (k : Int) ≤ (n : Int) := by omega
                have hkq : (k : Int) + 1 ≤ (n : Int) + 1 := by omega
                go_region_held3 (fun W => W.cell? ⟨b, j, none⟩ = some (.slice (some ⟨g, 0, none⟩) (n + 1) c)) ((refine Ce.c (b := b) (o := j) ?_; (repeat (first | with_reducible assumption | with_reducible refine Ce.alloc ?_ _ | with_reducible refine Ce.drew ?_)))) (first
                  | ((go_at_call 70; refine (sOwn_any g 0 k c (M j) wr.drew hgi (fun q hq => by rw [Nat.zero_add]; exact HC.out q (by omega)) (by omega)).mono ?_; rintro e w5 ⟨v5, rfl, hO5, hb5⟩; have hb5' : Below wr.heap.size wr w5 := (gr_drew (Below.refl _ wr)).trans hb5; have hH5 := hHd.next hb5'))
                  | ((refine step_append_pos (w := w5) (by rfl) (.tmp 38) (.tmp 45) 28 (by rfl) wr.heap.size 2 i0 (.int .i64 0) 1 8 Try.underlying28 HJ.out HZ0.out HZ1.out HZ2.out rfl (by decide) v5 k (nums k (M j)) (by rfl) hO5 ⟨g, k + 1, none⟩ (n - k) (c - (k + 1)) (nums (n - k) (fun q => M j (k + 1 + q))) (by rfl) (by rw [nums_len, Nat.mul_one]) (by intro q u hq; obtain ⟨h1, rfl⟩ := nums_get hq; have hadd : (⟨g, k + 1, none⟩ : Addr).add q = ⟨g, k + 1 + q, none⟩ := (by unfold Addr.add; split <;> simp_all); rw [hadd]; exact (hb5'.cell (p := ⟨g, k + 1 + q, none⟩) hgi).trans (HC.out (k + 1 + q) (by omega))) (nums_one _ _) n (by omega) (by omega) (by unfold maxLen; omega) (by omega) hb5'.size ?_; intro g6 c6 w6 hO6 hg6; rw [HNM.out] at hO6; have hB6 : Below wr.heap.size wr w6 := hb5'.grown hg6 hb5'.size (fun q e => (hO5.lt q e).1); have hH6 := hHd.next hB6; have hL6 := HL.out.next hB6))
                  | ((refine step_append_pos (w := w6.alloc (.cells #[.slice (some ⟨g6, 0, none⟩) n c6] 28)) (by rfl) (.tmp 31) (.tmp 47) 80 (by rfl) wo.heap.size 28 i1 (.slice none 0 0) 1 24 Try.underlying80 HJ'.out HY0.out HY1.out HY2.out rfl (by decide) u5 i hs (by rfl) (hL6.own.alloc _) ⟨w6.heap.size, 0, none⟩ 1 1 [.slice (some ⟨g6, 0, none⟩) n c6] (by rfl) rfl (by intro q u hq; match q, hq with | 0, hq => (simp at hq; subst hq; simp [Addr.add, go_sem])) (by intro u hu; simp at hu; subst hu; rfl) (i + 1) (by omega) (by omega) (by unfold maxLen; omega) (by omega) (by have := hB6.size; simp; omega) ?_; intro g8 c8 w8 hO8 hg8; have hz6 := hB6.size; have hB8 : Below w.heap.size w w8 := ((HUi.out.trans (hB6.mono hUis)).alloc (by omega) _).grown hg8 (by simp; omega) (fun q e => by have := (hL6.own.lt q e).1; omega); have hBo8 : Below wo.heap.size wo w8 := ((HUr.out.trans (hB6.mono hUrs)).alloc (by omega) _).grown hg8 (by simp; omega) (fun q e => (hL6.own.lt q e).1); have hH8 := HHW.out.next' hB8; have hV8 := ((hL6.next (gr_alloc (Below.refl _ _) (.cells #[.slice (some ⟨g6, 0, none⟩) n c6] 28))).app rfl ((own_mono hO6 hUrs).alloc _) hg8 hO8).close)))
                all_goals (clear hwt hwn hwk hk0 hki hkj hc0 hkn hkm hkq; have HV8 := hid hV8; have HB8 := hid hB8; have HBo8 := hid hBo8; clear hV8 hB8 hBo8 hH8 hO8 hg8 hL6 hH6 hO6 hg6 hO5 hb5 hb5' hH5 hB6 hch hHd; go_wp2_with fail; go_roundw; (case rel => first | exact ⟨i + 1, j + 1, by omega, by omega, by omega, by go_num, HV8.out, HB8.out, HBo8.out⟩ | ((repeat apply Exists.intro); exact ⟨⟨i + 1, j + 1, by omega, by omega, by omega, by go_num, HV8.out, HB8.out, HBo8.out⟩, rfl⟩)); (case measure => simp [intOf]; omega))
              · have hk1 : (c = k + 1) ↔ True := by simp; omega
                have hk3 : k < c := by omega
                have hm0' : n - k ≤ 0 := by omega
                have hcz : c - (k + 1) ≤ 0 := by omega
                have hwt : ((k : Int) + 1).toNat = k + 1 := by omega
                have hwn : (0 : Int) ≤ (k : Int) + 1 := by omega
                have hwk : IntKind.i64.wrap ((k : Int) + 1) = (k : Int) + 1 := IntWalk.i64_in _ (by omega)
                have hk0 : (0 : Int) ≤ (k : Int) := by omega
                have hki : (k : Int) ≤ (c : Int) := by omega
                have hkj : k ≤ c := by omega
                have hc0 : ¬ c = 0 := by omega
                have hkn : k ≤ n := by omega
                have hkm : (k : Int) ≤ (n : Int) := by omega
                have hkq : (k : Int) + 1 ≤ (n : Int) + 1 := by omega
                go_region_held3 (fun W => W.cell? ⟨b, j, none⟩ = some (.slice (some ⟨g, 0, none⟩) (n + 1) c)) ((refine Ce.c (b := b) (o := j) ?_; (repeat (first | with_reducible assumption | with_reducible refine Ce.alloc ?_ _ | with_reducible refine Ce.drew ?_)))) (first
                  | ((go_at_call 70; refine (sOwn_any g 0 k c (M j) wr.drew hgi (fun q hq => by rw [Nat.zero_add]; exact HC.out q (by omega)) (by omega)).mono ?_; rintro e w5 ⟨v5, rfl, hO5, hb5⟩; have hb5' : Below wr.heap.size wr w5 := (gr_drew (Below.refl _ wr)).trans hb5; have hH5 := hHd.next hb5'))
                  | ((refine step_append_pos (w := w5) (by rfl) (.tmp 38) (.tmp 45) 28 (by rfl) wr.heap.size 2 i0 (.int .i64 0) 1 8 Try.underlying28 HJ.out HZ0.out HZ1.out HZ2.out rfl (by decide) v5 k (nums k (M j)) (by rfl) hO5 ⟨g, 0, none⟩ (n - k) 0 (nums (n - k) (fun q => M j (k + 1 + q))) (by rfl) (by rw [nums_len, Nat.mul_one]) (by intro q u hq; obtain ⟨h1, rfl⟩ := nums_get hq; omega) (nums_one _ _) n (by omega) (by omega) (by unfold maxLen; omega) (by omega) hb5'.size ?_; intro g6 c6 w6 hO6 hg6; rw [HNM.out] at hO6; have hB6 : Below wr.heap.size wr w6 := hb5'.grown hg6 hb5'.size (fun q e => (hO5.lt q e).1); have hH6 := hHd.next hB6; have hL6 := HL.out.next hB6))
                  | ((refine step_append_pos (w := w6.alloc (.cells #[.slice (some ⟨g6, 0, none⟩) n c6] 28)) (by rfl) (.tmp 31) (.tmp 47) 80 (by rfl) wo.heap.size 28 i1 (.slice none 0 0) 1 24 Try.underlying80 HJ'.out HY0.out HY1.out HY2.out rfl (by decide) u5 i hs (by rfl) (hL6.own.alloc _) ⟨w6.heap.size, 0, none⟩ 1 1 [.slice (some ⟨g6, 0, none⟩) n c6] (by rfl) rfl (by intro q u hq; match q, hq with | 0, hq => (simp at hq; subst hq; simp [Addr.add, go_sem])) (by intro u hu; simp at hu; subst hu; rfl) (i + 1) (by omega) (by omega) (by unfold maxLen; omega) (by omega) (by have := hB6.size; simp; omega) ?_; intro g8 c8 w8 hO8 hg8; have hz6 := hB6.size; have hB8 : Below w.heap.size w w8 := ((HUi.out.trans (hB6.mono hUis)).alloc (by omega) _).grown hg8 (by simp; omega) (fun q e => by have := (hL6.own.lt q e).1; omega); have hBo8 : Below wo.heap.size wo w8 := ((HUr.out.trans (hB6.mono hUrs)).alloc (by omega) _).grown hg8 (by simp; omega) (fun q e => (hL6.own.lt q e).1); have hH8 := HHW.out.next' hB8; have hV8 := ((hL6.next (gr_alloc (Below.refl _ _) (.cells #[.slice (some ⟨g6, 0, none⟩) n c6] 28))).app rfl ((own_mono hO6 hUrs).alloc _) hg8 hO8).close)))
                all_goals (clear hwt hwn hwk hk0 hki hkj hc0 hkn hkm hkq; have HV8 := hid hV8; have HB8 := hid hB8; have HBo8 := hid hBo8; clear hV8 hB8 hBo8 hH8 hO8 hg8 hL6 hH6 hO6 hg6 hO5 hb5 hb5' hH5 hB6 hch hHd; go_wp2_with fail; go_roundw; (case rel => first | exact ⟨i + 1, j + 1, by omega, by omega, by omega, by go_num, HV8.out, HB8.out, HBo8.out⟩ | ((repeat apply Exists.intro); exact ⟨⟨i + 1, j + 1, by omega, by omega, by omega, by go_num, HV8.out, HB8.out, HBo8.out⟩, rfl⟩)); (case measure => simp [intOf]; omega))
            · have hRd : RdR n wr u5 (mnr M k) := by
                have h := hV
                rw [show i = n by omega] at h
                exact h.rd
              have hRd' := hRd.below (gr_drew (Below.refl _ wr))
              have hHa := hH.next' hUr
              have hXa := hX.next' hUr
              have hca := hHa.c
              have hcx := hXa.c
              clear hV hRd hUi hUr
              go_wp2_with fail
              have hki : (k : Int) < (n : Int) + 1 := by omega
              have hk0 : (0 : Int) ≤ (k : Int) := by omega
              go_region_held3 (fun W => W.cell? ⟨b, 0, none⟩ = some (.slice (some ⟨g0, 0, none⟩) (n + 1) c0) ∧ W.cell? ⟨g0, k, none⟩ = some (.int .i64 x)) ((refine Ce.two (b := b) (o := 0) (b' := g0) (o' := k) ?_ ?_ <;> (repeat (first | with_reducible assumption | with_reducible refine Ce.drew ?_)))) (first
                | ((go_at_call 59; refine (HI.out (mnr M k) _ _ hRd').mono ?_; rintro e w5 ⟨rfl, hb5⟩; have hb5' : Below wr.heap.size wr w5 := (gr_drew (Below.refl _ wr)).trans hb5; have hH5 := hHa.next hb5'; have hX5 := hXa.next hb5')))
              all_goals (clear hca hcx; have HB5 := hid (HU.out.trans ((HUr.out.trans (hb5'.mono hUrs)).mono hUs)); go_wp2_with fail)
              all_goals (go_roundw; (case rel => first | exact ⟨k + 1, by omega, by go_num, (by first | exact dt_o HSN.out HT.out (by assumption) | exact dt_e HSN.out HT.out (by assumption)), HB5.out⟩ | ((repeat apply Exists.intro); exact ⟨⟨k + 1, by omega, by go_num, (by first | exact dt_o HSN.out HT.out (by assumption) | exact dt_e HSN.out HT.out (by assumption)), HB5.out⟩, rfl⟩)); (case measure => simp [intOf]; omega))
      · have e : k = n + 1 := by omega
        subst e
        clear hU
        go_wp2_with fail
        go_ret
        rw [HD.out]
        exact ⟨rfl, HU.out⟩

end Go.Proofs.Ytigbaelbeaobpaa
