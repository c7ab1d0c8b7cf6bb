/- Chapter 10: ThirdRoots by the program. -/
import Derived.Test.YtehbkmohfipmgaaBtWd
import Derived.Deep.RegionHeld3
import Derived.Deep.DeepCutAuto
namespace Go.Proofs.Ytehbkmohfipmgaa
open Go.RowKit

theorem qeq_dec2 (t u : Qd) : qeq t.1 t.2.1 t.2.2 u.1 u.2.1 u.2.2 = decide (t = u) := by
  obtain ⟨a, b, c⟩ := t
  obtain ⟨x, y, z⟩ := u
  rw [Bool.eq_iff_iff]
  simp [qeq, Prod.ext_iff]
theorem RdBU.at {B : Nat} {w : World} {v : Value} {n : Nat} {g : Nat → Int} (h : RdBU B w v n g) (hB : B ≤ w.heap.size) {i : Nat} (hi : i < n) : ∃ b cap, v = .slice (some ⟨b, 0, none⟩) n cap ∧ n ≤ cap ∧ cap ≤ maxLen ∧ b < B ∧ At3 w b (i * 3) (g (i * 3)) (g (i * 3 + 1)) (g (i * 3 + 2)) := by
  rcases h with ⟨_, h⟩ | ⟨b, cap, h1, h2, h3, h4, h5⟩
  · omega
  · exact ⟨b, cap, h1, h2, h3, h4, by omega, h5 _ (by omega), h5 _ (by omega), h5 _ (by omega)⟩
theorem RdBU.val {B : Nat} {w : World} {v : Value} {n : Nat} {g : Nat → Int} (h : RdBU B w v n g) : ∃ a cap, v = .slice a n cap := by
  rcases h with ⟨rfl, h⟩ | ⟨b, cap, h1, _⟩
  · exact ⟨none, 0, by rw [h]⟩
  · exact ⟨_, cap, h1⟩
theorem thr_le (d : Int) : (if (if dcl d then (0 : Int) else 2) = 0 then (thr d).length else 0) ≤ 1000 := by
  have h := cls_le d
  have h2 : (thr d).length ≤ (cls d).length := List.length_filter_le _ _
  split <;> simp_all <;> omega
theorem cls_650 {d : Int} (hd : dcl d = true) : (cls d).length ≤ 1000 := by
  have := cls_le d
  rw [hd] at this
  simpa using this

set_option maxRecDepth 100000 in
set_option maxHeartbeats 4000000 in
theorem iThird_any (d : Int) (w : World) : Calls Try.prog 22 #[.int .i64 d] w (QlsOut (if dcl d then 0 else 2) (thr d).length (fun i => ((thr d).flatMap qi3).getD i 0) w) := by
  have hC := fun W => iClassesOf_any d W
  cases hd : dcl d with
  | false =>
    rw [hd] at hC
    have HC := hid hC
    clear hC
    go_enter Try.func22, Try.ntmps22
    go_wp2_with fail
    refine (HC.out _).mono ?_
    rintro e w1 ⟨v, rfl, hV, hb1⟩
    obtain ⟨a, cap, rfl⟩ := hV.rdB.val
    go_wp2
    go_ret2
    exact ⟨_, rfl, .inl ⟨rfl, by simp⟩, hb1⟩
  | true =>
    have hl := cls_650 hd
    obtain ⟨⟨d1, d2⟩, _⟩ := dcl_t hd
    rw [hd] at hC
    have HC := hid hC
    have hU := fun W => unitWith_any d W ⟨d1, d2⟩
    have hE := fun c h => cls_el (d := d) (by omega) c h
    have hP := fun c (h : El d c) W => pow3_any c d 3 W h d1 rfl
    have hq := fun (c : Qd) W => eqq_run (cp c (cp c c)).1 (cp c (cp c c)).2.1 (cp c (cp c c)).2.2 (un d).1 (un d).2.1 (un d).2.2 W
    have hq2 : ∀ c : Qd, qeq (cp c (cp c c)).1 (cp c (cp c c)).2.1 (cp c (cp c c)).2.2 (un d).1 (un d).2.1 (un d).2.2 = tri3 d c := fun c => qeq_dec2 _ _
    have hth : thr d = (cls d).filter (tri3 d) := rfl
    have hat := fun i c h => at_flat (cls d) i c h
    generalize hL : cls d = L at HC hE hth hat hl
    generalize un d = U at hU hP hq hq2
    obtain ⟨u0, u1, u2⟩ := U
    have HU := hid hU; have HE := hid hE; have HP := hid hP; have HQ := hid hq; have HQ2 := hid hq2; have HT := hid hth; have HAT := hid hat; have HLL := hid hL
    clear hC hU hE hP hq hq2 hth hat hL
    go_enter Try.func22, Try.ntmps22
    go_wp2_with fail
    refine (HC.out _).mono ?_
    rintro e w1 ⟨v, rfl, hV, hb1⟩
    have V1 := hV.rdB
    obtain ⟨a, cap, rfl⟩ := V1.val
    simp only [if_true] at V1
    have HV1 := hid V1
    clear hV V1
    go_wp2_with fail
    refine (HU.out _).mono ?_
    rintro e w2 ⟨rfl, hb2⟩
    have K2 := Arr3.new w2 u0 u1 u2 25
    have HW2 := hid (gr_alloc (gr_trans hb1 hb2) (.cells #[.int .i64 u0, .int .i64 u1, .int .i64 u2] 25))
    have HV2 := hid ((HV1.out.below (hb2.mono (Nat.le_refl _)) (Nat.le_refl _)).below (gr_alloc (Below.refl w2.heap.size w2) (.cells #[.int .i64 u0, .int .i64 u1, .int .i64 u2] 25)) hb2.size)
    have hs2 := hb2.size
    clear hb1 hb2 HV1 HC
    go_wp2_with fail
    generalize hW6 : w2.alloc (.cells #[.int .i64 u0, .int .i64 u1, .int .i64 u2] 25) = W6 at *
    have hz6 : w2.heap.size < W6.heap.size := by rw [← hW6]; simp
    generalize hk6 : w2.heap.size = k6 at *
    have HK6 := hid K2
    have HS2 := hid (show w1.heap.size ≤ W6.heap.size by omega)
    clear hW6 hk6 K2 hs2
    go_loopw [7, 22] (fun s t wr => ∃ i : Nat, t = .int .i64 (i : Int) ∧ i ≤ L.length ∧ RowQ W6.heap.size wr s ((L.take i).filter (tri3 d)) ∧ Below W6.heap.size W6 wr) (fun _ t _ => L.length + 1 - (intOf t).toNat)
    case atStart => exact ⟨0, rfl, by omega, by simpa using RowQ.nil _ _, Below.refl _ _⟩
    case round =>
      obtain ⟨i, rfl, hi, hR, hG⟩ := hrel
      by_cases hlt : i < L.length
      · obtain ⟨c, hc⟩ : ∃ c, L[i]? = some c := ⟨_, List.getElem?_eq_getElem hlt⟩
        obtain ⟨b, cap', hv, hc1, hc2, hb, hA3⟩ := (HV2.out.below hG HS2.out).at (by have := hG.size; have := HS2.out; omega) hlt
        cases hv
        obtain ⟨f1, f2, f3⟩ := HAT.out i c hc
        rw [f1, f2, f3] at hA3
        have hel := HE.out c (List.mem_of_getElem? hc)
        have hpw := HP.out c hel
        have heq := HQ.out c
        have hft : (L.take (i + 1)).filter (tri3 d) = (L.take i).filter (tri3 d) ++ (if tri3 d c then [c] else []) := filter_take hc
        rw [HQ2.out c] at heq
        have hln : ((L.take i).filter (tri3 d)).length ≤ 1000000 := by
          have h1 := List.length_filter_le (tri3 d) (L.take i)
          have h2 := List.length_take_le i L
          omega
        generalize cp c (cp c c) = R3 at hpw heq
        generalize tri3 d c = bb at heq hft
        obtain ⟨c0, c1, c2⟩ := c
        obtain ⟨r0, r1, r2⟩ := R3
        have HPW := hid hpw; have HEQ := hid heq; have HFT := hid hft
        have HRR := hid hR; have HGG := hid hG
        have A9 := Arr3.new wr c0 c1 c2 25
        have K9 := (HK6.out.below hG hz6).alloc (.cells #[.int .i64 c0, .int .i64 c1, .int .i64 c2] 25)
        have hR9 := hid (RowQ.next hR (gr_alloc (Below.refl _ _) (.cells #[.int .i64 c0, .int .i64 c1, .int .i64 c2] 25)))
        have hG9 := hid (gr_alloc hG (.cells #[.int .i64 c0, .int .i64 c1, .int .i64 c2] 25))
        have hzr := hG.size
        unfold maxLen at hc2
        obtain ⟨_, m0, m1, m2⟩ := id hA3
        clear hpw heq hft hR hG f1 f2 f3 hel
        (try dsimp only at m0 m1 m2)
        go_upto_region 9 with fail
        generalize hW9 : wr.alloc (.cells #[.int .i64 c0, .int .i64 c1, .int .i64 c2] 25) = W9 at A9 K9 hR9 hG9 ⊢
        generalize hk9 : wr.heap.size = k9 at A9 hzr ⊢
        clear hW9 hk9 m0 m1 m2 HRR HGG
        obtain ⟨_, m0, m1, m2, _⟩ := id A9
        obtain ⟨_, n0, n1, n2, _⟩ := id K9
        go_cut [30] (fun s30 wx => s30 = .bool bb ∧ Arr3 wx k9 c0 c1 c2 ∧ RowQ W6.heap.size wx u7 ((L.take i).filter (tri3 d)) ∧ Below W6.heap.size W6 wx)
        case first =>
          have heq := HEQ.out
          go_region_held3 (fun W => W.cell? ⟨k9, 0, none⟩ = some (.int .i64 c0) ∧ W.cell? ⟨k9, 1, none⟩ = some (.int .i64 c1) ∧ W.cell? ⟨k9, 2, none⟩ = some (.int .i64 c2) ∧ W.cell? ⟨k6, 0, none⟩ = some (.int .i64 u0) ∧ W.cell? ⟨k6, 1, none⟩ = some (.int .i64 u1) ∧ W.cell? ⟨k6, 2, none⟩ = some (.int .i64 u2)) (refine cells33q ?_ ?_ <;> (repeat (first | with_reducible assumption | with_reducible exact Arr.box (by assumption) | with_reducible exact Box.new _ _ _ _ _ _ | with_reducible exact Arr.new _ _ _ _ _ _ | with_reducible refine Arr.drew ?_ | with_reducible refine Arr.drewN ?_ _ | with_reducible refine Arr.store4 ?_ | with_reducible refine Arr.alloc ?_ _ | with_reducible refine Box.drew ?_ | with_reducible refine Box.drewN ?_ _ | with_reducible refine Box.alloc ?_ _ | with_reducible refine Arr.next ?_ (by assumption) | with_reducible refine Box.next ?_ (by assumption) | refine Arr.oth ?_ (by first | (simp; done) | omega | (simp; omega)) _ | refine Box.oth ?_ (by first | (simp; done) | omega | (simp; omega)) _ | with_reducible exact Arr3.box (by assumption) | with_reducible exact Box3.new _ _ _ _ _ | with_reducible exact Arr3.new _ _ _ _ _ | with_reducible refine Arr3.drew ?_ | with_reducible refine Arr3.drewN ?_ _ | with_reducible refine Arr3.store3 ?_ | with_reducible refine Arr3.alloc ?_ _ | with_reducible refine Box3.drew ?_ | with_reducible refine Box3.drewN ?_ _ | with_reducible refine Box3.alloc ?_ _ | with_reducible refine Arr3.next ?_ (by assumption) | with_reducible refine Box3.next ?_ (by assumption) | refine Arr3.oth ?_ (by first | (simp; done) | omega | (simp; omega)) _ | refine Box3.oth ?_ (by first | (simp; done) | omega | (simp; omega)) _))) (first | (go_at_call 59; refine (HPW.out _).mono ?_; rintro e' y1 ⟨rfl, hy1⟩))
          all_goals (go_wp2_with fail; go_meet; exact ⟨rfl, by (repeat (first | with_reducible assumption | with_reducible exact Arr.box (by assumption) | with_reducible exact Box.new _ _ _ _ _ _ | with_reducible exact Arr.new _ _ _ _ _ _ | with_reducible refine Arr.drew ?_ | with_reducible refine Arr.drewN ?_ _ | with_reducible refine Arr.store4 ?_ | with_reducible refine Arr.alloc ?_ _ | with_reducible refine Box.drew ?_ | with_reducible refine Box.drewN ?_ _ | with_reducible refine Box.alloc ?_ _ | with_reducible refine Arr.next ?_ (by assumption) | with_reducible refine Box.next ?_ (by assumption) | refine Arr.oth ?_ (by first | (simp; done) | omega | (simp; omega)) _ | refine Box.oth ?_ (by first | (simp; done) | omega | (simp; omega)) _ | with_reducible exact Arr3.box (by assumption) | with_reducible exact Box3.new _ _ _ _ _ | with_reducible exact Arr3.new _ _ _ _ _ | with_reducible refine Arr3.drew ?_ | with_reducible refine Arr3.drewN ?_ _ | with_reducible refine Arr3.store3 ?_ | with_reducible refine Arr3.alloc ?_ _ | with_reducible refine Box3.drew ?_ | with_reducible refine Box3.drewN ?_ _ | with_reducible refine Box3.alloc ?_ _ | with_reducible refine Arr3.next ?_ (by assumption) | with_reducible refine Box3.next ?_ (by assumption) | refine Arr3.oth ?_ (by first | (simp; done) | omega | (simp; omega)) _ | refine Box3.oth ?_ (by first | (simp; done) | omega | (simp; omega)) _)), RowQ.next hR9.out (by (repeat' (first | with_reducible exact Below.refl _ _ | with_reducible assumption | with_reducible refine gr_alloc ?_ _ | with_reducible refine gr_drew ?_ | with_reducible refine gr_drewN ?_ _ | with_reducible refine gr_trans ?_ (by assumption) | with_reducible refine gr_set ?_ ?_ _ | (simp; done) | omega | (simp; omega)))), by have hG := hG9.out; (repeat' (first | with_reducible exact Below.refl _ _ | with_reducible assumption | with_reducible refine gr_alloc ?_ _ | with_reducible refine gr_drew ?_ | with_reducible refine gr_drewN ?_ _ | with_reducible refine gr_trans ?_ (by assumption) | with_reducible refine gr_set ?_ ?_ _ | (simp; done) | omega | (simp; omega)))⟩)
        case rest =>
          obtain ⟨rfl, A10, R10, G10⟩ := hcut
          generalize hww : wc = w10 at *
          clear hww m0 m1 m2 n0 n1 n2 A9 K9 hR9 hG9 HPW HEQ
          obtain ⟨_, m0, m1, m2, _⟩ := id A10
          have HR10 := hid R10; have HG10 := hid G10
          clear R10 G10
          cases bb with
          | false =>
            go_wp2_with fail
            go_roundw
            case rel => exact ⟨i + 1, by push_cast; rfl, by omega, by rw [HFT.out]; simpa using HR10.out, HG10.out⟩
            case measure => simp [intOf]; omega
          | true =>
            have hs10 := HG10.out.size
            go_wp2_with (at_builtin; refine app_q rfl _ _ rfl W6.heap.size rfl HR10.out rfl hln hs10 ?_)
            intro v' w11 hrow hgrow
            have hU11 := RowQ.grown (W := W6) (RowQ.next HR10.out (gr_alloc (Below.refl _ _) _)) (gr_alloc HG10.out _) hgrow (Nat.le_refl _)
            go_wp2_with fail
            go_roundw
            case rel => exact ⟨i + 1, by push_cast; rfl, by omega, by rw [HFT.out]; simpa using hrow, hU11⟩
            case measure => simp [intOf]; omega
      · have hi2 : i = L.length := by omega
        subst hi2
        rw [List.take_length, ← HT.out] at hR
        obtain ⟨a', cap'', rfl⟩ := hR.val
        have hR2 := hR.base (B' := w.heap.size) HW2.out.size
        have HB2 := hid (gr_trans HW2.out hG)
        have HR2 := hid hR2
        go_wp2_with fail
        go_ret2
        exact ⟨_, rfl, HR2.out.out, HB2.out⟩

end Go.Proofs.Ytehbkmohfipmgaa
