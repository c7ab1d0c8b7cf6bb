/- Chapter 10: ThirdRoots by the model. -/
import Derived.Test.YtehbkmohfipmgaaBtWe
namespace Go.Proofs.Ytehbkmohfipmgaa
open Go.RowKit

set_option maxHeartbeats 400000 in
theorem l10Unit_any (a b c : Int) (w : World) : Calls Try.prog 57 #[.agg #[.int .i64 a, .int .i64 b, .int .i64 c]] w fun e w' => e = .returned (.bool (a == 1)) ∧ Below w.heap.size w w' := by
  go_enter Try.func57, Try.ntmps57
  go_wp2
  go_ret
  exact ⟨rfl, by (repeat' (first | with_reducible exact Below.refl _ _ | with_reducible assumption | with_reducible refine gr_alloc ?_ _ | with_reducible refine gr_drew ?_ | with_reducible refine gr_drewN ?_ _ | with_reducible refine gr_trans ?_ (by assumption) | with_reducible refine gr_set ?_ ?_ _ | (simp; done) | omega | (simp; omega)))⟩
theorem cellsA3 {W : World} {b o : Nat} {x y z : Int} (K : At3 W b o x y z) : W.cell? ⟨b, o, none⟩ = some (.int .i64 x) ∧ W.cell? ⟨b, o + 1, none⟩ = some (.int .i64 y) ∧ W.cell? ⟨b, o + 2, none⟩ = some (.int .i64 z) := ⟨K.c0, K.c1, K.c2⟩
theorem unit_tri {d : Int} {c : Qd} (hc : El d c) : ((cp (cp c c) c).1 == 1) = tri3 d c := by
  have hcc := (hc.comp hc).1
  have h3 := (hcc.comp hc).1
  have e : cp (cp c c) c = cp c (cp c c) := El.comm hcc hc
  unfold tri3
  rw [← e, Bool.eq_iff_iff]
  simp only [beq_iff_eq, decide_eq_true_eq]
  exact ⟨fun h => el_one h3 h, fun h => by rw [h]; rfl⟩

set_option maxRecDepth 100000 in
set_option maxHeartbeats 4000000 in
theorem sThird_any (d : Int) (w : World) : Calls Try.prog 23 #[.int .i64 d] w (QlsOut (if dcl d then 0 else 2) (thr d).length (fun i => ((thr d).flatMap qi3).getD i 0) w) := by
  have hC := fun W => l10Discriminant_any d W
  cases hd : dcl d with
  | false =>
    rw [hd] at hC
    have HC := hid hC
    clear hC
    go_enter Try.func23, Try.ntmps23
    go_wp2_with fail
    refine (HC.out _).mono ?_
    rintro e w1 ⟨rfl, rfl⟩
    go_wp2
    go_ret2
    exact ⟨_, rfl, .inl ⟨rfl, by simp⟩, Below.refl _ _⟩
  | true =>
    have hl := cls_650 hd
    have hS := fun W => sClasses_any d W hd
    obtain ⟨⟨d1, d2⟩, _⟩ := dcl_t hd
    rw [hd] at hC
    have HC := hid hC
    have hE := fun c h => cls_el (d := d) (by omega) c h
    have hP := fun c (h : El d c) W => l10Comp_any c c d W h h d1
    have hP2 := fun c (h : El d c) W => l10Comp_any (cp c c) c d W (h.comp h).1 h d1
    have hth : thr d = (cls d).filter (tri3 d) := rfl
    have hat := fun i c h => at_flat (cls d) i c h
    have hun := fun c (h : El d c) => unit_tri h
    generalize hL : cls d = L at hS hE hth hat hl
    have HS := hid hS; have HE := hid hE; have HP := hid hP; have HP2 := hid hP2; have HT := hid hth; have HAT := hid hat; have HLL := hid hL; have HUN := hid hun
    clear hC hS hE hP hP2 hth hat hL hun
    go_enter Try.func23, Try.ntmps23
    go_wp2_with fail
    refine (HC.out _).mono ?_
    rintro e w1 ⟨rfl, rfl⟩
    go_wp2_with fail
    refine (HS.out _).mono ?_
    rintro e w2 ⟨v, rfl, hV, hb2⟩
    have HV2 := hid hV.out.rdB
    have HW2 := hid hb2
    obtain ⟨a, cap, rfl⟩ := hV.val
    have R0 := RowQ.empty w2.heap.size w2 (Nat.le_refl _)
    have HR0 := hid R0
    have HU0 := hid (gr_alloc (Below.refl w2.heap.size w2) (.cells #[] 25))
    clear hV hb2 R0 HC HS
    go_wp2_with fail
    go_loopw [5, 6] (fun s t wr => ∃ i : Nat, t = .int .i64 (i : Int) ∧ i ≤ L.length ∧ RowQ w2.heap.size wr s ((L.take i).filter (tri3 d)) ∧ Below w2.heap.size w2 wr) (fun _ t _ => L.length + 1 - (intOf t).toNat)
    case atStart => exact ⟨0, rfl, by omega, by simpa using HR0.out, HU0.out⟩
    case round =>
      obtain ⟨i, rfl, hi, hR, hG⟩ := hrel
      clear HR0 HU0
      by_cases hlt : i < L.length
      · obtain ⟨c, hc⟩ : ∃ c, L[i]? = some c := ⟨_, List.getElem?_eq_getElem hlt⟩
        obtain ⟨b, cap', hv, hc1, hc2, hb, hA3⟩ := (HV2.out.below hG (Nat.le_refl _)).at hG.size hlt
        cases hv
        obtain ⟨f1, f2, f3⟩ := HAT.out i c hc
        rw [f1, f2, f3] at hA3
        have hel := HE.out c (List.mem_of_getElem? hc)
        have hp1 := HP.out c hel
        have hp2 := HP2.out c hel
        have hun := HUN.out c hel
        have hft : (L.take (i + 1)).filter (tri3 d) = (L.take i).filter (tri3 d) ++ (if tri3 d c then [c] else []) := filter_take hc
        have hln : ((L.take i).filter (tri3 d)).length ≤ 1000000 := by
          have h1 := List.length_filter_le (tri3 d) (L.take i)
          have h2 := List.length_take_le i L
          omega
        generalize cp (cp c c) c = R3 at hp2 hun
        generalize cp c c = R2 at hp1 hp2
        generalize tri3 d c = bb at hun hft
        obtain ⟨c0, c1, c2⟩ := c
        obtain ⟨s0, s1, s2⟩ := R2
        obtain ⟨r0, r1, r2⟩ := R3
        have hp3 := fun W => l10Unit_any r0 r1 r2 W
        have hun : (r0 == 1) = bb := hun
        rw [hun] at hp3
        have HP1 := hid hp1; have HP2' := hid hp2; have HP3 := hid hp3; have HFT := hid hft
        have HRR := hid hR; have HGG := hid hG
        have HA3 := hid hA3
        unfold maxLen at hc2
        obtain ⟨_, m0, m1, m2⟩ := id hA3
        clear hp1 hp2 hp3 hun hft hR hG f1 f2 f3 hel hA3
        (try dsimp only at m0 m1 m2)
        go_upto_region 7 with fail
        have hA4 := HA3.out
        go_cut [33] (fun s33 wx => s33 = .bool bb ∧ RowQ w2.heap.size wx u5 ((L.take i).filter (tri3 d)) ∧ Below w2.heap.size w2 wx)
        case first =>
          go_region_held3 (fun W => W.cell? ⟨b, i * 3, none⟩ = some (.int .i64 c0) ∧ W.cell? ⟨b, i * 3 + 1, none⟩ = some (.int .i64 c1) ∧ W.cell? ⟨b, i * 3 + 2, none⟩ = some (.int .i64 c2)) (refine cellsA3 ?_ <;> (repeat (first | with_reducible assumption | with_reducible refine At3.drew ?_ | with_reducible refine At3.drewN ?_ _ | with_reducible refine At3.alloc ?_ _ | (with_reducible refine At3.next ?_ (by assumption) ?_; rotate_left; first | omega | (simp; omega))))) (first | (go_at_call_of 43 (Value.int .i64 s0); refine (HP2'.out _).mono ?_; rintro e' y2 ⟨rfl, hy2⟩; have hz2 := hy2.size; (try simp at hz2)) | (go_at_call 43; refine (HP1.out _).mono ?_; rintro e' y1 ⟨rfl, hy1⟩; have hz1 := hy1.size; (try simp at hz1)) | (go_at_call 57; refine (HP3.out _).mono ?_; rintro e' y3 ⟨rfl, hy3⟩; have hz3 := hy3.size; (try simp at hz3)))
          all_goals (go_wp2_with fail; go_meet; exact ⟨rfl, RowQ.next HRR.out (by (repeat' (first | with_reducible exact Below.refl _ _ | with_reducible assumption | with_reducible refine gr_alloc ?_ _ | with_reducible refine gr_drew ?_ | with_reducible refine gr_drewN ?_ _ | with_reducible refine gr_trans ?_ (by assumption) | with_reducible refine gr_set ?_ ?_ _ | (simp; done) | omega | (simp; omega)))), by have hG := HGG.out; (repeat' (first | with_reducible exact Below.refl _ _ | with_reducible assumption | with_reducible refine gr_alloc ?_ _ | with_reducible refine gr_drew ?_ | with_reducible refine gr_drewN ?_ _ | with_reducible refine gr_trans ?_ (by assumption) | with_reducible refine gr_set ?_ ?_ _ | (simp; done) | omega | (simp; omega)))⟩)
        case rest =>
          obtain ⟨rfl, R10, G10⟩ := hcut
          generalize hww : wc = w10 at *
          have hA10 := ((HV2.out.below G10 (Nat.le_refl _)).at G10.size hlt)
          clear hww m0 m1 m2 HP1 HP2' HP3 hA4 HRR HGG
          have HR10 := hid R10; have HG10 := hid G10
          obtain ⟨b', cap9, hv9, _, _, _, hA11⟩ := hA10
          cases hv9
          obtain ⟨f1, f2, f3⟩ := HAT.out i (c0, c1, c2) hc
          rw [f1, f2, f3] at hA11
          obtain ⟨_, m0, m1, m2⟩ := id hA11
          (try dsimp only at m0 m1 m2)
          clear R10 G10 f1 f2 f3 hA11
          cases bb with
          | false =>
            go_wp2_with fail
            go_roundw
            case rel => exact ⟨i + 1, by push_cast; rfl, by omega, by rw [HFT.out]; simpa using HR10.out, HG10.out⟩
            case measure => simp [intOf]; omega
          | true =>
            have hs10 := HG10.out.size
            go_wp2_with (at_builtin; refine app_q rfl _ _ rfl w2.heap.size rfl HR10.out rfl hln hs10 ?_)
            intro v' w11 hrow hgrow
            have hU11 := RowQ.grown (W := w2) (RowQ.next HR10.out (gr_alloc (Below.refl _ _) _)) (gr_alloc HG10.out _) hgrow (Nat.le_refl _)
            go_wp2_with fail
            go_roundw
            case rel => exact ⟨i + 1, by push_cast; rfl, by omega, by rw [HFT.out]; simpa using hrow, hU11⟩
            case measure => simp [intOf]; omega
      · have hi2 : i = L.length := by omega
        subst hi2
        rw [List.take_length, ← HT.out] at hR
        obtain ⟨a', cap'', rfl⟩ := hR.val
        have HR2 := hid (hR.base (B' := w.heap.size) HW2.out.size)
        have HB2 := hid (gr_trans HW2.out hG)
        go_wp2_with fail
        go_ret2
        exact ⟨_, rfl, HR2.out.out, HB2.out⟩

end Go.Proofs.Ytehbkmohfipmgaa
