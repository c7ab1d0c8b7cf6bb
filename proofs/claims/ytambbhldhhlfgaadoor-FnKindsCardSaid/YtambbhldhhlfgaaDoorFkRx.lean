/- Chapter 5: KindsUpTo of the model. -/
import Derived.Test.YtambbhldhhlfgaaDoorFkRv
import Derived.Deep.RegionHeld3
import Derived.Deep.DeepCutAuto
namespace Go.Proofs.YtambbhldhhlfgaaDoor
open Go.RowKit

theorem cells5 {W : World} {k g i : Nat} {a b c d q : Int} {T : TypeId} {C : Nat} {w2 : World} (hF : Bx w2 k #[.int .i64 a, .int .i64 b, .int .i64 c, .int .i64 d] T) (hq : w2.cell? ⟨g, i, none⟩ = some (.int .i64 q)) (hg : g < C) (hk : k < C) (hb : Below C w2 W) :
    W.cell? ⟨k, 0, none⟩ = some (.int .i64 a) ∧ W.cell? ⟨k, 1, none⟩ = some (.int .i64 b) ∧ W.cell? ⟨k, 2, none⟩ = some (.int .i64 c) ∧ W.cell? ⟨k, 3, none⟩ = some (.int .i64 d) ∧ W.cell? ⟨g, i, none⟩ = some (.int .i64 q) :=
  ⟨(hF.below hb hk).cell 0, (hF.below hb hk).cell 1, (hF.below hb hk).cell 2, (hF.below hb hk).cell 3, (hb.cell (p := ⟨g, i, none⟩) hg).trans hq⟩

set_option maxRecDepth 100000 in
set_option maxHeartbeats 4000000 in
theorem sKindsUpTo_any (a b c d n : Int) (w : World) : Calls Tryd.prog 65 #[.agg #[.int .i64 a, .int .i64 b, .int .i64 c, .int .i64 d], .int .i64 n] w (LstOut (kuc a b c d n) (kul a b c d n).length (fun i => (kul a b c d n).getD i 0) w) := by
  have U0 := gr_alloc (Below.refl w.heap.size w) (.cells #[.int .i64 a, .int .i64 b, .int .i64 c, .int .i64 d] 25)
  have F0 := Bx.new w #[.int .i64 a, .int .i64 b, .int .i64 c, .int .i64 d] 25
  cases hF : isF a b c d with
  | false =>
    have HE := hid (show kuc a b c d n = 1 by simp [kuc, hF])
    go_enter Tryd.func65, Tryd.ntmps65
    go_wp2_with fail
    refine (l01Is_any a b c d _).mono ?_
    rintro e w1 ⟨rfl, hb1⟩
    go_wp2_with fail
    go_ret2
    rw [HE.out]
    exact ⟨_, rfl, .inl ⟨rfl, by simp⟩, gr_trans U0 hb1⟩
  | true =>
    cases hr : rng 2 97 n with
    | false =>
      have HE := hid (show kuc a b c d n = 2 by simp [kuc, hF, nco, hr])
      go_enter Tryd.func65, Tryd.ntmps65
      go_wp2_with fail
      refine (l01Is_any a b c d _).mono ?_
      rintro e w1 ⟨rfl, hb1⟩
      go_wp2_with (go_at_call 77; refine (l01In_any n 2 97 _).mono ?_; rintro e w' ⟨rfl, rfl⟩)
      go_ret2
      rw [HE.out]
      exact ⟨_, rfl, .inl ⟨rfl, by simp⟩, gr_trans U0 hb1⟩
    | true =>
      obtain ⟨h2, h97⟩ := rng_t hr
      have HE := hid (show kuc a b c d n = 0 by simp [kuc, hF, nco, hr])
      have HF := hid hF
      have HP := hid (fun W => l05Primes_any n W h2 h97)
      have HS := hid (fun k => @kul_s a b c d n k)
      have HM := hid (fun k (h : k < (prl (n.toNat + 1)).length) => (prl_mem (getD_mem (prl (n.toNat + 1)) k 0 h)).1)
      have HL := hid (show (kul a b c d n).length = (prl (n.toNat + 1)).length by simp [kul])
      have hlen := prl_len (n.toNat + 1)
      generalize kul a b c d n = KL at HS HL ⊢
      generalize kuc a b c d n = KC at HE ⊢
      generalize prl (n.toNat + 1) = PL at HP HS HM HL hlen
      go_enter Tryd.func65, Tryd.ntmps65
      go_wp2_with fail
      refine (l01Is_any a b c d _).mono ?_
      rintro e w1 ⟨rfl, hb1⟩
      have U1 := gr_trans U0 hb1
      have F1 := F0.next hb1
      clear U0 F0
      go_wp2_with (go_at_call 77; refine (l01In_any n 2 97 _).mono ?_; rintro e w' ⟨rfl, rfl⟩)
      refine (HP.out _).mono ?_
      rintro e w2 ⟨v, rfl, hV, hb2⟩
      have U2 := gr_trans U1 hb2
      have F2 := F1.next hb2
      clear U1 F1
      have hlv : PL.length ≤ 98 := by omega
      have hform : ∃ va cap, v = .slice va PL.length cap := by
        rcases hV with ⟨rfl, h⟩ | ⟨k, cap, rfl, _⟩
        · exact ⟨none, 0, by rw [h]⟩
        · exact ⟨_, cap, rfl⟩
      obtain ⟨va, cap, rfl⟩ := hform
      have HV := hid hV
      have HF2 := hid F2; have HU2 := hid U2
      have hkf := F2.lt
      have hw0 := U2.size
      have O2 := owns_empty w2 w2.heap.size 2 1 (Nat.le_refl _)
      have B2 := (Below.refl w2.heap.size w2).alloc (Nat.le_refl _) (.cells #[] 2)
      clear hV F2 U2 hlen hr
      go_wp2_with fail
      go_loopw [7, 8] (fun s7 s8 wr => ∃ k : Nat, k ≤ PL.length ∧ s8 = .int .i64 ((k : Int)) ∧ wr.ownsRow w2.heap.size 2 1 s7 k ((KL.take k).map (Value.int .i64)) ∧ Below w2.heap.size w2 wr) (fun _ s8 _ => PL.length - (intOf s8).toNat)
      case atStart => exact ⟨0, Nat.zero_le _, rfl, O2, B2⟩
      case round =>
        obtain ⟨k, hk, rfl, hO, hU⟩ := hrel
        have HO := hid hO; have HU := hid hU
        have hsz := hU.size
        clear hO hU O2 B2
        by_cases hlt : k < PL.length
        · rcases HV.out with ⟨_, h0⟩ | ⟨kb, cap', e', _, hkb, _, hcm, hcell⟩
          · omega
          · cases e'
            have z0 : w2.cell? ⟨kb, k, none⟩ = some (.int .i64 (PL.getD k 0)) := (hcell k hlt).1
            have HQ := hid (HM.out k hlt)
            have HS1 := hid (HS.out k hlt)
            generalize PL.getD k 0 = q at z0 HQ HS1
            obtain ⟨c0, c1, c2, c3, y0⟩ := cells5 HF2.out z0 hkb hkf HU.out
            have HZ := hid z0
            have HK := hid (fun W => l05Kind_any a b c d q W HF.out (prm_prq HQ.out))
            generalize kdn a b c d q = z at HK HS1
            unfold maxLen at hcm
            clear hcell z0
            go_wp2_with fail
            go_region_held3 (fun W => W.cell? ⟨w.heap.size, 0, none⟩ = some (.int .i64 a) ∧ W.cell? ⟨w.heap.size, 1, none⟩ = some (.int .i64 b) ∧ W.cell? ⟨w.heap.size, 2, none⟩ = some (.int .i64 c) ∧ W.cell? ⟨w.heap.size, 3, none⟩ = some (.int .i64 d) ∧ W.cell? ⟨kb, k, none⟩ = some (.int .i64 q)) (first | exact ⟨by assumption, by assumption, by assumption, by assumption, by assumption⟩ | (refine cells5 HF2.out HZ.out hkb hkf ?_; first | exact gr_trans (gr_drew HU.out) (by assumption) | exact gr_alloc (gr_trans (gr_drew HU.out) (by assumption)) _ | exact gr_own (gr_alloc (gr_trans (gr_drew HU.out) (by assumption)) _) (by assumption) (fun j hj => (HO.out.lt j hj).1))) (first | (go_at_call 143; refine (HK.out _).mono ?_; rintro e w3 ⟨rfl, hb3⟩; have hz3 := hb3.size; (try simp at hz3)) | (refine step_i64 (by rfl) (.tmp 26) (.tmp 33) (by rfl) w2.heap.size u7 (by rfl) (owns_next HO.out.drew hb3) z (by rfl) (by omega) (by omega) ?_; intro g1 cap1 W1 O1 hg1))
            have HO5 := hid (own_app1 HS1.out O1)
            have HU5 := hid (gr_own (gr_alloc (gr_trans (gr_drew HU.out) hb3) _) hg1 (fun j hj => (HO.out.lt j hj).1))
            clear O1 hg1
            go_wp2_with fail
            go_roundw
            case rel => exact ⟨k + 1, by omega, by go_num, HO5.out, HU5.out⟩
            case measure => simp [intOf]; omega
        · have e : k = PL.length := by omega
          subst e
          have HT := hid (show KL.take PL.length = KL by rw [← HL.out, List.take_length])
          go_wp2_with fail
          go_ret2
          rw [HE.out]
          have h1 := HO.out
          rw [HT.out, ← HL.out] at h1
          exact ⟨_, rfl, (OwnV.of_owns h1).base hw0, gr_trans HU2.out HU.out⟩


end Go.Proofs.YtambbhldhhlfgaaDoor
