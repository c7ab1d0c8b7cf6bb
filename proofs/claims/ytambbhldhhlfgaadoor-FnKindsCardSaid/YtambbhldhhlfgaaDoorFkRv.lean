/- Chapter 5: KindsUpTo. -/
import Derived.Test.YtambbhldhhlfgaaDoorFkRu
import Derived.Test.YtambbhldhhlfgaaDoorFkZ12
import Derived.Deep.AppendLies
namespace Go.Proofs.YtambbhldhhlfgaaDoor
open Go.RowKit

def kuc (a b c d n : Int) : Int := if isF a b c d then nco n else 1
def kul (a b c d n : Int) : List Int := (prl (n.toNat + 1)).map (kdn a b c d)
theorem nco_0 {n : Int} (h : nco n = 0) : 2 ≤ n ∧ n ≤ 97 := by
  unfold nco at h; split at h
  · rename_i hr; exact rng_t hr
  · omega
theorem kul_s {a b c d n : Int} {k : Nat} (h : k < (prl (n.toNat + 1)).length) : ((kul a b c d n).take (k + 1)) = (kul a b c d n).take k ++ [kdn a b c d ((prl (n.toNat + 1)).getD k 0)] := by
  have h' : k < (kul a b c d n).length := by unfold kul; rw [List.length_map]; exact h
  rw [List.take_succ_eq_append_getElem h']
  simp [kul, List.getD, h]
theorem kul_le (a b c d n : Int) : (if kuc a b c d n = 0 then (kul a b c d n).length else 0) ≤ 1000 := by
  split
  · rename_i h
    unfold kuc at h
    split at h
    · have := nco_0 h
      have := prl_len (n.toNat + 1)
      unfold kul; rw [List.length_map]; omega
    · omega
  · omega
theorem own_app1 {w : World} {B : Nat} {t : TypeId} {v : Value} {k : Nat} {M M' : List Int} {z : Int} (hs : M' = M ++ [z]) (h : w.ownsRow B t 1 v (k + 1) (M.map (Value.int .i64) ++ [.int .i64 z])) : w.ownsRow B t 1 v (k + 1) (M'.map (Value.int .i64)) := by
  subst hs; simpa using h

set_option maxRecDepth 100000 in
set_option maxHeartbeats 4000000 in
theorem iKindsUpTo_any (a b c d n : Int) (pv : Value) (w : World) (hg : Sen w pv) : Calls Tryd.prog 64 #[.agg #[.int .i64 a, .int .i64 b, .int .i64 c, .int .i64 d], .int .i64 n] w (LstOut (kuc a b c d n) (kul a b c d n).length (fun i => (kul a b c d n).getD i 0) w) := by
  have U0 := gr_alloc (Below.refl w.heap.size w) (.cells #[.int .i64 a, .int .i64 b, .int .i64 c, .int .i64 d] 25)
  have G0 := hg.alloc (.cells #[.int .i64 a, .int .i64 b, .int .i64 c, .int .i64 d] 25)
  have F0 := Bx.new w #[.int .i64 a, .int .i64 b, .int .i64 c, .int .i64 d] 25
  cases hF : isF a b c d with
  | false =>
    have HE := hid (show kuc a b c d n = 1 by simp [kuc, hF])
    go_enter Tryd.func64, Tryd.ntmps64
    go_wp2_with fail
    refine (iIsForm_any a b c d _).mono ?_
    rintro e w1 ⟨rfl, hb1⟩
    go_wp2_with fail
    go_ret2
    rw [HE.out]
    exact ⟨_, rfl, .inl ⟨rfl, by simp⟩, gr_trans U0 hb1⟩
  | true =>
    have HE := hid (show kuc a b c d n = nco n by simp [kuc, hF])
    have HF := hid hF
    have HP := hid (fun W => iPrimesUpTo_any n W)
    have h97 := @nco_0 n
    have HS := hid (fun k => @kul_s a b c d n k)
    have HM := hid (fun k (h : k < (prl (n.toNat + 1)).length) => (prl_mem (getD_mem (prl (n.toNat + 1)) k 0 h)).1)
    have HL := hid (show (kul a b c d n).length = (prl (n.toNat + 1)).length by simp [kul])
    have hlen := prl_len (n.toNat + 1)
    generalize kul a b c d n = KL at HS HL ⊢
    generalize kuc a b c d n = KC at HE ⊢
    generalize prl (n.toNat + 1) = PL at HP HS HM HL hlen
    generalize nco n = nc at HE HP h97
    have H97 := hid h97
    clear h97
    go_enter Tryd.func64, Tryd.ntmps64
    go_wp2_with fail
    refine (iIsForm_any a b c d _).mono ?_
    rintro e w1 ⟨rfl, hb1⟩
    have U1 := gr_trans U0 hb1
    have F1 := F0.next hb1
    have G1 := G0.next hb1
    clear U0 F0 G0
    go_wp2_with fail
    refine (HP.out _).mono ?_
    rintro e w2 ⟨v, rfl, hV, hb2⟩
    have U2 := gr_trans U1 hb2
    have F2 := F1.next hb2
    have G2 := G1.next hb2
    clear U1 F1 G1
    by_cases hn : nc = 0
    · subst hn
      obtain ⟨h2, h97⟩ := H97.out rfl
      rw [if_pos rfl] at hV
      have hlv : PL.length ≤ 98 := by omega
      have hform : ∃ va cap, v = .slice va PL.length cap := by
        rcases hV with ⟨rfl, h⟩ | ⟨k, cap, rfl, _⟩
        · exact ⟨none, 0, by rw [h]⟩
        · exact ⟨_, cap, rfl⟩
      obtain ⟨va, cap, rfl⟩ := hform
      have HV := hid hV
      have HF2 := hid F2; have HG2 := hid G2; have HU2 := hid U2
      have O2 := World.ownsRow_nil w2 w2.heap.size 2 1
      clear hV F2 G2 U2 hlen
      go_wp2_with fail
      go_loopw [8, 24] (fun s8 s24 wr => ∃ k : Nat, k ≤ PL.length ∧ s24 = .int .i64 ((k : Int)) ∧ wr.ownsRow w2.heap.size 2 1 s8 k ((KL.take k).map (Value.int .i64)) ∧ Below w2.heap.size w2 wr) (fun _ s24 _ => PL.length - (intOf s24).toNat)
      case atStart => exact ⟨0, Nat.zero_le _, rfl, O2, Below.refl _ _⟩
      case round =>
        obtain ⟨k, hk, rfl, hO, hU⟩ := hrel
        have HO := hid hO; have HU := hid hU
        have hsz := hU.size
        clear hO hU O2
        by_cases hlt : k < PL.length
        · rcases HV.out with ⟨_, h0⟩ | ⟨kb, cap', e', _, hkb, _, hcm, hcell⟩
          · omega
          · cases e'
            have y0 : wr.cell? ⟨kb, k, none⟩ = some (.int .i64 (PL.getD k 0)) := (HU.out.cell (p := ⟨kb, k, none⟩) hkb).trans (hcell k hlt).1
            obtain ⟨_, c0, c1, c2, c3, _⟩ := (HF2.out.next HU.out).arr4
            have HQ := hid (HM.out k hlt)
            have HS1 := hid (HS.out k hlt)
            generalize PL.getD k 0 = q at y0 HQ HS1
            have HK := hid (kindModulo_any a b c d q pv wr (HG2.out.next HU.out) HF.out (prm_prq HQ.out))
            generalize kdn a b c d q = z at HK HS1
            unfold maxLen at hcm
            clear hcell
            go_wp2_with fail
            with_reducible refine HK.out.mono ?_
            rintro e w3 ⟨T, vv, rfl, hK, hb3⟩
            have HO3 := hid (owns_next HO.out hb3)
            have HU3 := hid (gr_trans HU.out hb3)
            have hs3 := HU3.out.size
            clear c0 c1 c2 c3 y0 HK
            have fin : ∀ w4, Below w3.heap.size w3 w4 → w4.ownsRow w2.heap.size 2 1 _ k ((KL.take k).map (Value.int .i64)) ∧ Below w2.heap.size w2 w4 := fun w4 hb4 => ⟨owns_next HO3.out hb4, gr_trans HU3.out hb4⟩
            have HFIN := hid fin
            clear fin
            rcases hK with ⟨rfl, rfl, hn⟩ | ⟨t, rfl, rfl, hn⟩ | ⟨m, rfl, rfl, hn⟩
            · subst hn
              go_wp2_with fail
              refine (zkNumber_any _).mono ?_
              rintro e w4 ⟨rfl, hb4⟩
              obtain ⟨hO4, hU4⟩ := HFIN.out w4 hb4
              have HO4 := hid hO4; have HU4 := hid hU4
              have hs4 := hU4.size
              clear hO4 hU4
              go_wp2_with (at_builtin; refine app_i64 rfl _ _ rfl w2.heap.size rfl HO4.out rfl (by omega) (by omega) ?_)
              intro v5 w5 O5 hg5
              have HO5 := hid (own_app1 HS1.out (by rw [List.map_take]; exact O5))
              have HU5 := hid (gr_own (gr_alloc HU4.out _) hg5 (fun j hj => (HO4.out.lt j hj).1))
              clear O5 hg5
              go_wp2_with fail
              go_roundw
              case rel => exact ⟨k + 1, by omega, by go_num, HO5.out, HU5.out⟩
              case measure => simp [intOf]; omega
            · generalize hu : (if t = 2 then (4 : Int) else 5) = u at hn
              have HN2 := hid (rkNumber_any t)
              rw [hu] at HN2
              clear hu
              subst hn
              go_wp2_with fail
              refine (HN2.out _).mono ?_
              rintro e w4 ⟨rfl, hb4⟩
              obtain ⟨hO4, hU4⟩ := HFIN.out w4 hb4
              have HO4 := hid hO4; have HU4 := hid hU4
              have hs4 := hU4.size
              clear hO4 hU4
              go_wp2_with (at_builtin; refine app_i64 rfl _ _ rfl w2.heap.size rfl HO4.out rfl (by omega) (by omega) ?_)
              intro v5 w5 O5 hg5
              have HO5 := hid (own_app1 HS1.out (by rw [List.map_take]; exact O5))
              have HU5 := hid (gr_own (gr_alloc HU4.out _) hg5 (fun j hj => (HO4.out.lt j hj).1))
              clear O5 hg5
              go_wp2_with fail
              go_roundw
              case rel => exact ⟨k + 1, by omega, by go_num, HO5.out, HU5.out⟩
              case measure => simp [intOf]; omega
            · generalize hu : (if m = 3 then (1 : Int) else if m = 1 then 2 else 3) = u at hn
              have HN2 := hid (skNumber_any m)
              rw [hu] at HN2
              clear hu
              subst hn
              go_wp2_with fail
              refine (HN2.out _).mono ?_
              rintro e w4 ⟨rfl, hb4⟩
              obtain ⟨hO4, hU4⟩ := HFIN.out w4 hb4
              have HO4 := hid hO4; have HU4 := hid hU4
              have hs4 := hU4.size
              clear hO4 hU4
              go_wp2_with (at_builtin; refine app_i64 rfl _ _ rfl w2.heap.size rfl HO4.out rfl (by omega) (by omega) ?_)
              intro v5 w5 O5 hg5
              have HO5 := hid (own_app1 HS1.out (by rw [List.map_take]; exact O5))
              have HU5 := hid (gr_own (gr_alloc HU4.out _) hg5 (fun j hj => (HO4.out.lt j hj).1))
              clear O5 hg5
              go_wp2_with fail
              go_roundw
              case rel => exact ⟨k + 1, by omega, by go_num, HO5.out, HU5.out⟩
              case measure => simp [intOf]; omega
        · have e : k = PL.length := by omega
          subst e
          have HT := hid (show KL.take PL.length = KL by rw [← HL.out, List.take_length])
          go_wp2_with fail
          go_ret2
          rw [HE.out]
          have h1 := HO.out
          rw [HT.out, ← HL.out] at h1
          exact ⟨_, rfl, (OwnV.of_owns h1).base HU2.out.size, gr_trans HU2.out HU.out⟩
    · have hn' : (nc == 0) = false := by simpa using hn
      have HN := hid hn
      clear hn
      go_wp2_with fail
      go_ret2
      rw [HE.out]
      exact ⟨_, rfl, .inl ⟨rfl, by rw [if_neg HN.out]⟩, U2⟩


end Go.Proofs.YtambbhldhhlfgaaDoor
