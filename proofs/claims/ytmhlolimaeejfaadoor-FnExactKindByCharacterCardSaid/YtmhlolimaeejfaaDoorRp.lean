/- Chapter 5: the model's list of roots modulo a prime. -/
import Derived.Test.YtmhlolimaeejfaaDoorZ11
namespace Go.Proofs.YtmhlolimaeejfaaDoor
open Go.RowKit

theorem info_sl5 : (Tryd.prog.info? 33).map (fun i => (i.zero, i.size, i.bytes)) = some (some (.slice none 0 0), 1, 24) := by kernel_rfl
def rw3 (r : Int × Int × Int) : List Int := [r.1, r.2.1, r.2.2]
theorem ptm_k {n k : Nat} (h : k < n) (h' : k < (ptm (n : Int)).length) : (ptm (n : Int))[k] = ((k : Int), 1) := by
  simp [ptm, ptl, h]
theorem ptm_e {n : Nat} (h' : n < (ptm (n : Int)).length) : (ptm (n : Int))[n] = (1, 0) := by
  simp [ptm, ptl]
/-- The root at a point: none, or one of a multiplicity greater than 0. -/
theorem rt_or (m : Int) (L : List Int) (x y : Int) {M : Nat} (hM : mlt m x y 4 L = M) : ((M : Int) = 0 ∧ rt1 m L (x, y) = []) ∨ (0 < (M : Int) ∧ rt1 m L (x, y) = [(x, y, (M : Int))]) := by
  rcases Nat.eq_zero_or_pos M with h | h
  · subst h; exact .inl ⟨rfl, by simp [rt1, hM]⟩
  · exact .inr ⟨by omega, by simp [rt1, hM, show ¬ M = 0 by omega]⟩
theorem map_app {R R' : List (Int × Int × Int)} {r : List (Int × Int × Int)} (h : R' = R ++ r) : R'.map rw3 = R.map rw3 ++ r.map rw3 := by rw [h, List.map_append]
/-- A list of rows that the call laid. -/
def RwOut (s : Nat) (R : List (List Int)) (w : World) (e : Ending) (w' : World) : Prop := ∃ v, e = .returned v ∧ RwX w.heap.size w' v s R ∧ Below w.heap.size w w'

set_option maxRecDepth 100000 in
set_option maxHeartbeats 4000000 in
theorem l05Roots_any (a b c d p : Int) (w : World) (h2 : 2 ≤ p) (h97 : p ≤ 499) (ha : -1000 ≤ a ∧ a ≤ 1000) (hb : -1000 ≤ b ∧ b ≤ 1000) (hc : -1000 ≤ c ∧ c ≤ 1000) (hd : -1000 ≤ d ∧ d ≤ 1000) (hN : mul0 (cnt a b c d) p = false) :
    Calls Tryd.prog 27 #[.agg #[.int .i64 a, .int .i64 b, .int .i64 c, .int .i64 d], .int .i64 p] w (RwOut 3 ((rts p [a, b, c, d] (ptm p)).map rw3) w) := by
  obtain ⟨n, rfl⟩ : ∃ n : Nat, p = n := ⟨p.toNat, by omega⟩
  have HR1 := hid (fun (k : Nat) (h : k < n) W => l05Root_1 a b c d n k W h2 h97 ha hb hc hd (by omega))
  have HR0 := hid (fun W => l05Root_0 a b c d n W h2 h97 ha hb hc hd)
  have HM1 := hid (fun (k : Nat) (h : k < n) => rt_or n [a, b, c, d] k 1 (mlt_1 (x := k) ha hb hc hd (by omega) hN).1)
  have HM0 := hid (rt_or n [a, b, c, d] 1 0 (mlt_0 ha hb hc hd hN).1)
  have HS := hid (fun (k : Nat) (h : k < n) => (show rtK n [a, b, c, d] (ptm n) (k + 1) = rtK n [a, b, c, d] (ptm n) k ++ rt1 n [a, b, c, d] ((k : Int), 1) by
    have h' : k < (ptm (n : Int)).length := by rw [ptm_len]; omega
    rw [rtK_s h', ptm_k h h']))
  have HE := hid (show rts n [a, b, c, d] (ptm n) = rtK n [a, b, c, d] (ptm n) n ++ rt1 n [a, b, c, d] (1, 0) by
    have h' : n < (ptm (n : Int)).length := by rw [ptm_len]; omega
    rw [← rtK_e, ptm_len, show (n : Int).toNat + 1 = n + 1 by omega, rtK_s h', ptm_e h'])
  have HL := hid (fun k => rtK_len n [a, b, c, d] (ptm n) k)
  have HZ := hid (show rtK n [a, b, c, d] (ptm n) 0 = [] by simp [rtK])
  clear ha hb hc hd hN
  generalize rts n [a, b, c, d] (ptm n) = RR at HE ⊢
  generalize rtK n [a, b, c, d] (ptm n) = K at HS HE HL HZ
  generalize rt1 n [a, b, c, d] = R1 at HM1 HM0 HS HE
  obtain ⟨i0, hi, hi0, hi1, hi2⟩ := info_parts info_sl5
  have HI := hid hi; have HZ0 := hid hi0; have HZ1 := hid hi1; have HZ2 := hid hi2
  clear hi hi0 hi1 hi2
  have F0 := (Bx.new w #[.int .i64 a, .int .i64 b, .int .i64 c, .int .i64 d] 26).alloc (.cells #[] 33)
  have U0 := gr_alloc (gr_alloc (Below.refl w.heap.size w) (.cells #[.int .i64 a, .int .i64 b, .int .i64 c, .int .i64 d] 26)) (.cells #[] 33)
  have R0 := RwX.empty w.heap.size (w.alloc (.cells #[.int .i64 a, .int .i64 b, .int .i64 c, .int .i64 d] 26)) 3 (by simp)
  simp only [World.size_alloc] at R0
  go_enter Tryd.func27, Tryd.ntmps27
  go_wp2_with fail
  go_loopw [5, 6] (fun s5 s6 wr => ∃ k : Nat, k ≤ n ∧ s6 = .int .i64 ((k : Int)) ∧ RwX w.heap.size wr s5 3 ((K k).map rw3) ∧ Bx wr w.heap.size #[.int .i64 a, .int .i64 b, .int .i64 c, .int .i64 d] 26 ∧ Below w.heap.size w wr) (fun _ s6 _ => n - (intOf s6).toNat)
  case atStart => exact ⟨0, Nat.zero_le _, rfl, by rw [HZ.out]; exact R0, F0, U0⟩
  case round =>
    obtain ⟨k, hk, rfl, ⟨T, hT⟩, hF, hU⟩ := hrel
    have HT := hid hT; have HF := hid hF; have HU := hid hU
    have hsz := hU.size
    have hl := HL.out k
    obtain ⟨_, c0, c1, c2, c3, _⟩ := hF.arr4
    clear hT hF hU F0 U0 R0
    by_cases hlt : k < n
    · have HC := hid (HR1.out k hlt)
      have hM := HM1.out k hlt
      have HK := hid (HS.out k hlt)
      generalize ((mmu (n : Int) a b c d (k : Int) 1 : Nat) : Int) = t at HC hM
      go_wp2_with fail
      refine (HC.out _).mono ?_
      rintro e w1 ⟨rfl, hb1⟩
      clear c0 c1 c2 c3 HC
      have HT1 := hid (HT.out.next hb1)
      have HF1 := hid (HF.out.next hb1)
      have HU1 := hid (gr_trans HU.out hb1)
      have hs1 := HU1.out.size
      rcases hM with ⟨rfl, h1⟩ | ⟨ht, h1⟩
      · have HE1 := hid (show K (k + 1) = K k by rw [HK.out, h1, List.append_nil])
        clear h1
        go_wp2_with fail
        go_roundw
        case rel => exact ⟨k + 1, by omega, by go_num, by rw [HE1.out]; exact ⟨T, HT1.out⟩, HF1.out, HU1.out⟩
        case measure => simp [intOf]; omega
      · have HE1 := hid (show (K (k + 1)).map rw3 = (K k).map rw3 ++ [[(k : Int), 1, t]] by rw [HK.out, h1, List.map_append]; rfl)
        clear h1
        have hlm : ((K k).map rw3).length ≤ 499 := by rw [List.length_map]; omega
        generalize (K k).map rw3 = Rk at HT HT1 HE1 hlm
        go_wp2_with (at_builtin; refine wpList_append_own _ rfl _ _ 23 rfl w.heap.size 33 i0 (.slice none 0 0) 1 24 Tryd.underlying23 HI.out HZ0.out HZ1.out HZ2.out rfl (by decide) _ _ _ rfl ((HT1.out.own.alloc _).alloc _) ⟨w1.heap.size + 1, 0, none⟩ 1 1 [.slice (some ⟨w1.heap.size, 0, none⟩) 3 3] rfl rfl ?a1 ?b1 ?c1 ?d1 ?e1 ?_)
        case a1 =>
          intro j u hj
          match j, hj with
          | 0, hj => simp at hj; subst hj; simp [Addr.add, go_sem]
        case b1 => first | (intro u hu; simp at hu; subst hu; rfl) | rfl | simp [Value.oneCell']
        case c1 => unfold maxLen; omega
        case d1 => omega
        case e1 => first | omega | (simp; omega)
        intro y1 W1 O1 hg1 _
        have HX := hid (HT1.out.app (r := [(k : Int), 1, t]) rfl (by omega) hg1 O1)
        have HF2 := hid ((HF1.out.alloc (.cells (cI [(k : Int), 1, t]) 2)).app (HT1.out.own.alloc _) (by decide) hg1)
        have HU2 := hid (gr_own (gr_alloc (gr_alloc HU1.out _) _) hg1 (fun j hj => (HT1.out.own.lt j hj).1))
        clear O1 hg1
        go_wp2_with fail
        go_roundw
        case rel => exact ⟨k + 1, by omega, by go_num, by rw [HE1.out]; exact ⟨_, HX.out⟩, HF2.out, HU2.out⟩
        case measure => simp [intOf]; omega
    · have e : k = n := by omega
      subst e
      have HC := hid HR0.out
      have hM := HM0.out
      generalize ((mmu (k : Int) a b c d 1 0 : Nat) : Int) = t at HC hM
      go_wp2_with fail
      refine (HC.out _).mono ?_
      rintro e w1 ⟨rfl, hb1⟩
      clear c0 c1 c2 c3 HC
      have HT1 := hid (HT.out.next hb1)
      have HU1 := hid (gr_trans HU.out hb1)
      have hs1 := HU1.out.size
      rcases hM with ⟨rfl, h1⟩ | ⟨ht, h1⟩
      · have HE1 := hid (show RR = K k by rw [HE.out, h1, List.append_nil])
        clear h1
        go_wp2_with fail
        go_ret
        exact ⟨_, rfl, by rw [HE1.out]; exact ⟨T, HT1.out⟩, HU1.out⟩
      · have HE1 := hid (show RR.map rw3 = (K k).map rw3 ++ [[1, 0, t]] by rw [HE.out, h1, List.map_append]; rfl)
        clear h1
        have hlm : ((K k).map rw3).length ≤ 499 := by rw [List.length_map]; omega
        generalize (K k).map rw3 = Rk at HT HT1 HE1 hlm
        go_wp2_with (at_builtin; refine wpList_append_own _ rfl _ _ 23 rfl w.heap.size 33 i0 (.slice none 0 0) 1 24 Tryd.underlying23 HI.out HZ0.out HZ1.out HZ2.out rfl (by decide) _ _ _ rfl ((HT1.out.own.alloc _).alloc _) ⟨w1.heap.size + 1, 0, none⟩ 1 1 [.slice (some ⟨w1.heap.size, 0, none⟩) 3 3] rfl rfl ?a2 ?b2 ?c2 ?d2 ?e2 ?_)
        case a2 =>
          intro j u hj
          match j, hj with
          | 0, hj => simp at hj; subst hj; simp [Addr.add, go_sem]
        case b2 => first | (intro u hu; simp at hu; subst hu; rfl) | rfl | simp [Value.oneCell']
        case c2 => unfold maxLen; omega
        case d2 => omega
        case e2 => first | omega | (simp; omega)
        intro y1 W1 O1 hg1 _
        have HX := hid (HT1.out.app (r := [1, 0, t]) rfl (by omega) hg1 O1)
        have HU2 := hid (gr_own (gr_alloc (gr_alloc HU1.out _) _) hg1 (fun j hj => (HT1.out.own.lt j hj).1))
        clear O1 hg1
        go_wp2_with fail
        go_ret
        exact ⟨_, rfl, by rw [HE1.out]; exact ⟨_, HX.out⟩, HU2.out⟩


end Go.Proofs.YtmhlolimaeejfaaDoor
