/- Chapter 5: rootsOf, the program's. -/
import Derived.Test.YtdogkkmdccieiaaDoorZ6
import Derived.Test.YtdogkkmdccieiaaDoorDr
import Derived.Test.YtdogkkmdccieiaaDoorZ7
import Derived.WalkMore
import Derived.Deep.LoopGhost
namespace Go.Proofs.YtdogkkmdccieiaaDoor
open Go.RowKit

theorem mlt_t {m x y : Int} {f : Nat} {L : List Int} (h : mul0 (nva L x y) m = true) : mlt m x y (f + 1) L = mlt m x y f (dvd L x y) + 1 := by simp [mlt, h]
theorem mlt_f {m x y : Int} {f : Nat} {L : List Int} (h : mul0 (nva L x y) m = false) : mlt m x y (f + 1) L = 0 := by simp [mlt, h]
theorem stp_t {m x y : Int} {f : Nat} {L : List Int} (h : mul0 (nva L x y) m = true) (hs : stp m x y (f + 1) L = true) : stp m x y f (dvd L x y) = true := by simpa [stp, h] using hs
theorem LstV.rdP {L : List Int} {w : World} {e : Ending} {w' : World} (h : LstV L.length (fun i => L.getD i 0) w e w') (hL : L ≠ []) : ∃ v, e = .returned v ∧ RdP w' v L ∧ Below w.heap.size w w' := by
  obtain ⟨v, h1, h2, h3⟩ := h
  exact ⟨v, h1, h2.rdP hL, h3⟩
theorem ne_nil {L : List Int} {n : Nat} (h : L.length = n + 1) : L ≠ [] := fun e => by rw [e] at h; simp at h

set_option maxRecDepth 100000 in
set_option maxHeartbeats 8000000 in
theorem rootsOf_any (a b c d m : Int) (P : List (Int × Int)) (w : World) (hm0 : 0 ≤ m) (hm97 : m ≤ 499) (ha : -1000 ≤ a ∧ a ≤ 1000) (hb : -1000 ≤ b ∧ b ≤ 1000) (hc : -1000 ≤ c ∧ c ≤ 1000) (hd : -1000 ≤ d ∧ d ≤ 1000)
    (hpl : ∀ W, Calls Tryd.prog 122 #[.agg #[.int .i64 a, .int .i64 b, .int .i64 c, .int .i64 d], .int .i64 m] W (PlOut P W)) (hP0 : 0 < P.length) (hP1 : P.length ≤ 10000000) (hN : mul0 (cnt a b c d) m = false) (hst : ∀ k, (h : k < P.length) → stp m P[k].1 P[k].2 4 [a, b, c, d] = true) :
    Calls Tryd.prog 119 #[.agg #[.int .i64 a, .int .i64 b, .int .i64 c, .int .i64 d], .int .i64 m] w (RtOut (rts m [a, b, c, d] P).length ((rts m [a, b, c, d] P).flatMap tr3) w) := by
  have HPL := hid hpl; have HST := hid hst; have HN := hid hN; have HE := hid (@rtK_e m [a, b, c, d] P)
  clear hpl hst hN
  generalize rts m [a, b, c, d] P = RR at HE ⊢
  obtain ⟨i0, hi, hi0, hi1, hi2⟩ := info_parts info_rt
  have HI := hid hi; have HZ0 := hid hi0; have HZ1 := hid hi1; have HZ2 := hid hi2
  clear hi hi0 hi1 hi2
  have F0 := Bx.new w #[.int .i64 a, .int .i64 b, .int .i64 c, .int .i64 d] 25
  have U0 := gr_alloc (Below.refl w.heap.size w) (.cells #[.int .i64 a, .int .i64 b, .int .i64 c, .int .i64 d] 25)
  go_enter Tryd.func119, Tryd.ntmps119
  go_wp2_with fail
  go_step3
  go_wp2_with fail
  refine (iGcd4_any w.heap.size a b c d _ F0.arr4 ha hb hc hd).mono ?_
  rintro e w1 ⟨rfl, hb1⟩
  have F1 := F0.next hb1
  have U1 := gr_trans U0 hb1
  clear F0 U0
  have hN := HN.out
  generalize cnt a b c d = cn at hN ⊢
  go_wp2_with (go_at_call 121; refine (isMultiple_any _ _ _ hm0 (by omega)).mono ?_; rintro e w' ⟨rfl, rfl⟩)
  go_step3
  clear hN
  obtain ⟨_, c0, c1, c2, c3, _⟩ := F1.arr4
  go_wp2_with fail
  refine (HPL.out _).mono ?_
  rintro e w2 ⟨vp, rfl, hO, hb2⟩
  obtain ⟨g, cap, rfl, hg0, hg, hcl, hcm, hcell⟩ := owns_formS hO hP0
  have S2 : Rst w w2 a b c d (.slice (some ⟨g, 0, none⟩) P.length cap) P (.slice none 0 0) [] := ⟨F1.next hb2, owns_mono hO U1.size, World.ownsRow_nil _ _ _ _, gr_trans U1 hb2⟩
  have HS2 := hid S2
  clear S2 F1 U1 c0 c1 c2 c3 hO hcell HPL HN
  generalize hn : P.length = n at hP0 hP1 hcl HE ⊢
  have HL := hid hn
  clear hn
  unfold maxLen at hcm
  go_wp2_with fail
  go_loopw [5, 19] (fun s5 s19 wr => ∃ k : Nat, k ≤ n ∧ s19 = .int .i64 ((k : Int)) ∧ Rst w wr a b c d (.slice (some ⟨g, 0, none⟩) n cap) P s5 (rtK m [a, b, c, d] P k)) (fun _ s19 _ => n - (intOf s19).toNat)
  case atStart => exact ⟨0, Nat.zero_le _, rfl, by have := HS2.out; rwa [HL.out] at this⟩
  case round =>
    obtain ⟨k, hk, rfl, hR⟩ := hrel
    have HR := hid hR
    clear hR HS2
    by_cases hlt : k < n
    · have hkP : k < P.length := by rw [HL.out]; exact hlt
      have hT := HST.out k hkP
      have hS := @rtK_s m [a, b, c, d] P k hkP
      obtain ⟨_, cap', e', _, hg', _, _, hcell⟩ := owns_formS HR.out.pts (by omega)
      cases e'
      have hx0 := hcell (k * 2 + 0) _ ((flat_get pr2 2 (fun _ => rfl) P k 0 hkP (by omega)).trans rfl)
      have hx1 := hcell (k * 2 + 1) _ ((flat_get pr2 2 (fun _ => rfl) P k 1 hkP (by omega)).trans rfl)
      simp only [Nat.add_zero] at hx0
      have hrl := rtK_len m [a, b, c, d] P k
      generalize hq : P[k] = q at hT hS hx0 hx1
      obtain ⟨x, y⟩ := q
      simp only at hT hx0 hx1
      have HT := hid hT; have HS := hid hS
      clear hT hS hq hcell
      generalize rtK m [a, b, c, d] P k = R at HR HS hrl
      have X0 := Bx.new wr #[.int .i64 x, .int .i64 y] 132
      have V0 := RdP.arr ((HR.out.box.alloc (.cells #[.int .i64 x, .int .i64 y] 132)).arr4)
      have B0 := (Below.refl wr.heap.size wr).alloc (Nat.le_refl _) (.cells #[.int .i64 x, .int .i64 y] 132)
      go_wp2_with fail
      refine wp_loop_rounds 4 ?_
      rw [rounds_succ]
      have xa0 := X0.cell 0
      have xb0 := X0.cell 1
      go_wp2_with fail
      refine (numbersAt_any _ [a, b, c, d] x y _ V0).mono ?_
      rintro e wn0 ⟨rfl, hn0⟩
      have Y0 := X0.next hn0
      have Z0 := V0.next hn0
      have C0 := gr_trans B0 hn0
      clear xa0 xb0 X0 V0 B0
      have ya0 := Y0.cell 0
      have yb0 := Y0.cell 1
      cases hb0 : mul0 (nva [a, b, c, d] x y) m with
      | false =>
        have HM := hid (rt1_0 (m := m) (L := [a, b, c, d]) (q := (x, y)) (mlt_f hb0))
        go_wp2_with (go_at_call 121; refine (isMultiple_any _ _ _ hm0 (by omega)).mono ?_; rintro e w' ⟨rfl, rfl⟩)
        go_roundw
        case rel => exact ⟨k + 1, by omega, by go_num, by rw [HS.out, HM.out, List.append_nil]; exact HR.out.next C0⟩
        case measure => simp [intOf]; omega
      | true =>
        have HT1 := hid (stp_t hb0 HT.out)
        have D1 := dvd_len (x := x) (y := y) (L := [a, b, c, d]) (n := 3) rfl
        go_wp2_with (go_at_call 121; refine (isMultiple_any _ _ _ hm0 (by omega)).mono ?_; rintro e w' ⟨rfl, rfl⟩)
        refine (dividedAt_any _ [a, b, c, d] x y 3 _ Z0 rfl (by omega) (by omega)).mono ?_
        intro e wd0 hl0
        obtain ⟨v1, rfl, V1, hd0⟩ := LstV.rdP hl0 (ne_nil D1)
        have X1 := Y0.next hd0
        have B1 := gr_trans C0 hd0
        clear ya0 yb0 Y0 Z0 C0
        go_wp2_with fail
        rw [rounds_succ]
        have xa1 := X1.cell 0
        have xb1 := X1.cell 1
        go_wp2_with fail
        refine (numbersAt_any _ (dvd [a, b, c, d] x y) x y _ V1).mono ?_
        rintro e wn1 ⟨rfl, hn1⟩
        have Y1 := X1.next hn1
        have Z1 := V1.next hn1
        have C1 := gr_trans B1 hn1
        clear xa1 xb1 X1 V1 B1
        have ya1 := Y1.cell 0
        have yb1 := Y1.cell 1
        cases hb1 : mul0 (nva (dvd [a, b, c, d] x y) x y) m with
        | false =>
          have HM := hid (rt1_n (m := m) (L := [a, b, c, d]) (q := (x, y)) (n := 0) (by rw [mlt_t hb0, mlt_f hb1]))
          have HQ := hid (HR.out.next C1)
          go_wp2_with (first | (go_at_call 121; refine (isMultiple_any _ _ _ hm0 (by omega)).mono ?_; rintro e w' ⟨rfl, rfl⟩) | (at_builtin; refine wpList_append_own _ rfl _ _ 126 rfl w.heap.size 134 i0 (.agg #[.int .i64 0, .int .i64 0, .int .i64 0]) 3 24 Tryd.underlying126 HI.out HZ0.out HZ1.out HZ2.out rfl (by decide) _ _ _ rfl (HQ.out.rts.alloc _) ⟨wn1.heap.size, 0, none⟩ 1 1 [.int .i64 x, .int .i64 y, .int .i64 1] rfl rfl ?a1 ?b1 ?c1 ?d1 ?e1 ?_))
          case a1 =>
            intro j u hj
            match j, hj with
            | 0, hj => simp at hj; subst hj; simp [Addr.add, go_sem]
            | 1, hj => simp at hj; subst hj; simp [Addr.add, go_sem]
            | 2, hj => simp at hj; subst hj; simp [Addr.add, go_sem]
          case b1 => intro u hu; simp at hu; rcases hu with rfl | rfl | rfl <;> rfl
          case c1 => unfold maxLen; omega
          case d1 => omega
          case e1 => have := HQ.out.bel.size; first | omega | (simp; omega)
          intro y1 W1 O1 hg1 _
          have HO1 := hid (HQ.out.app hg1 (r := (x, y, 1)) O1)
          clear O1 hg1
          go_wp2
          go_roundw
          case rel => exact ⟨k + 1, by omega, by go_num, by rw [HS.out, HM.out]; exact HO1.out⟩
          case measure => simp [intOf]; omega
        | true =>
          have HT2 := hid (stp_t hb1 HT1.out)
          have D2 := dvd_len (x := x) (y := y) (L := (dvd [a, b, c, d] x y)) (n := 2) D1
          go_wp2_with (go_at_call 121; refine (isMultiple_any _ _ _ hm0 (by omega)).mono ?_; rintro e w' ⟨rfl, rfl⟩)
          refine (dividedAt_any _ (dvd [a, b, c, d] x y) x y 2 _ Z1 D1 (by omega) (by omega)).mono ?_
          intro e wd1 hl1
          obtain ⟨v2, rfl, V2, hd1⟩ := LstV.rdP hl1 (ne_nil D2)
          have X2 := Y1.next hd1
          have B2 := gr_trans C1 hd1
          clear ya1 yb1 Y1 Z1 C1
          go_wp2_with fail
          rw [rounds_succ]
          have xa2 := X2.cell 0
          have xb2 := X2.cell 1
          go_wp2_with fail
          refine (numbersAt_any _ (dvd (dvd [a, b, c, d] x y) x y) x y _ V2).mono ?_
          rintro e wn2 ⟨rfl, hn2⟩
          have Y2 := X2.next hn2
          have Z2 := V2.next hn2
          have C2 := gr_trans B2 hn2
          clear xa2 xb2 X2 V2 B2
          have ya2 := Y2.cell 0
          have yb2 := Y2.cell 1
          cases hb2 : mul0 (nva (dvd (dvd [a, b, c, d] x y) x y) x y) m with
          | false =>
            have HM := hid (rt1_n (m := m) (L := [a, b, c, d]) (q := (x, y)) (n := 1) (by rw [mlt_t hb0, mlt_t hb1, mlt_f hb2]))
            have HQ := hid (HR.out.next C2)
            go_wp2_with (first | (go_at_call 121; refine (isMultiple_any _ _ _ hm0 (by omega)).mono ?_; rintro e w' ⟨rfl, rfl⟩) | (at_builtin; refine wpList_append_own _ rfl _ _ 126 rfl w.heap.size 134 i0 (.agg #[.int .i64 0, .int .i64 0, .int .i64 0]) 3 24 Tryd.underlying126 HI.out HZ0.out HZ1.out HZ2.out rfl (by decide) _ _ _ rfl (HQ.out.rts.alloc _) ⟨wn2.heap.size, 0, none⟩ 1 1 [.int .i64 x, .int .i64 y, .int .i64 2] rfl rfl ?a2 ?b2 ?c2 ?d2 ?e2 ?_))
            case a2 =>
              intro j u hj
              match j, hj with
              | 0, hj => simp at hj; subst hj; simp [Addr.add, go_sem]
              | 1, hj => simp at hj; subst hj; simp [Addr.add, go_sem]
              | 2, hj => simp at hj; subst hj; simp [Addr.add, go_sem]
            case b2 => intro u hu; simp at hu; rcases hu with rfl | rfl | rfl <;> rfl
            case c2 => unfold maxLen; omega
            case d2 => omega
            case e2 => have := HQ.out.bel.size; first | omega | (simp; omega)
            intro y1 W1 O1 hg1 _
            have HO1 := hid (HQ.out.app hg1 (r := (x, y, 2)) O1)
            clear O1 hg1
            go_wp2
            go_roundw
            case rel => exact ⟨k + 1, by omega, by go_num, by rw [HS.out, HM.out]; exact HO1.out⟩
            case measure => simp [intOf]; omega
          | true =>
            have HT3 := hid (stp_t hb2 HT2.out)
            have D3 := dvd_len (x := x) (y := y) (L := (dvd (dvd [a, b, c, d] x y) x y)) (n := 1) D2
            go_wp2_with (go_at_call 121; refine (isMultiple_any _ _ _ hm0 (by omega)).mono ?_; rintro e w' ⟨rfl, rfl⟩)
            refine (dividedAt_any _ (dvd (dvd [a, b, c, d] x y) x y) x y 1 _ Z2 D2 (by omega) (by omega)).mono ?_
            intro e wd2 hl2
            obtain ⟨v3, rfl, V3, hd2⟩ := LstV.rdP hl2 (ne_nil D3)
            have X3 := Y2.next hd2
            have B3 := gr_trans C2 hd2
            clear ya2 yb2 Y2 Z2 C2
            go_wp2_with fail
            rw [rounds_succ]
            have xa3 := X3.cell 0
            have xb3 := X3.cell 1
            go_wp2_with fail
            refine (numbersAt_any _ (dvd (dvd (dvd [a, b, c, d] x y) x y) x y) x y _ V3).mono ?_
            rintro e wn3 ⟨rfl, hn3⟩
            have Y3 := X3.next hn3
            have Z3 := V3.next hn3
            have C3 := gr_trans B3 hn3
            clear xa3 xb3 X3 V3 B3
            have ya3 := Y3.cell 0
            have yb3 := Y3.cell 1
            cases hb3 : mul0 (nva (dvd (dvd (dvd [a, b, c, d] x y) x y) x y) x y) m with
            | false =>
              have HM := hid (rt1_n (m := m) (L := [a, b, c, d]) (q := (x, y)) (n := 2) (by rw [mlt_t hb0, mlt_t hb1, mlt_t hb2, mlt_f hb3]))
              have HQ := hid (HR.out.next C3)
              go_wp2_with (first | (go_at_call 121; refine (isMultiple_any _ _ _ hm0 (by omega)).mono ?_; rintro e w' ⟨rfl, rfl⟩) | (at_builtin; refine wpList_append_own _ rfl _ _ 126 rfl w.heap.size 134 i0 (.agg #[.int .i64 0, .int .i64 0, .int .i64 0]) 3 24 Tryd.underlying126 HI.out HZ0.out HZ1.out HZ2.out rfl (by decide) _ _ _ rfl (HQ.out.rts.alloc _) ⟨wn3.heap.size, 0, none⟩ 1 1 [.int .i64 x, .int .i64 y, .int .i64 3] rfl rfl ?a3 ?b3 ?c3 ?d3 ?e3 ?_))
              case a3 =>
                intro j u hj
                match j, hj with
                | 0, hj => simp at hj; subst hj; simp [Addr.add, go_sem]
                | 1, hj => simp at hj; subst hj; simp [Addr.add, go_sem]
                | 2, hj => simp at hj; subst hj; simp [Addr.add, go_sem]
              case b3 => intro u hu; simp at hu; rcases hu with rfl | rfl | rfl <;> rfl
              case c3 => unfold maxLen; omega
              case d3 => omega
              case e3 => have := HQ.out.bel.size; first | omega | (simp; omega)
              intro y1 W1 O1 hg1 _
              have HO1 := hid (HQ.out.app hg1 (r := (x, y, 3)) O1)
              clear O1 hg1
              go_wp2
              go_roundw
              case rel => exact ⟨k + 1, by omega, by go_num, by rw [HS.out, HM.out]; exact HO1.out⟩
              case measure => simp [intOf]; omega
            | true =>
              exact absurd (stp_t hb3 HT3.out) (by simp [stp])
    · have e : k = n := by omega
      subst e
      have HE' := hid (show rtK m [a, b, c, d] P k = RR by rw [← HE.out])
      go_wp2
      try rw [Exit.noGoto_ret]
      go_ret
      rw [HE'.out] at HR
      exact ⟨_, rfl, HR.out.rts, HR.out.bel⟩


end Go.Proofs.YtdogkkmdccieiaaDoor
