/- Chapter 3: ResultantOf of the model. -/
import Derived.Test.YtigbaelbeaobpaaDn
import Derived.Test.YtigbaelbeaobpaaRsl2
import Derived.Test.YtigbaelbeaobpaaC1
import Derived.Test.YtigbaelbeaobpaaZ3
namespace Go.Proofs.Ytigbaelbeaobpaa
open Go.RowKit

theorem own6 {w : World} {B k : Nat} {x0 x1 x2 x3 x4 x5 : Value} {t : TypeId} (hB : B ≤ k) (hk : w.heap[k]? = some (.cells #[x0, x1, x2, x3, x4, x5] t)) : w.ownsRow B t 1 (.slice (some ⟨k, 0, none⟩) 6 6) 6 [x0, x1, x2, x3, x4, x5] :=
  ⟨by simp, .inr ⟨k, 6, _, rfl, hB, hk, Nat.le_refl _, by decide, by simp, by simp⟩⟩

theorem mk6 : ∀ w : World, (Instr.makeSlice 28 (.int .i64 6) (.int .i64 6)).run Try.prog w = .ok (.slice (some ⟨w.heap.size, 0, none⟩) 6 6) (w.alloc (.cells #[.int .i64 0, .int .i64 0, .int .i64 0, .int .i64 0, .int .i64 0, .int .i64 0] 2)) := fun _ => by kernel_rfl

set_option maxRecDepth 100000 in
set_option maxHeartbeats 4000000 in
theorem sResultantOf_any (a b c d e f g h : Int) (w : World) :
    Calls Try.prog 20 #[.agg #[.int .i64 a, .int .i64 b, .int .i64 c, .int .i64 d], .agg #[.int .i64 e, .int .i64 f, .int .i64 g, .int .i64 h]] w fun e' w' => e' = .returned (.tuple #[.int .i64 (if0 (rsc a b c d e f g h) (wrap64 (rsl a b c d e f g h))), .int .i64 (rsc a b c d e f g h)]) ∧ Below w.heap.size w w' := by
  have hd : ∀ v W, RdR 6 W v (sylR a b c d e f g h) → Calls Try.prog 59 #[v] W fun e' w' => e' = .returned (.int .i64 (wrap64 (rsl a b c d e f g h))) ∧ Below W.heap.size W w' := fun v W hR => by
    have := l03Det_any 6 (by omega) (sylR a b c d e f g h) v W hR
    rw [DL_syl] at this
    exact this
  have k0 : isF a b c d = true → isF e f g h = true → isR a b c d = true → isR e f g h = true → rsc a b c d e f g h = 0 := fun h1 h2 h3 h4 => by simp [rsc, h1, h2, h3, h4]
  have k1 : isF a b c d = true → isF e f g h = true → (isR a b c d && isR e f g h) = false → rsc a b c d e f g h = 2 := fun h1 h2 h3 => by simp [rsc, h1, h2, h3]
  have k2 : (isF a b c d && isF e f g h) = false → rsc a b c d e f g h = 1 := fun h1 => by simp [rsc, h1]
  have hM := fun i => show (nums 6 (sylR a b c d e f g h i)) = _ from rfl
  generalize rsc a b c d e f g h = k at k0 k1 k2 ⊢
  generalize wrap64 (rsl a b c d e f g h) = x at hd ⊢
  have m0 : nums 6 (sylR a b c d e f g h 0) = [.int .i64 a, .int .i64 b, .int .i64 c, .int .i64 d, .int .i64 0, .int .i64 0] := rfl
  have m1 : nums 6 (sylR a b c d e f g h 1) = [.int .i64 0, .int .i64 a, .int .i64 b, .int .i64 c, .int .i64 d, .int .i64 0] := rfl
  have m2 : nums 6 (sylR a b c d e f g h 2) = [.int .i64 0, .int .i64 0, .int .i64 a, .int .i64 b, .int .i64 c, .int .i64 d] := rfl
  have m3 : nums 6 (sylR a b c d e f g h 3) = [.int .i64 e, .int .i64 f, .int .i64 g, .int .i64 h, .int .i64 0, .int .i64 0] := rfl
  have m4 : nums 6 (sylR a b c d e f g h 4) = [.int .i64 0, .int .i64 e, .int .i64 f, .int .i64 g, .int .i64 h, .int .i64 0] := rfl
  have m5 : nums 6 (sylR a b c d e f g h 5) = [.int .i64 0, .int .i64 0, .int .i64 e, .int .i64 f, .int .i64 g, .int .i64 h] := rfl
  clear hM
  generalize sylR a b c d e f g h = M at hd m0 m1 m2 m3 m4 m5
  have HD := hid hd; have K0 := hid k0; have K1 := hid k1; have K2 := hid k2
  have M0 := hid m0; have M1 := hid m1; have M2 := hid m2; have M3 := hid m3; have M4 := hid m4; have M5 := hid m5
  clear hd k0 k1 k2 m0 m1 m2 m3 m4 m5
  obtain ⟨i1, hi, hz0, hz1, hz2⟩ := info_parts info_ls
  have HJ := hid hi; have HY0 := hid hz0; have HY1 := hid hz1; have HY2 := hid hz2
  clear hi hz0 hz1 hz2
  have A0 := (Arr.new w a b c d 25).alloc (.cells #[.int .i64 e, .int .i64 f, .int .i64 g, .int .i64 h] 25)
  have B0 := Arr.new (w.alloc (.cells #[.int .i64 a, .int .i64 b, .int .i64 c, .int .i64 d] 25)) e f g h 25
  have U0 := gr_alloc (gr_alloc (Below.refl w.heap.size w) (.cells #[.int .i64 a, .int .i64 b, .int .i64 c, .int .i64 d] 25)) (.cells #[.int .i64 e, .int .i64 f, .int .i64 g, .int .i64 h] 25)
  simp only [World.size_alloc] at A0 B0
  go_enter Try.func20, Try.ntmps20
  go_upto_region 1 with fail
  generalize (w.alloc (.cells #[.int .i64 a, .int .i64 b, .int .i64 c, .int .i64 d] 25)).alloc (.cells #[.int .i64 e, .int .i64 f, .int .i64 g, .int .i64 h] 25) = W0 at A0 B0 U0 ⊢
  obtain ⟨ka, ha⟩ : ∃ ka, ka = w.heap.size := ⟨_, rfl⟩
  rw [← ha] at A0 B0 ⊢
  generalize hkb : ka + 1 = kb at *
  have HA := hid ha; have HKB := hid hkb
  clear ha hkb
  obtain ⟨_, a0, a1, a2, a3, _⟩ := id A0
  obtain ⟨_, b0, b1, b2, b3, _⟩ := id B0
  go_wp2_with fail
  refine (l01Is_any a b c d _).mono ?_
  rintro e' w1 ⟨rfl, hb1⟩
  have A1 := A0.next hb1
  have B1 := B0.next hb1
  have U1 := gr_trans U0 hb1
  clear a0 a1 a2 a3 b0 b1 b2 b3 A0 B0 U0
  obtain ⟨_, b0, b1, b2, b3, _⟩ := id B1
  by_cases hm : isF a b c d = true
  · go_wp2_with fail
    refine (l01Is_any e f g h _).mono ?_
    rintro e' w2 ⟨rfl, hb2⟩
    have A2 := A1.next hb2
    have B2 := B1.next hb2
    have U2 := gr_trans U1 hb2
    clear b0 b1 b2 b3 A1 B1 U1 hb1 hb2
    by_cases hn : isF e f g h = true
    · obtain ⟨_, a0, a1, a2, a3, _⟩ := id A2
      obtain ⟨_, b0, b1, b2, b3, _⟩ := id B2
      have HF := hid hm; have HG := hid hn
      go_wp2_with fail
      refine wp_loop_rounds 5 ?_

      by_cases p0 : rng (-100) 100 a = true
      · skip
        by_cases q0 : rng (-100) 100 e = true
        · rw [rounds_succ]; go_wp2_with (go_at_call 39; refine (l01In_any _ _ _ _).mono ?_; rintro e w3 ⟨rfl, rfl⟩)
          by_cases p1 : rng (-100) 100 b = true
          · skip
            by_cases q1 : rng (-100) 100 f = true
            · rw [rounds_succ]; go_wp2_with (go_at_call 39; refine (l01In_any _ _ _ _).mono ?_; rintro e w3 ⟨rfl, rfl⟩)
              by_cases p2 : rng (-100) 100 c = true
              · skip
                by_cases q2 : rng (-100) 100 g = true
                · rw [rounds_succ]; go_wp2_with (go_at_call 39; refine (l01In_any _ _ _ _).mono ?_; rintro e w3 ⟨rfl, rfl⟩)
                  by_cases p3 : rng (-100) 100 d = true
                  · skip
                    by_cases q3 : rng (-100) 100 h = true
                    · rw [rounds_succ]; go_wp2_with (go_at_call 39; refine (l01In_any _ _ _ _).mono ?_; rintro e w3 ⟨rfl, rfl⟩)
                      rw [rounds_succ]; go_wp2_with fail
                      have hp : isR a b c d = true := by simp [isR, p0, p1, p2, p3]
                      have hq : isR e f g h = true := by simp [isR, q0, q1, q2, q3]
                      have kk := K0.out HF.out HG.out hp hq
                      subst kk
                      clear K0 K1 K2 hp hq p0 q0 p1 q1 p2 q2 p3 q3
                      --ROWS
                      have hw2 := hid (show w2 = w2 from rfl)
                      have HU2 := hid U2; have HA2 := hid A2; have HB2 := hid B2
                      clear a0 a1 a2 a3 b0 b1 b2 b3 A2 B2 U2 hw2
                      go_loopw [7, 8] (fun s7 s8 wr => ∃ (i : Nat) (z : Int), z = i ∧ i ≤ 6 ∧ s8 = .int .i64 z ∧ RwV w2.heap.size wr s7 i 6 M ∧ Below w2.heap.size w2 wr) (fun _ s8 _ => 6 - (intOf s8).toNat)
                      case atStart => exact ⟨0, 0, rfl, by omega, rfl, RwV.empty _ _ _ _ (Nat.le_refl _), gr_alloc (Below.refl _ _) _⟩
                      case round =>
                        obtain ⟨i, z, hz, hi6, rfl, hV, hUi⟩ := hrel
                        have hs := hUi.size
                        have A3 := HA2.out.next hUi
                        have B3 := HB2.out.next hUi
                        have hla := A3.lt
                        have hlb := B3.lt
                        obtain ⟨_, a0, a1, a2, a3, _⟩ := id A3
                        obtain ⟨_, b0, b1, b2, b3, _⟩ := id B3
                        rcases (by omega : i = 0 ∨ i = 1 ∨ i = 2 ∨ i = 3 ∨ i = 4 ∨ i = 5 ∨ i = 6) with rfl | rfl | rfl | rfl | rfl | rfl | rfl
                        · obtain rfl : z = 0 := by omega
                          clear hz hi6
                          have HUi := hid hUi
                          obtain ⟨hh, hL⟩ := hV.open
                          have HL := hid hL
                          clear hV hL hUi
                          go_wp2_with fail
                          have hmk := mk6
                          go_region
                          · clear a0 a1 a2 a3
                            go_wp2_with fail
                            clear hmk
                            refine wp_loop_rounds 5 ?_
                            rw [rounds_succ]
                            go_wp2_with fail
                            rw [rounds_succ]
                            go_wp2_with fail
                            rw [rounds_succ]
                            go_wp2_with fail
                            rw [rounds_succ]
                            go_wp2_with fail
                            have hr4 : ((wr.alloc (.cells #[.int .i64 a, .int .i64 b, .int .i64 c, .int .i64 d, .int .i64 0, .int .i64 0] 2)).alloc (.cells #[.int .i64 a, .int .i64 b, .int .i64 c, .int .i64 d] 25)).ownsRow w2.heap.size 2 1 (.slice (some ⟨wr.heap.size, 0, none⟩) 6 6) 6 (nums 6 (M 0)) := by
                              rw [M0.out]
                              exact (own6 hs (heap_alloc_new wr _)).alloc _
                            have hL4 := HL.out.next (gr_alloc (gr_alloc (Below.refl _ wr) (.cells #[.int .i64 a, .int .i64 b, .int .i64 c, .int .i64 d, .int .i64 0, .int .i64 0] 2)) (.cells #[.int .i64 a, .int .i64 b, .int .i64 c, .int .i64 d] 25))
                            have hU4 := gr_alloc (gr_alloc HUi.out (.cells #[.int .i64 a, .int .i64 b, .int .i64 c, .int .i64 d, .int .i64 0, .int .i64 0] 2)) (.cells #[.int .i64 a, .int .i64 b, .int .i64 c, .int .i64 d] 25)
                            generalize wr.heap.size = row at hr4 ⊢
                            generalize (wr.alloc (.cells #[.int .i64 a, .int .i64 b, .int .i64 c, .int .i64 d, .int .i64 0, .int .i64 0] 2)).alloc (.cells #[.int .i64 a, .int .i64 b, .int .i64 c, .int .i64 d] 25) = W4 at hr4 hL4 hU4 ⊢
                            have hs4 := hU4.size
                            have HR4 := hid hr4
                            have HL4 := hid hL4
                            have HU4 := hid hU4
                            clear hr4 hL4 hU4 HL HUi hs hla hlb A3 B3 b0 b1 b2 b3
                            rw [rounds_succ]
                            go_wp2_with (at_builtin; refine wpList_append_own _ rfl _ _ 80 rfl w2.heap.size 28 i1 (.slice none 0 0) 1 24 Try.underlying80 HJ.out HY0.out HY1.out HY2.out rfl (by decide) _ _ _ rfl (HL4.out.own.alloc _) ⟨W4.heap.size, 0, none⟩ 1 1 [.slice (some ⟨row, 0, none⟩) 6 6] rfl rfl ?a00 ?b00 ?c00 ?d00 ?e00 ?_)
                            case a00 =>
                              intro j u hj
                              match j, hj with
                              | 0, hj => simp at hj; subst hj; simp [Addr.add, go_sem]
                            case b00 => first | (intro u hu; simp at hu; subst hu; rfl) | rfl | simp [Value.oneCell']
                            case c00 => unfold maxLen; omega
                            case d00 => omega
                            case e00 => simp; omega
                            intro y0 z0 O0 hg0 _
                            have hV' := hid (((HL4.out.next (gr_drew (gr_alloc (Below.refl _ W4) (.cells #[.slice (some ⟨row, 0, none⟩) 6 6] 28)))).app rfl (owns_nx HR4.out (gr_drew (gr_alloc (Below.refl _ W4) (.cells #[.slice (some ⟨row, 0, none⟩) 6 6] 28)))) hg0 O0).close)
                            have hU' := hid ((gr_drew (gr_alloc HU4.out (.cells #[.slice (some ⟨row, 0, none⟩) 6 6] 28))).grown hg0 (by simp; omega) (fun q e => (HL4.out.own.lt q e).1))
                            clear hg0 O0 HL4 HR4 HU4
                            go_wp2_with fail
                            go_roundw
                            case rel => exact ⟨1, 1, rfl, by omega, rfl, hV'.out, hU'.out⟩
                            case measure => simp [intOf]
                          · clear a0 a1 a2 a3
                            go_wp2_with fail
                            clear hmk
                            refine wp_loop_rounds 5 ?_
                            rw [rounds_succ]
                            go_wp2_with fail
                            rw [rounds_succ]
                            go_wp2_with fail
                            rw [rounds_succ]
                            go_wp2_with fail
                            rw [rounds_succ]
                            go_wp2_with fail
                            have hr4 : ((wr.alloc (.cells #[.int .i64 a, .int .i64 b, .int .i64 c, .int .i64 d] 25)).alloc (.cells #[.int .i64 a, .int .i64 b, .int .i64 c, .int .i64 d, .int .i64 0, .int .i64 0] 2)).ownsRow w2.heap.size 2 1 (.slice (some ⟨wr.heap.size + 1, 0, none⟩) 6 6) 6 (nums 6 (M 0)) := by
                              rw [M0.out]
                              exact own6 (by omega) (by have h := heap_alloc_new (wr.alloc (.cells #[.int .i64 a, .int .i64 b, .int .i64 c, .int .i64 d] 25)) (.cells #[.int .i64 a, .int .i64 b, .int .i64 c, .int .i64 d, .int .i64 0, .int .i64 0] 2); simpa using h)
                            have hL4 := HL.out.next (gr_alloc (gr_alloc (Below.refl _ wr) (.cells #[.int .i64 a, .int .i64 b, .int .i64 c, .int .i64 d] 25)) (.cells #[.int .i64 a, .int .i64 b, .int .i64 c, .int .i64 d, .int .i64 0, .int .i64 0] 2))
                            have hU4 := gr_alloc (gr_alloc HUi.out (.cells #[.int .i64 a, .int .i64 b, .int .i64 c, .int .i64 d] 25)) (.cells #[.int .i64 a, .int .i64 b, .int .i64 c, .int .i64 d, .int .i64 0, .int .i64 0] 2)
                            generalize wr.heap.size + 1 = row at hr4 ⊢
                            generalize (wr.alloc (.cells #[.int .i64 a, .int .i64 b, .int .i64 c, .int .i64 d] 25)).alloc (.cells #[.int .i64 a, .int .i64 b, .int .i64 c, .int .i64 d, .int .i64 0, .int .i64 0] 2) = W4 at hr4 hL4 hU4 ⊢
                            have hs4 := hU4.size
                            have HR4 := hid hr4
                            have HL4 := hid hL4
                            have HU4 := hid hU4
                            clear hr4 hL4 hU4 HL HUi hs hla hlb A3 B3 b0 b1 b2 b3
                            rw [rounds_succ]
                            go_wp2_with (at_builtin; refine wpList_append_own _ rfl _ _ 80 rfl w2.heap.size 28 i1 (.slice none 0 0) 1 24 Try.underlying80 HJ.out HY0.out HY1.out HY2.out rfl (by decide) _ _ _ rfl (HL4.out.own.alloc _) ⟨W4.heap.size, 0, none⟩ 1 1 [.slice (some ⟨row, 0, none⟩) 6 6] rfl rfl ?a01 ?b01 ?c01 ?d01 ?e01 ?_)
                            case a01 =>
                              intro j u hj
                              match j, hj with
                              | 0, hj => simp at hj; subst hj; simp [Addr.add, go_sem]
                            case b01 => first | (intro u hu; simp at hu; subst hu; rfl) | rfl | simp [Value.oneCell']
                            case c01 => unfold maxLen; omega
                            case d01 => omega
                            case e01 => simp; omega
                            intro y0 z0 O0 hg0 _
                            have hV' := hid (((HL4.out.next (gr_drew (gr_alloc (Below.refl _ W4) (.cells #[.slice (some ⟨row, 0, none⟩) 6 6] 28)))).app rfl (owns_nx HR4.out (gr_drew (gr_alloc (Below.refl _ W4) (.cells #[.slice (some ⟨row, 0, none⟩) 6 6] 28)))) hg0 O0).close)
                            have hU' := hid ((gr_drew (gr_alloc HU4.out (.cells #[.slice (some ⟨row, 0, none⟩) 6 6] 28))).grown hg0 (by simp; omega) (fun q e => (HL4.out.own.lt q e).1))
                            clear hg0 O0 HL4 HR4 HU4
                            go_wp2_with fail
                            go_roundw
                            case rel => exact ⟨1, 1, rfl, by omega, rfl, hV'.out, hU'.out⟩
                            case measure => simp [intOf]
                        · obtain rfl : z = 1 := by omega
                          clear hz hi6
                          have HUi := hid hUi
                          obtain ⟨hh, hL⟩ := hV.open
                          have HL := hid hL
                          clear hV hL hUi
                          go_wp2_with fail
                          have hmk := mk6
                          go_region
                          · clear a0 a1 a2 a3
                            go_wp2_with fail
                            clear hmk
                            refine wp_loop_rounds 5 ?_
                            rw [rounds_succ]
                            go_wp2_with fail
                            rw [rounds_succ]
                            go_wp2_with fail
                            rw [rounds_succ]
                            go_wp2_with fail
                            rw [rounds_succ]
                            go_wp2_with fail
                            have hr4 : ((wr.alloc (.cells #[.int .i64 0, .int .i64 a, .int .i64 b, .int .i64 c, .int .i64 d, .int .i64 0] 2)).alloc (.cells #[.int .i64 a, .int .i64 b, .int .i64 c, .int .i64 d] 25)).ownsRow w2.heap.size 2 1 (.slice (some ⟨wr.heap.size, 0, none⟩) 6 6) 6 (nums 6 (M 1)) := by
                              rw [M1.out]
                              exact (own6 hs (heap_alloc_new wr _)).alloc _
                            have hL4 := HL.out.next (gr_alloc (gr_alloc (Below.refl _ wr) (.cells #[.int .i64 0, .int .i64 a, .int .i64 b, .int .i64 c, .int .i64 d, .int .i64 0] 2)) (.cells #[.int .i64 a, .int .i64 b, .int .i64 c, .int .i64 d] 25))
                            have hU4 := gr_alloc (gr_alloc HUi.out (.cells #[.int .i64 0, .int .i64 a, .int .i64 b, .int .i64 c, .int .i64 d, .int .i64 0] 2)) (.cells #[.int .i64 a, .int .i64 b, .int .i64 c, .int .i64 d] 25)
                            generalize wr.heap.size = row at hr4 ⊢
                            generalize (wr.alloc (.cells #[.int .i64 0, .int .i64 a, .int .i64 b, .int .i64 c, .int .i64 d, .int .i64 0] 2)).alloc (.cells #[.int .i64 a, .int .i64 b, .int .i64 c, .int .i64 d] 25) = W4 at hr4 hL4 hU4 ⊢
                            have hs4 := hU4.size
                            have HR4 := hid hr4
                            have HL4 := hid hL4
                            have HU4 := hid hU4
                            clear hr4 hL4 hU4 HL HUi hs hla hlb A3 B3 b0 b1 b2 b3
                            rw [rounds_succ]
                            go_wp2_with (at_builtin; refine wpList_append_own _ rfl _ _ 80 rfl w2.heap.size 28 i1 (.slice none 0 0) 1 24 Try.underlying80 HJ.out HY0.out HY1.out HY2.out rfl (by decide) _ _ _ rfl (HL4.out.own.alloc _) ⟨W4.heap.size, 0, none⟩ 1 1 [.slice (some ⟨row, 0, none⟩) 6 6] rfl rfl ?a10 ?b10 ?c10 ?d10 ?e10 ?_)
                            case a10 =>
                              intro j u hj
                              match j, hj with
                              | 0, hj => simp at hj; subst hj; simp [Addr.add, go_sem]
                            case b10 => first | (intro u hu; simp at hu; subst hu; rfl) | rfl | simp [Value.oneCell']
                            case c10 => unfold maxLen; omega
                            case d10 => omega
                            case e10 => simp; omega
                            intro y0 z0 O0 hg0 _
                            have hV' := hid (((HL4.out.next (gr_drew (gr_alloc (Below.refl _ W4) (.cells #[.slice (some ⟨row, 0, none⟩) 6 6] 28)))).app rfl (owns_nx HR4.out (gr_drew (gr_alloc (Below.refl _ W4) (.cells #[.slice (some ⟨row, 0, none⟩) 6 6] 28)))) hg0 O0).close)
                            have hU' := hid ((gr_drew (gr_alloc HU4.out (.cells #[.slice (some ⟨row, 0, none⟩) 6 6] 28))).grown hg0 (by simp; omega) (fun q e => (HL4.out.own.lt q e).1))
                            clear hg0 O0 HL4 HR4 HU4
                            go_wp2_with fail
                            go_roundw
                            case rel => exact ⟨2, 2, rfl, by omega, rfl, hV'.out, hU'.out⟩
                            case measure => simp [intOf]
                          · clear a0 a1 a2 a3
                            go_wp2_with fail
                            clear hmk
                            refine wp_loop_rounds 5 ?_
                            rw [rounds_succ]
                            go_wp2_with fail
                            rw [rounds_succ]
                            go_wp2_with fail
                            rw [rounds_succ]
                            go_wp2_with fail
                            rw [rounds_succ]
                            go_wp2_with fail
                            have hr4 : ((wr.alloc (.cells #[.int .i64 a, .int .i64 b, .int .i64 c, .int .i64 d] 25)).alloc (.cells #[.int .i64 0, .int .i64 a, .int .i64 b, .int .i64 c, .int .i64 d, .int .i64 0] 2)).ownsRow w2.heap.size 2 1 (.slice (some ⟨wr.heap.size + 1, 0, none⟩) 6 6) 6 (nums 6 (M 1)) := by
                              rw [M1.out]
                              exact own6 (by omega) (by have h := heap_alloc_new (wr.alloc (.cells #[.int .i64 a, .int .i64 b, .int .i64 c, .int .i64 d] 25)) (.cells #[.int .i64 0, .int .i64 a, .int .i64 b, .int .i64 c, .int .i64 d, .int .i64 0] 2); simpa using h)
                            have hL4 := HL.out.next (gr_alloc (gr_alloc (Below.refl _ wr) (.cells #[.int .i64 a, .int .i64 b, .int .i64 c, .int .i64 d] 25)) (.cells #[.int .i64 0, .int .i64 a, .int .i64 b, .int .i64 c, .int .i64 d, .int .i64 0] 2))
                            have hU4 := gr_alloc (gr_alloc HUi.out (.cells #[.int .i64 a, .int .i64 b, .int .i64 c, .int .i64 d] 25)) (.cells #[.int .i64 0, .int .i64 a, .int .i64 b, .int .i64 c, .int .i64 d, .int .i64 0] 2)
                            generalize wr.heap.size + 1 = row at hr4 ⊢
                            generalize (wr.alloc (.cells #[.int .i64 a, .int .i64 b, .int .i64 c, .int .i64 d] 25)).alloc (.cells #[.int .i64 0, .int .i64 a, .int .i64 b, .int .i64 c, .int .i64 d, .int .i64 0] 2) = W4 at hr4 hL4 hU4 ⊢
                            have hs4 := hU4.size
                            have HR4 := hid hr4
                            have HL4 := hid hL4
                            have HU4 := hid hU4
                            clear hr4 hL4 hU4 HL HUi hs hla hlb A3 B3 b0 b1 b2 b3
                            rw [rounds_succ]
                            go_wp2_with (at_builtin; refine wpList_append_own _ rfl _ _ 80 rfl w2.heap.size 28 i1 (.slice none 0 0) 1 24 Try.underlying80 HJ.out HY0.out HY1.out HY2.out rfl (by decide) _ _ _ rfl (HL4.out.own.alloc _) ⟨W4.heap.size, 0, none⟩ 1 1 [.slice (some ⟨row, 0, none⟩) 6 6] rfl rfl ?a11 ?b11 ?c11 ?d11 ?e11 ?_)
                            case a11 =>
                              intro j u hj
                              match j, hj with
                              | 0, hj => simp at hj; subst hj; simp [Addr.add, go_sem]
                            case b11 => first | (intro u hu; simp at hu; subst hu; rfl) | rfl | simp [Value.oneCell']
                            case c11 => unfold maxLen; omega
                            case d11 => omega
                            case e11 => simp; omega
                            intro y0 z0 O0 hg0 _
                            have hV' := hid (((HL4.out.next (gr_drew (gr_alloc (Below.refl _ W4) (.cells #[.slice (some ⟨row, 0, none⟩) 6 6] 28)))).app rfl (owns_nx HR4.out (gr_drew (gr_alloc (Below.refl _ W4) (.cells #[.slice (some ⟨row, 0, none⟩) 6 6] 28)))) hg0 O0).close)
                            have hU' := hid ((gr_drew (gr_alloc HU4.out (.cells #[.slice (some ⟨row, 0, none⟩) 6 6] 28))).grown hg0 (by simp; omega) (fun q e => (HL4.out.own.lt q e).1))
                            clear hg0 O0 HL4 HR4 HU4
                            go_wp2_with fail
                            go_roundw
                            case rel => exact ⟨2, 2, rfl, by omega, rfl, hV'.out, hU'.out⟩
                            case measure => simp [intOf]
                        · obtain rfl : z = 2 := by omega
                          clear hz hi6
                          have HUi := hid hUi
                          obtain ⟨hh, hL⟩ := hV.open
                          have HL := hid hL
                          clear hV hL hUi
                          go_wp2_with fail
                          have hmk := mk6
                          go_region
                          · clear a0 a1 a2 a3
                            go_wp2_with fail
                            clear hmk
                            refine wp_loop_rounds 5 ?_
                            rw [rounds_succ]
                            go_wp2_with fail
                            rw [rounds_succ]
                            go_wp2_with fail
                            rw [rounds_succ]
                            go_wp2_with fail
                            rw [rounds_succ]
                            go_wp2_with fail
                            have hr4 : ((wr.alloc (.cells #[.int .i64 0, .int .i64 0, .int .i64 a, .int .i64 b, .int .i64 c, .int .i64 d] 2)).alloc (.cells #[.int .i64 a, .int .i64 b, .int .i64 c, .int .i64 d] 25)).ownsRow w2.heap.size 2 1 (.slice (some ⟨wr.heap.size, 0, none⟩) 6 6) 6 (nums 6 (M 2)) := by
                              rw [M2.out]
                              exact (own6 hs (heap_alloc_new wr _)).alloc _
                            have hL4 := HL.out.next (gr_alloc (gr_alloc (Below.refl _ wr) (.cells #[.int .i64 0, .int .i64 0, .int .i64 a, .int .i64 b, .int .i64 c, .int .i64 d] 2)) (.cells #[.int .i64 a, .int .i64 b, .int .i64 c, .int .i64 d] 25))
                            have hU4 := gr_alloc (gr_alloc HUi.out (.cells #[.int .i64 0, .int .i64 0, .int .i64 a, .int .i64 b, .int .i64 c, .int .i64 d] 2)) (.cells #[.int .i64 a, .int .i64 b, .int .i64 c, .int .i64 d] 25)
                            generalize wr.heap.size = row at hr4 ⊢
                            generalize (wr.alloc (.cells #[.int .i64 0, .int .i64 0, .int .i64 a, .int .i64 b, .int .i64 c, .int .i64 d] 2)).alloc (.cells #[.int .i64 a, .int .i64 b, .int .i64 c, .int .i64 d] 25) = W4 at hr4 hL4 hU4 ⊢
                            have hs4 := hU4.size
                            have HR4 := hid hr4
                            have HL4 := hid hL4
                            have HU4 := hid hU4
                            clear hr4 hL4 hU4 HL HUi hs hla hlb A3 B3 b0 b1 b2 b3
                            rw [rounds_succ]
                            go_wp2_with (at_builtin; refine wpList_append_own _ rfl _ _ 80 rfl w2.heap.size 28 i1 (.slice none 0 0) 1 24 Try.underlying80 HJ.out HY0.out HY1.out HY2.out rfl (by decide) _ _ _ rfl (HL4.out.own.alloc _) ⟨W4.heap.size, 0, none⟩ 1 1 [.slice (some ⟨row, 0, none⟩) 6 6] rfl rfl ?a20 ?b20 ?c20 ?d20 ?e20 ?_)
                            case a20 =>
                              intro j u hj
                              match j, hj with
                              | 0, hj => simp at hj; subst hj; simp [Addr.add, go_sem]
                            case b20 => first | (intro u hu; simp at hu; subst hu; rfl) | rfl | simp [Value.oneCell']
                            case c20 => unfold maxLen; omega
                            case d20 => omega
                            case e20 => simp; omega
                            intro y0 z0 O0 hg0 _
                            have hV' := hid (((HL4.out.next (gr_drew (gr_alloc (Below.refl _ W4) (.cells #[.slice (some ⟨row, 0, none⟩) 6 6] 28)))).app rfl (owns_nx HR4.out (gr_drew (gr_alloc (Below.refl _ W4) (.cells #[.slice (some ⟨row, 0, none⟩) 6 6] 28)))) hg0 O0).close)
                            have hU' := hid ((gr_drew (gr_alloc HU4.out (.cells #[.slice (some ⟨row, 0, none⟩) 6 6] 28))).grown hg0 (by simp; omega) (fun q e => (HL4.out.own.lt q e).1))
                            clear hg0 O0 HL4 HR4 HU4
                            go_wp2_with fail
                            go_roundw
                            case rel => exact ⟨3, 3, rfl, by omega, rfl, hV'.out, hU'.out⟩
                            case measure => simp [intOf]
                          · clear a0 a1 a2 a3
                            go_wp2_with fail
                            clear hmk
                            refine wp_loop_rounds 5 ?_
                            rw [rounds_succ]
                            go_wp2_with fail
                            rw [rounds_succ]
                            go_wp2_with fail
                            rw [rounds_succ]
                            go_wp2_with fail
                            rw [rounds_succ]
                            go_wp2_with fail
                            have hr4 : ((wr.alloc (.cells #[.int .i64 a, .int .i64 b, .int .i64 c, .int .i64 d] 25)).alloc (.cells #[.int .i64 0, .int .i64 0, .int .i64 a, .int .i64 b, .int .i64 c, .int .i64 d] 2)).ownsRow w2.heap.size 2 1 (.slice (some ⟨wr.heap.size + 1, 0, none⟩) 6 6) 6 (nums 6 (M 2)) := by
                              rw [M2.out]
                              exact own6 (by omega) (by have h := heap_alloc_new (wr.alloc (.cells #[.int .i64 a, .int .i64 b, .int .i64 c, .int .i64 d] 25)) (.cells #[.int .i64 0, .int .i64 0, .int .i64 a, .int .i64 b, .int .i64 c, .int .i64 d] 2); simpa using h)
                            have hL4 := HL.out.next (gr_alloc (gr_alloc (Below.refl _ wr) (.cells #[.int .i64 a, .int .i64 b, .int .i64 c, .int .i64 d] 25)) (.cells #[.int .i64 0, .int .i64 0, .int .i64 a, .int .i64 b, .int .i64 c, .int .i64 d] 2))
                            have hU4 := gr_alloc (gr_alloc HUi.out (.cells #[.int .i64 a, .int .i64 b, .int .i64 c, .int .i64 d] 25)) (.cells #[.int .i64 0, .int .i64 0, .int .i64 a, .int .i64 b, .int .i64 c, .int .i64 d] 2)
                            generalize wr.heap.size + 1 = row at hr4 ⊢
                            generalize (wr.alloc (.cells #[.int .i64 a, .int .i64 b, .int .i64 c, .int .i64 d] 25)).alloc (.cells #[.int .i64 0, .int .i64 0, .int .i64 a, .int .i64 b, .int .i64 c, .int .i64 d] 2) = W4 at hr4 hL4 hU4 ⊢
                            have hs4 := hU4.size
                            have HR4 := hid hr4
                            have HL4 := hid hL4
                            have HU4 := hid hU4
                            clear hr4 hL4 hU4 HL HUi hs hla hlb A3 B3 b0 b1 b2 b3
                            rw [rounds_succ]
                            go_wp2_with (at_builtin; refine wpList_append_own _ rfl _ _ 80 rfl w2.heap.size 28 i1 (.slice none 0 0) 1 24 Try.underlying80 HJ.out HY0.out HY1.out HY2.out rfl (by decide) _ _ _ rfl (HL4.out.own.alloc _) ⟨W4.heap.size, 0, none⟩ 1 1 [.slice (some ⟨row, 0, none⟩) 6 6] rfl rfl ?a21 ?b21 ?c21 ?d21 ?e21 ?_)
                            case a21 =>
                              intro j u hj
                              match j, hj with
                              | 0, hj => simp at hj; subst hj; simp [Addr.add, go_sem]
                            case b21 => first | (intro u hu; simp at hu; subst hu; rfl) | rfl | simp [Value.oneCell']
                            case c21 => unfold maxLen; omega
                            case d21 => omega
                            case e21 => simp; omega
                            intro y0 z0 O0 hg0 _
                            have hV' := hid (((HL4.out.next (gr_drew (gr_alloc (Below.refl _ W4) (.cells #[.slice (some ⟨row, 0, none⟩) 6 6] 28)))).app rfl (owns_nx HR4.out (gr_drew (gr_alloc (Below.refl _ W4) (.cells #[.slice (some ⟨row, 0, none⟩) 6 6] 28)))) hg0 O0).close)
                            have hU' := hid ((gr_drew (gr_alloc HU4.out (.cells #[.slice (some ⟨row, 0, none⟩) 6 6] 28))).grown hg0 (by simp; omega) (fun q e => (HL4.out.own.lt q e).1))
                            clear hg0 O0 HL4 HR4 HU4
                            go_wp2_with fail
                            go_roundw
                            case rel => exact ⟨3, 3, rfl, by omega, rfl, hV'.out, hU'.out⟩
                            case measure => simp [intOf]
                        · obtain rfl : z = 3 := by omega
                          clear hz hi6
                          have HUi := hid hUi
                          obtain ⟨hh, hL⟩ := hV.open
                          have HL := hid hL
                          clear hV hL hUi
                          go_wp2_with fail
                          have hmk := mk6
                          go_region
                          · clear a0 a1 a2 a3
                            go_wp2_with fail
                            clear hmk
                            refine wp_loop_rounds 5 ?_
                            rw [rounds_succ]
                            go_wp2_with fail
                            rw [rounds_succ]
                            go_wp2_with fail
                            rw [rounds_succ]
                            go_wp2_with fail
                            rw [rounds_succ]
                            go_wp2_with fail
                            have hr4 : ((wr.alloc (.cells #[.int .i64 e, .int .i64 f, .int .i64 g, .int .i64 h, .int .i64 0, .int .i64 0] 2)).alloc (.cells #[.int .i64 e, .int .i64 f, .int .i64 g, .int .i64 h] 25)).ownsRow w2.heap.size 2 1 (.slice (some ⟨wr.heap.size, 0, none⟩) 6 6) 6 (nums 6 (M 3)) := by
                              rw [M3.out]
                              exact (own6 hs (heap_alloc_new wr _)).alloc _
                            have hL4 := HL.out.next (gr_alloc (gr_alloc (Below.refl _ wr) (.cells #[.int .i64 e, .int .i64 f, .int .i64 g, .int .i64 h, .int .i64 0, .int .i64 0] 2)) (.cells #[.int .i64 e, .int .i64 f, .int .i64 g, .int .i64 h] 25))
                            have hU4 := gr_alloc (gr_alloc HUi.out (.cells #[.int .i64 e, .int .i64 f, .int .i64 g, .int .i64 h, .int .i64 0, .int .i64 0] 2)) (.cells #[.int .i64 e, .int .i64 f, .int .i64 g, .int .i64 h] 25)
                            generalize wr.heap.size = row at hr4 ⊢
                            generalize (wr.alloc (.cells #[.int .i64 e, .int .i64 f, .int .i64 g, .int .i64 h, .int .i64 0, .int .i64 0] 2)).alloc (.cells #[.int .i64 e, .int .i64 f, .int .i64 g, .int .i64 h] 25) = W4 at hr4 hL4 hU4 ⊢
                            have hs4 := hU4.size
                            have HR4 := hid hr4
                            have HL4 := hid hL4
                            have HU4 := hid hU4
                            clear hr4 hL4 hU4 HL HUi hs hla hlb A3 B3 b0 b1 b2 b3
                            rw [rounds_succ]
                            go_wp2_with (at_builtin; refine wpList_append_own _ rfl _ _ 80 rfl w2.heap.size 28 i1 (.slice none 0 0) 1 24 Try.underlying80 HJ.out HY0.out HY1.out HY2.out rfl (by decide) _ _ _ rfl (HL4.out.own.alloc _) ⟨W4.heap.size, 0, none⟩ 1 1 [.slice (some ⟨row, 0, none⟩) 6 6] rfl rfl ?a30 ?b30 ?c30 ?d30 ?e30 ?_)
                            case a30 =>
                              intro j u hj
                              match j, hj with
                              | 0, hj => simp at hj; subst hj; simp [Addr.add, go_sem]
                            case b30 => first | (intro u hu; simp at hu; subst hu; rfl) | rfl | simp [Value.oneCell']
                            case c30 => unfold maxLen; omega
                            case d30 => omega
                            case e30 => simp; omega
                            intro y0 z0 O0 hg0 _
                            have hV' := hid (((HL4.out.next (gr_drew (gr_alloc (Below.refl _ W4) (.cells #[.slice (some ⟨row, 0, none⟩) 6 6] 28)))).app rfl (owns_nx HR4.out (gr_drew (gr_alloc (Below.refl _ W4) (.cells #[.slice (some ⟨row, 0, none⟩) 6 6] 28)))) hg0 O0).close)
                            have hU' := hid ((gr_drew (gr_alloc HU4.out (.cells #[.slice (some ⟨row, 0, none⟩) 6 6] 28))).grown hg0 (by simp; omega) (fun q e => (HL4.out.own.lt q e).1))
                            clear hg0 O0 HL4 HR4 HU4
                            go_wp2_with fail
                            go_roundw
                            case rel => exact ⟨4, 4, rfl, by omega, rfl, hV'.out, hU'.out⟩
                            case measure => simp [intOf]
                          · clear a0 a1 a2 a3
                            go_wp2_with fail
                            clear hmk
                            refine wp_loop_rounds 5 ?_
                            rw [rounds_succ]
                            go_wp2_with fail
                            rw [rounds_succ]
                            go_wp2_with fail
                            rw [rounds_succ]
                            go_wp2_with fail
                            rw [rounds_succ]
                            go_wp2_with fail
                            have hr4 : ((wr.alloc (.cells #[.int .i64 e, .int .i64 f, .int .i64 g, .int .i64 h] 25)).alloc (.cells #[.int .i64 e, .int .i64 f, .int .i64 g, .int .i64 h, .int .i64 0, .int .i64 0] 2)).ownsRow w2.heap.size 2 1 (.slice (some ⟨wr.heap.size + 1, 0, none⟩) 6 6) 6 (nums 6 (M 3)) := by
                              rw [M3.out]
                              exact own6 (by omega) (by have h := heap_alloc_new (wr.alloc (.cells #[.int .i64 e, .int .i64 f, .int .i64 g, .int .i64 h] 25)) (.cells #[.int .i64 e, .int .i64 f, .int .i64 g, .int .i64 h, .int .i64 0, .int .i64 0] 2); simpa using h)
                            have hL4 := HL.out.next (gr_alloc (gr_alloc (Below.refl _ wr) (.cells #[.int .i64 e, .int .i64 f, .int .i64 g, .int .i64 h] 25)) (.cells #[.int .i64 e, .int .i64 f, .int .i64 g, .int .i64 h, .int .i64 0, .int .i64 0] 2))
                            have hU4 := gr_alloc (gr_alloc HUi.out (.cells #[.int .i64 e, .int .i64 f, .int .i64 g, .int .i64 h] 25)) (.cells #[.int .i64 e, .int .i64 f, .int .i64 g, .int .i64 h, .int .i64 0, .int .i64 0] 2)
                            generalize wr.heap.size + 1 = row at hr4 ⊢
                            generalize (wr.alloc (.cells #[.int .i64 e, .int .i64 f, .int .i64 g, .int .i64 h] 25)).alloc (.cells #[.int .i64 e, .int .i64 f, .int .i64 g, .int .i64 h, .int .i64 0, .int .i64 0] 2) = W4 at hr4 hL4 hU4 ⊢
                            have hs4 := hU4.size
                            have HR4 := hid hr4
                            have HL4 := hid hL4
                            have HU4 := hid hU4
                            clear hr4 hL4 hU4 HL HUi hs hla hlb A3 B3 b0 b1 b2 b3
                            rw [rounds_succ]
                            go_wp2_with (at_builtin; refine wpList_append_own _ rfl _ _ 80 rfl w2.heap.size 28 i1 (.slice none 0 0) 1 24 Try.underlying80 HJ.out HY0.out HY1.out HY2.out rfl (by decide) _ _ _ rfl (HL4.out.own.alloc _) ⟨W4.heap.size, 0, none⟩ 1 1 [.slice (some ⟨row, 0, none⟩) 6 6] rfl rfl ?a31 ?b31 ?c31 ?d31 ?e31 ?_)
                            case a31 =>
                              intro j u hj
                              match j, hj with
                              | 0, hj => simp at hj; subst hj; simp [Addr.add, go_sem]
                            case b31 => first | (intro u hu; simp at hu; subst hu; rfl) | rfl | simp [Value.oneCell']
                            case c31 => unfold maxLen; omega
                            case d31 => omega
                            case e31 => simp; omega
                            intro y0 z0 O0 hg0 _
                            have hV' := hid (((HL4.out.next (gr_drew (gr_alloc (Below.refl _ W4) (.cells #[.slice (some ⟨row, 0, none⟩) 6 6] 28)))).app rfl (owns_nx HR4.out (gr_drew (gr_alloc (Below.refl _ W4) (.cells #[.slice (some ⟨row, 0, none⟩) 6 6] 28)))) hg0 O0).close)
                            have hU' := hid ((gr_drew (gr_alloc HU4.out (.cells #[.slice (some ⟨row, 0, none⟩) 6 6] 28))).grown hg0 (by simp; omega) (fun q e => (HL4.out.own.lt q e).1))
                            clear hg0 O0 HL4 HR4 HU4
                            go_wp2_with fail
                            go_roundw
                            case rel => exact ⟨4, 4, rfl, by omega, rfl, hV'.out, hU'.out⟩
                            case measure => simp [intOf]
                        · obtain rfl : z = 4 := by omega
                          clear hz hi6
                          have HUi := hid hUi
                          obtain ⟨hh, hL⟩ := hV.open
                          have HL := hid hL
                          clear hV hL hUi
                          go_wp2_with fail
                          have hmk := mk6
                          go_region
                          · clear a0 a1 a2 a3
                            go_wp2_with fail
                            clear hmk
                            refine wp_loop_rounds 5 ?_
                            rw [rounds_succ]
                            go_wp2_with fail
                            rw [rounds_succ]
                            go_wp2_with fail
                            rw [rounds_succ]
                            go_wp2_with fail
                            rw [rounds_succ]
                            go_wp2_with fail
                            have hr4 : ((wr.alloc (.cells #[.int .i64 0, .int .i64 e, .int .i64 f, .int .i64 g, .int .i64 h, .int .i64 0] 2)).alloc (.cells #[.int .i64 e, .int .i64 f, .int .i64 g, .int .i64 h] 25)).ownsRow w2.heap.size 2 1 (.slice (some ⟨wr.heap.size, 0, none⟩) 6 6) 6 (nums 6 (M 4)) := by
                              rw [M4.out]
                              exact (own6 hs (heap_alloc_new wr _)).alloc _
                            have hL4 := HL.out.next (gr_alloc (gr_alloc (Below.refl _ wr) (.cells #[.int .i64 0, .int .i64 e, .int .i64 f, .int .i64 g, .int .i64 h, .int .i64 0] 2)) (.cells #[.int .i64 e, .int .i64 f, .int .i64 g, .int .i64 h] 25))
                            have hU4 := gr_alloc (gr_alloc HUi.out (.cells #[.int .i64 0, .int .i64 e, .int .i64 f, .int .i64 g, .int .i64 h, .int .i64 0] 2)) (.cells #[.int .i64 e, .int .i64 f, .int .i64 g, .int .i64 h] 25)
                            generalize wr.heap.size = row at hr4 ⊢
                            generalize (wr.alloc (.cells #[.int .i64 0, .int .i64 e, .int .i64 f, .int .i64 g, .int .i64 h, .int .i64 0] 2)).alloc (.cells #[.int .i64 e, .int .i64 f, .int .i64 g, .int .i64 h] 25) = W4 at hr4 hL4 hU4 ⊢
                            have hs4 := hU4.size
                            have HR4 := hid hr4
                            have HL4 := hid hL4
                            have HU4 := hid hU4
                            clear hr4 hL4 hU4 HL HUi hs hla hlb A3 B3 b0 b1 b2 b3
                            rw [rounds_succ]
                            go_wp2_with (at_builtin; refine wpList_append_own _ rfl _ _ 80 rfl w2.heap.size 28 i1 (.slice none 0 0) 1 24 Try.underlying80 HJ.out HY0.out HY1.out HY2.out rfl (by decide) _ _ _ rfl (HL4.out.own.alloc _) ⟨W4.heap.size, 0, none⟩ 1 1 [.slice (some ⟨row, 0, none⟩) 6 6] rfl rfl ?a40 ?b40 ?c40 ?d40 ?e40 ?_)
                            case a40 =>
                              intro j u hj
                              match j, hj with
                              | 0, hj => simp at hj; subst hj; simp [Addr.add, go_sem]
                            case b40 => first | (intro u hu; simp at hu; subst hu; rfl) | rfl | simp [Value.oneCell']
                            case c40 => unfold maxLen; omega
                            case d40 => omega
                            case e40 => simp; omega
                            intro y0 z0 O0 hg0 _
                            have hV' := hid (((HL4.out.next (gr_drew (gr_alloc (Below.refl _ W4) (.cells #[.slice (some ⟨row, 0, none⟩) 6 6] 28)))).app rfl (owns_nx HR4.out (gr_drew (gr_alloc (Below.refl _ W4) (.cells #[.slice (some ⟨row, 0, none⟩) 6 6] 28)))) hg0 O0).close)
                            have hU' := hid ((gr_drew (gr_alloc HU4.out (.cells #[.slice (some ⟨row, 0, none⟩) 6 6] 28))).grown hg0 (by simp; omega) (fun q e => (HL4.out.own.lt q e).1))
                            clear hg0 O0 HL4 HR4 HU4
                            go_wp2_with fail
                            go_roundw
                            case rel => exact ⟨5, 5, rfl, by omega, rfl, hV'.out, hU'.out⟩
                            case measure => simp [intOf]
                          · clear a0 a1 a2 a3
                            go_wp2_with fail
                            clear hmk
                            refine wp_loop_rounds 5 ?_
                            rw [rounds_succ]
                            go_wp2_with fail
                            rw [rounds_succ]
                            go_wp2_with fail
                            rw [rounds_succ]
                            go_wp2_with fail
                            rw [rounds_succ]
                            go_wp2_with fail
                            have hr4 : ((wr.alloc (.cells #[.int .i64 e, .int .i64 f, .int .i64 g, .int .i64 h] 25)).alloc (.cells #[.int .i64 0, .int .i64 e, .int .i64 f, .int .i64 g, .int .i64 h, .int .i64 0] 2)).ownsRow w2.heap.size 2 1 (.slice (some ⟨wr.heap.size + 1, 0, none⟩) 6 6) 6 (nums 6 (M 4)) := by
                              rw [M4.out]
                              exact own6 (by omega) (by have h := heap_alloc_new (wr.alloc (.cells #[.int .i64 e, .int .i64 f, .int .i64 g, .int .i64 h] 25)) (.cells #[.int .i64 0, .int .i64 e, .int .i64 f, .int .i64 g, .int .i64 h, .int .i64 0] 2); simpa using h)
                            have hL4 := HL.out.next (gr_alloc (gr_alloc (Below.refl _ wr) (.cells #[.int .i64 e, .int .i64 f, .int .i64 g, .int .i64 h] 25)) (.cells #[.int .i64 0, .int .i64 e, .int .i64 f, .int .i64 g, .int .i64 h, .int .i64 0] 2))
                            have hU4 := gr_alloc (gr_alloc HUi.out (.cells #[.int .i64 e, .int .i64 f, .int .i64 g, .int .i64 h] 25)) (.cells #[.int .i64 0, .int .i64 e, .int .i64 f, .int .i64 g, .int .i64 h, .int .i64 0] 2)
                            generalize wr.heap.size + 1 = row at hr4 ⊢
                            generalize (wr.alloc (.cells #[.int .i64 e, .int .i64 f, .int .i64 g, .int .i64 h] 25)).alloc (.cells #[.int .i64 0, .int .i64 e, .int .i64 f, .int .i64 g, .int .i64 h, .int .i64 0] 2) = W4 at hr4 hL4 hU4 ⊢
                            have hs4 := hU4.size
                            have HR4 := hid hr4
                            have HL4 := hid hL4
                            have HU4 := hid hU4
                            clear hr4 hL4 hU4 HL HUi hs hla hlb A3 B3 b0 b1 b2 b3
                            rw [rounds_succ]
                            go_wp2_with (at_builtin; refine wpList_append_own _ rfl _ _ 80 rfl w2.heap.size 28 i1 (.slice none 0 0) 1 24 Try.underlying80 HJ.out HY0.out HY1.out HY2.out rfl (by decide) _ _ _ rfl (HL4.out.own.alloc _) ⟨W4.heap.size, 0, none⟩ 1 1 [.slice (some ⟨row, 0, none⟩) 6 6] rfl rfl ?a41 ?b41 ?c41 ?d41 ?e41 ?_)
                            case a41 =>
                              intro j u hj
                              match j, hj with
                              | 0, hj => simp at hj; subst hj; simp [Addr.add, go_sem]
                            case b41 => first | (intro u hu; simp at hu; subst hu; rfl) | rfl | simp [Value.oneCell']
                            case c41 => unfold maxLen; omega
                            case d41 => omega
                            case e41 => simp; omega
                            intro y0 z0 O0 hg0 _
                            have hV' := hid (((HL4.out.next (gr_drew (gr_alloc (Below.refl _ W4) (.cells #[.slice (some ⟨row, 0, none⟩) 6 6] 28)))).app rfl (owns_nx HR4.out (gr_drew (gr_alloc (Below.refl _ W4) (.cells #[.slice (some ⟨row, 0, none⟩) 6 6] 28)))) hg0 O0).close)
                            have hU' := hid ((gr_drew (gr_alloc HU4.out (.cells #[.slice (some ⟨row, 0, none⟩) 6 6] 28))).grown hg0 (by simp; omega) (fun q e => (HL4.out.own.lt q e).1))
                            clear hg0 O0 HL4 HR4 HU4
                            go_wp2_with fail
                            go_roundw
                            case rel => exact ⟨5, 5, rfl, by omega, rfl, hV'.out, hU'.out⟩
                            case measure => simp [intOf]
                        · obtain rfl : z = 5 := by omega
                          clear hz hi6
                          have HUi := hid hUi
                          obtain ⟨hh, hL⟩ := hV.open
                          have HL := hid hL
                          clear hV hL hUi
                          go_wp2_with fail
                          have hmk := mk6
                          go_region
                          · clear a0 a1 a2 a3
                            go_wp2_with fail
                            clear hmk
                            refine wp_loop_rounds 5 ?_
                            rw [rounds_succ]
                            go_wp2_with fail
                            rw [rounds_succ]
                            go_wp2_with fail
                            rw [rounds_succ]
                            go_wp2_with fail
                            rw [rounds_succ]
                            go_wp2_with fail
                            have hr4 : ((wr.alloc (.cells #[.int .i64 0, .int .i64 0, .int .i64 e, .int .i64 f, .int .i64 g, .int .i64 h] 2)).alloc (.cells #[.int .i64 e, .int .i64 f, .int .i64 g, .int .i64 h] 25)).ownsRow w2.heap.size 2 1 (.slice (some ⟨wr.heap.size, 0, none⟩) 6 6) 6 (nums 6 (M 5)) := by
                              rw [M5.out]
                              exact (own6 hs (heap_alloc_new wr _)).alloc _
                            have hL4 := HL.out.next (gr_alloc (gr_alloc (Below.refl _ wr) (.cells #[.int .i64 0, .int .i64 0, .int .i64 e, .int .i64 f, .int .i64 g, .int .i64 h] 2)) (.cells #[.int .i64 e, .int .i64 f, .int .i64 g, .int .i64 h] 25))
                            have hU4 := gr_alloc (gr_alloc HUi.out (.cells #[.int .i64 0, .int .i64 0, .int .i64 e, .int .i64 f, .int .i64 g, .int .i64 h] 2)) (.cells #[.int .i64 e, .int .i64 f, .int .i64 g, .int .i64 h] 25)
                            generalize wr.heap.size = row at hr4 ⊢
                            generalize (wr.alloc (.cells #[.int .i64 0, .int .i64 0, .int .i64 e, .int .i64 f, .int .i64 g, .int .i64 h] 2)).alloc (.cells #[.int .i64 e, .int .i64 f, .int .i64 g, .int .i64 h] 25) = W4 at hr4 hL4 hU4 ⊢
                            have hs4 := hU4.size
                            have HR4 := hid hr4
                            have HL4 := hid hL4
                            have HU4 := hid hU4
                            clear hr4 hL4 hU4 HL HUi hs hla hlb A3 B3 b0 b1 b2 b3
                            rw [rounds_succ]
                            go_wp2_with (at_builtin; refine wpList_append_own _ rfl _ _ 80 rfl w2.heap.size 28 i1 (.slice none 0 0) 1 24 Try.underlying80 HJ.out HY0.out HY1.out HY2.out rfl (by decide) _ _ _ rfl (HL4.out.own.alloc _) ⟨W4.heap.size, 0, none⟩ 1 1 [.slice (some ⟨row, 0, none⟩) 6 6] rfl rfl ?a50 ?b50 ?c50 ?d50 ?e50 ?_)
                            case a50 =>
                              intro j u hj
                              match j, hj with
                              | 0, hj => simp at hj; subst hj; simp [Addr.add, go_sem]
                            case b50 => first | (intro u hu; simp at hu; subst hu; rfl) | rfl | simp [Value.oneCell']
                            case c50 => unfold maxLen; omega
                            case d50 => omega
                            case e50 => simp; omega
                            intro y0 z0 O0 hg0 _
                            have hV' := hid (((HL4.out.next (gr_drew (gr_alloc (Below.refl _ W4) (.cells #[.slice (some ⟨row, 0, none⟩) 6 6] 28)))).app rfl (owns_nx HR4.out (gr_drew (gr_alloc (Below.refl _ W4) (.cells #[.slice (some ⟨row, 0, none⟩) 6 6] 28)))) hg0 O0).close)
                            have hU' := hid ((gr_drew (gr_alloc HU4.out (.cells #[.slice (some ⟨row, 0, none⟩) 6 6] 28))).grown hg0 (by simp; omega) (fun q e => (HL4.out.own.lt q e).1))
                            clear hg0 O0 HL4 HR4 HU4
                            go_wp2_with fail
                            go_roundw
                            case rel => exact ⟨6, 6, rfl, by omega, rfl, hV'.out, hU'.out⟩
                            case measure => simp [intOf]
                          · clear a0 a1 a2 a3
                            go_wp2_with fail
                            clear hmk
                            refine wp_loop_rounds 5 ?_
                            rw [rounds_succ]
                            go_wp2_with fail
                            rw [rounds_succ]
                            go_wp2_with fail
                            rw [rounds_succ]
                            go_wp2_with fail
                            rw [rounds_succ]
                            go_wp2_with fail
                            have hr4 : ((wr.alloc (.cells #[.int .i64 e, .int .i64 f, .int .i64 g, .int .i64 h] 25)).alloc (.cells #[.int .i64 0, .int .i64 0, .int .i64 e, .int .i64 f, .int .i64 g, .int .i64 h] 2)).ownsRow w2.heap.size 2 1 (.slice (some ⟨wr.heap.size + 1, 0, none⟩) 6 6) 6 (nums 6 (M 5)) := by
                              rw [M5.out]
                              exact own6 (by omega) (by have h := heap_alloc_new (wr.alloc (.cells #[.int .i64 e, .int .i64 f, .int .i64 g, .int .i64 h] 25)) (.cells #[.int .i64 0, .int .i64 0, .int .i64 e, .int .i64 f, .int .i64 g, .int .i64 h] 2); simpa using h)
                            have hL4 := HL.out.next (gr_alloc (gr_alloc (Below.refl _ wr) (.cells #[.int .i64 e, .int .i64 f, .int .i64 g, .int .i64 h] 25)) (.cells #[.int .i64 0, .int .i64 0, .int .i64 e, .int .i64 f, .int .i64 g, .int .i64 h] 2))
                            have hU4 := gr_alloc (gr_alloc HUi.out (.cells #[.int .i64 e, .int .i64 f, .int .i64 g, .int .i64 h] 25)) (.cells #[.int .i64 0, .int .i64 0, .int .i64 e, .int .i64 f, .int .i64 g, .int .i64 h] 2)
                            generalize wr.heap.size + 1 = row at hr4 ⊢
                            generalize (wr.alloc (.cells #[.int .i64 e, .int .i64 f, .int .i64 g, .int .i64 h] 25)).alloc (.cells #[.int .i64 0, .int .i64 0, .int .i64 e, .int .i64 f, .int .i64 g, .int .i64 h] 2) = W4 at hr4 hL4 hU4 ⊢
                            have hs4 := hU4.size
                            have HR4 := hid hr4
                            have HL4 := hid hL4
                            have HU4 := hid hU4
                            clear hr4 hL4 hU4 HL HUi hs hla hlb A3 B3 b0 b1 b2 b3
                            rw [rounds_succ]
                            go_wp2_with (at_builtin; refine wpList_append_own _ rfl _ _ 80 rfl w2.heap.size 28 i1 (.slice none 0 0) 1 24 Try.underlying80 HJ.out HY0.out HY1.out HY2.out rfl (by decide) _ _ _ rfl (HL4.out.own.alloc _) ⟨W4.heap.size, 0, none⟩ 1 1 [.slice (some ⟨row, 0, none⟩) 6 6] rfl rfl ?a51 ?b51 ?c51 ?d51 ?e51 ?_)
                            case a51 =>
                              intro j u hj
                              match j, hj with
                              | 0, hj => simp at hj; subst hj; simp [Addr.add, go_sem]
                            case b51 => first | (intro u hu; simp at hu; subst hu; rfl) | rfl | simp [Value.oneCell']
                            case c51 => unfold maxLen; omega
                            case d51 => omega
                            case e51 => simp; omega
                            intro y0 z0 O0 hg0 _
                            have hV' := hid (((HL4.out.next (gr_drew (gr_alloc (Below.refl _ W4) (.cells #[.slice (some ⟨row, 0, none⟩) 6 6] 28)))).app rfl (owns_nx HR4.out (gr_drew (gr_alloc (Below.refl _ W4) (.cells #[.slice (some ⟨row, 0, none⟩) 6 6] 28)))) hg0 O0).close)
                            have hU' := hid ((gr_drew (gr_alloc HU4.out (.cells #[.slice (some ⟨row, 0, none⟩) 6 6] 28))).grown hg0 (by simp; omega) (fun q e => (HL4.out.own.lt q e).1))
                            clear hg0 O0 HL4 HR4 HU4
                            go_wp2_with fail
                            go_roundw
                            case rel => exact ⟨6, 6, rfl, by omega, rfl, hV'.out, hU'.out⟩
                            case measure => simp [intOf]
                        · obtain rfl : z = 6 := by omega
                          clear hz hi6
                          have hR := hV.rd
                          have HUi := hid hUi
                          clear hV hUi
                          go_wp2_with fail
                          refine (HD.out _ _ hR).mono ?_
                          rintro e w4 ⟨rfl, hb4⟩
                          go_wp2
                          go_ret2
                          exact ⟨ret_tup2 (by simp [if0]) rfl, (HU2.out.trans (HUi.out.mono HU2.out.size)).trans (hb4.mono (by have := HU2.out.size; omega))⟩
                    · have z : rng (-100) 100 h = false := by simpa using q3
                      clear q3
                      have kk := K1.out HF.out HG.out (by simp [isR, z])
                      subst kk
                      rw [rounds_succ]; go_wp2_with (go_at_call 39; refine (l01In_any _ _ _ _).mono ?_; rintro e w3 ⟨rfl, rfl⟩)
                      go_ret2
                      exact ⟨ret_tup2 (by simp [if0]) rfl, by (repeat' (first | with_reducible exact Below.refl _ _ | with_reducible assumption | with_reducible refine gr_alloc ?_ _ | with_reducible refine gr_drew ?_ | with_reducible refine gr_drewN ?_ _ | with_reducible refine gr_trans ?_ (by assumption) | with_reducible refine gr_set ?_ ?_ _ | (simp; done) | omega | (simp; omega)))⟩
                  · have z : rng (-100) 100 d = false := by simpa using p3
                    clear p3
                    have kk := K1.out HF.out HG.out (by simp [isR, z])
                    subst kk
                    rw [rounds_succ]; go_wp2_with (go_at_call 39; refine (l01In_any _ _ _ _).mono ?_; rintro e w3 ⟨rfl, rfl⟩)
                    go_ret2
                    exact ⟨ret_tup2 (by simp [if0]) rfl, by (repeat' (first | with_reducible exact Below.refl _ _ | with_reducible assumption | with_reducible refine gr_alloc ?_ _ | with_reducible refine gr_drew ?_ | with_reducible refine gr_drewN ?_ _ | with_reducible refine gr_trans ?_ (by assumption) | with_reducible refine gr_set ?_ ?_ _ | (simp; done) | omega | (simp; omega)))⟩
                · have z : rng (-100) 100 g = false := by simpa using q2
                  clear q2
                  have kk := K1.out HF.out HG.out (by simp [isR, z])
                  subst kk
                  rw [rounds_succ]; go_wp2_with (go_at_call 39; refine (l01In_any _ _ _ _).mono ?_; rintro e w3 ⟨rfl, rfl⟩)
                  go_ret2
                  exact ⟨ret_tup2 (by simp [if0]) rfl, by (repeat' (first | with_reducible exact Below.refl _ _ | with_reducible assumption | with_reducible refine gr_alloc ?_ _ | with_reducible refine gr_drew ?_ | with_reducible refine gr_drewN ?_ _ | with_reducible refine gr_trans ?_ (by assumption) | with_reducible refine gr_set ?_ ?_ _ | (simp; done) | omega | (simp; omega)))⟩
              · have z : rng (-100) 100 c = false := by simpa using p2
                clear p2
                have kk := K1.out HF.out HG.out (by simp [isR, z])
                subst kk
                rw [rounds_succ]; go_wp2_with (go_at_call 39; refine (l01In_any _ _ _ _).mono ?_; rintro e w3 ⟨rfl, rfl⟩)
                go_ret2
                exact ⟨ret_tup2 (by simp [if0]) rfl, by (repeat' (first | with_reducible exact Below.refl _ _ | with_reducible assumption | with_reducible refine gr_alloc ?_ _ | with_reducible refine gr_drew ?_ | with_reducible refine gr_drewN ?_ _ | with_reducible refine gr_trans ?_ (by assumption) | with_reducible refine gr_set ?_ ?_ _ | (simp; done) | omega | (simp; omega)))⟩
            · have z : rng (-100) 100 f = false := by simpa using q1
              clear q1
              have kk := K1.out HF.out HG.out (by simp [isR, z])
              subst kk
              rw [rounds_succ]; go_wp2_with (go_at_call 39; refine (l01In_any _ _ _ _).mono ?_; rintro e w3 ⟨rfl, rfl⟩)
              go_ret2
              exact ⟨ret_tup2 (by simp [if0]) rfl, by (repeat' (first | with_reducible exact Below.refl _ _ | with_reducible assumption | with_reducible refine gr_alloc ?_ _ | with_reducible refine gr_drew ?_ | with_reducible refine gr_drewN ?_ _ | with_reducible refine gr_trans ?_ (by assumption) | with_reducible refine gr_set ?_ ?_ _ | (simp; done) | omega | (simp; omega)))⟩
          · have z : rng (-100) 100 b = false := by simpa using p1
            clear p1
            have kk := K1.out HF.out HG.out (by simp [isR, z])
            subst kk
            rw [rounds_succ]; go_wp2_with (go_at_call 39; refine (l01In_any _ _ _ _).mono ?_; rintro e w3 ⟨rfl, rfl⟩)
            go_ret2
            exact ⟨ret_tup2 (by simp [if0]) rfl, by (repeat' (first | with_reducible exact Below.refl _ _ | with_reducible assumption | with_reducible refine gr_alloc ?_ _ | with_reducible refine gr_drew ?_ | with_reducible refine gr_drewN ?_ _ | with_reducible refine gr_trans ?_ (by assumption) | with_reducible refine gr_set ?_ ?_ _ | (simp; done) | omega | (simp; omega)))⟩
        · have z : rng (-100) 100 e = false := by simpa using q0
          clear q0
          have kk := K1.out HF.out HG.out (by simp [isR, z])
          subst kk
          rw [rounds_succ]; go_wp2_with (go_at_call 39; refine (l01In_any _ _ _ _).mono ?_; rintro e w3 ⟨rfl, rfl⟩)
          go_ret2
          exact ⟨ret_tup2 (by simp [if0]) rfl, by (repeat' (first | with_reducible exact Below.refl _ _ | with_reducible assumption | with_reducible refine gr_alloc ?_ _ | with_reducible refine gr_drew ?_ | with_reducible refine gr_drewN ?_ _ | with_reducible refine gr_trans ?_ (by assumption) | with_reducible refine gr_set ?_ ?_ _ | (simp; done) | omega | (simp; omega)))⟩
      · have z : rng (-100) 100 a = false := by simpa using p0
        clear p0
        have kk := K1.out HF.out HG.out (by simp [isR, z])
        subst kk
        rw [rounds_succ]; go_wp2_with (go_at_call 39; refine (l01In_any _ _ _ _).mono ?_; rintro e w3 ⟨rfl, rfl⟩)
        go_ret2
        exact ⟨ret_tup2 (by simp [if0]) rfl, by (repeat' (first | with_reducible exact Below.refl _ _ | with_reducible assumption | with_reducible refine gr_alloc ?_ _ | with_reducible refine gr_drew ?_ | with_reducible refine gr_drewN ?_ _ | with_reducible refine gr_trans ?_ (by assumption) | with_reducible refine gr_set ?_ ?_ _ | (simp; done) | omega | (simp; omega)))⟩
    · have hn' : isF e f g h = false := by simpa using hn
      clear hn
      have kk := K2.out (by simp [hn'])
      subst kk
      go_wp2
      go_ret2
      exact ⟨ret_tup2 (by simp [if0]) rfl, by (repeat' (first | with_reducible exact Below.refl _ _ | with_reducible assumption | with_reducible refine gr_alloc ?_ _ | with_reducible refine gr_drew ?_ | with_reducible refine gr_drewN ?_ _ | with_reducible refine gr_trans ?_ (by assumption) | with_reducible refine gr_set ?_ ?_ _ | (simp; done) | omega | (simp; omega)))⟩
  · have hm' : isF a b c d = false := by simpa using hm
    clear hm
    have kk := K2.out (by simp [hm'])
    subst kk
    go_wp2
    go_ret2
    exact ⟨ret_tup2 (by simp [if0]) rfl, by (repeat' (first | with_reducible exact Below.refl _ _ | with_reducible assumption | with_reducible refine gr_alloc ?_ _ | with_reducible refine gr_drew ?_ | with_reducible refine gr_drewN ?_ _ | with_reducible refine gr_trans ?_ (by assumption) | with_reducible refine gr_set ?_ ?_ _ | (simp; done) | omega | (simp; omega)))⟩

end Go.Proofs.Ytigbaelbeaobpaa
