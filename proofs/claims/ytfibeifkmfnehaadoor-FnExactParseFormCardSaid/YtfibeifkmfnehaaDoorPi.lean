/- ParseForm of the program. -/
import Derived.Test.YtfibeifkmfnehaaDoorPi0
namespace Go.Proofs.YtfibeifkmfnehaaDoor
open Go.RowKit

theorem ff_none {l : List UInt8} {P : List ByteArray} (hP : P = Lib.splitB ⟨#[44]⟩ 0 (min 5 (l.length + 1) - 1) ⟨l.toArray⟩) (h : ¬ ∃ a b c d : Int, (-1000 ≤ a ∧ a ≤ 1000) ∧ (-1000 ≤ b ∧ b ≤ 1000) ∧ (-1000 ≤ c ∧ c ≤ 1000) ∧ (-1000 ≤ d ∧ d ≤ 1000) ∧ isF a b c d = true ∧ l = txt a b c d ∧ P = [⟨(Lib.itoa a).toArray⟩, ⟨(Lib.itoa b).toArray⟩, ⟨(Lib.itoa c).toArray⟩, ⟨(Lib.itoa d).toArray⟩] ∧ Lib.parseIntB 64 (Lib.itoa a) = .ok a ∧ Lib.parseIntB 64 (Lib.itoa b) = .ok b ∧ Lib.parseIntB 64 (Lib.itoa c) = .ok c ∧ Lib.parseIntB 64 (Lib.itoa d) = .ok d) : frT l = none := by
  cases hf : frT l with
  | none => rfl
  | some t =>
    obtain ⟨a, b, c, d⟩ := t
    obtain ⟨hl, hF⟩ := frT_some hf
    obtain ⟨ha, hb, hc, hd⟩ := isF_t hF
    have e : min 5 (l.length + 1) - 1 = 4 := by
      have : 4 ≤ l.length := by
        have := congrArg List.length hl
        have h0 : Lib.itoa a ≠ [] := fun e => by
          have h1 := itoa_sgn (n := a) (by have := itoa_bd ha; omega)
          rw [e] at h1
          simp [sgn, num] at h1
        have h2 := List.length_pos_iff.2 h0
        simp [txt] at this
        omega
      omega
    rw [e, hl, splitB_txt] at hP
    refine absurd ⟨a, b, c, d, ha, hb, hc, hd, hF, hl, hP, ?_, ?_, ?_, ?_⟩ h
    · exact parse_itoa ha (by have := itoa_bd ha; omega)
    · exact parse_itoa hb (by have := itoa_bd hb; omega)
    · exact parse_itoa hc (by have := itoa_bd hc; omega)
    · exact parse_itoa hd (by have := itoa_bd hd; omega)

set_option maxRecDepth 100000 in
set_option maxHeartbeats 4000000 in
theorem iParse_any (l : List UInt8) (w : World) (m : Int) (hl : l.length ≤ 1048576) (hm : w.cell? ⟨3, 0, none⟩ = some (.int .i64 m)) (hg : 3 < w.heap.size) (hE : Errs w) (hTb : Tab w) : Calls Tryd.prog 9 #[.string ⟨l.toArray⟩] w (PfOut l w) := by
  have R0 := Arr.new w 0 0 0 0 25
  have U0 := gr_alloc (Below.refl w.heap.size w) (.cells #[.int .i64 0, .int .i64 0, .int .i64 0, .int .i64 0] 25)
  have hs := splitn_any l (w.alloc (.cells #[.int .i64 0, .int .i64 0, .int .i64 0, .int .i64 0] 25)) m hl ((U0.cell (p := ⟨3, 0, none⟩) hg).trans hm)
  have HS := hid hs; have HE := hid hE; have HV := hid hTb
  clear hs hm hE hTb hg
  unfold PfOut
  go_enter Tryd.func9, Tryd.ntmps9
  go_upto_region 1 with fail
  have hz0 : (w.alloc (.cells #[.int .i64 0, .int .i64 0, .int .i64 0, .int .i64 0] 25)).heap.size = w.heap.size + 1 := by simp
  generalize w.alloc (.cells #[.int .i64 0, .int .i64 0, .int .i64 0, .int .i64 0] 25) = W0 at R0 U0 hz0 HS ⊢
  go_wp2_with fail
  refine HS.out.mono ?_
  rintro e w1 ⟨P, cap, rfl, hP, hcap, hcap5, hT, hsz, hb1⟩
  have R1 := R0.next hb1
  have U1 := gr_trans U0 hb1
  have hz1 := hb1.size
  have HN := hid (ff_none hP)
  clear R0 U0 hb1 HS hP
  by_cases h4 : P.length = 4
  · have e4 : ((P.length : Int) != 4) = false := by simp; omega
    obtain ⟨p, q, r, s, rfl⟩ : ∃ p q r s, P = [p, q, r, s] := by
      match P, h4 with
      | [p, q, r, s], _ => exact ⟨p, q, r, s, rfl⟩
    have T1 : TB (w.heap.size + 1) p q r s w1 := hz0 ▸ hT p q r s rfl
    have hp := hsz p (by simp); have hq := hsz q (by simp); have hr := hsz r (by simp); have hs := hsz s (by simp)
    have hc4 := hcap (by simp)
    have T2 := T1.next (gr_alloc (Below.refl _ w1) (.cells #[.int .i64 0, .int .i64 0, .int .i64 0, .int .i64 0] 25))
    have R2 := R1.alloc (.cells #[.int .i64 0, .int .i64 0, .int .i64 0, .int .i64 0] 25)
    have U2 := gr_alloc U1 (.cells #[.int .i64 0, .int .i64 0, .int .i64 0, .int .i64 0] 25)
    have O2 := Arr.new w1 0 0 0 0 25
    have hT1 := T1.lt; have hR1 := R1.lt
    have hne2 : w.heap.size + 1 ≠ w1.heap.size := by omega
    have hne3 : w.heap.size ≠ w1.heap.size := by omega
    have hle : w.heap.size ≤ w1.heap.size := by omega
    have K1 := hid fun W h => parse_any p W (by omega) h
    have K2 := hid fun W h => parse_any q W (by omega) h
    have K3 := hid fun W h => parse_any r W (by omega) h
    have K4 := hid fun W h => parse_any s W (by omega) h
    clear T1 R1 U1 hT hsz hp hq hr hs hcap h4
    go_upto_region 5 with fail
    generalize hbo : w1.heap.size = bo at *
    generalize w1.alloc (.cells #[.int .i64 0, .int .i64 0, .int .i64 0, .int .i64 0] 25) = W2 at T2 R2 U2 O2  ⊢
    clear hbo
    go_wp2_with fail
    refine wp_loop_rounds 5 ?_
    rw [rounds_succ]
    obtain ⟨_, t0, t1, t2, t3⟩ := id T2
    go_wp2_with fail
    clear t0 t1 t2 t3
    refine (K1.out _ (HE.out.next U2)).mono ?_
    rintro e w3 ⟨a, er, rfl, hk, hb3⟩
    have T3 := T2.next hb3; have R3 := R2.next hb3; have U3 := gr_trans U2 hb3; have O3 := O2.next hb3
    clear T2 R2 U2 O2  hb3 K1
    rcases hk with ⟨rfl, hok⟩ | ⟨⟨N, rfl⟩, hno⟩
    rotate_left 1
    · obtain ⟨_, r0, r1, r2, r3, g0, g1, g2, g3⟩ := id R3
      go_wp2_with fail
      refine bodyPost_ret (res_AI (k := 6) (e := 2) rfl Tryd.underlying25 (by kernel_rfl) rfl rfl (by (repeat (first | with_reducible assumption | with_reducible exact Arr.box (by assumption) | with_reducible exact Box.new _ _ _ _ _ _ | with_reducible exact Arr.new _ _ _ _ _ _ | with_reducible refine Arr.drew ?_ | with_reducible refine Arr.drewN ?_ _ | with_reducible refine Arr.store4 ?_ | with_reducible refine Arr.alloc ?_ _ | with_reducible refine Box.drew ?_ | with_reducible refine Box.drewN ?_ _ | with_reducible refine Box.alloc ?_ _ | with_reducible refine Arr.next ?_ (by assumption) | with_reducible refine Box.next ?_ (by assumption) | refine Arr.oth ?_ (by first | (simp; done) | omega | (simp; omega)) _ | refine Box.oth ?_ (by first | (simp; done) | omega | (simp; omega)) _ | with_reducible exact Arr3.box (by assumption) | with_reducible exact Box3.new _ _ _ _ _ | with_reducible exact Arr3.new _ _ _ _ _ | with_reducible refine Arr3.drew ?_ | with_reducible refine Arr3.drewN ?_ _ | with_reducible refine Arr3.store3 ?_ | with_reducible refine Arr3.alloc ?_ _ | with_reducible refine Box3.drew ?_ | with_reducible refine Box3.drewN ?_ _ | with_reducible refine Box3.alloc ?_ _ | with_reducible refine Arr3.next ?_ (by assumption) | with_reducible refine Box3.next ?_ (by assumption) | refine Arr3.oth ?_ (by first | (simp; done) | omega | (simp; omega)) _ | refine Box3.oth ?_ (by first | (simp; done) | omega | (simp; omega)) _)))) rfl ?_
      refine ⟨?_, by (repeat' (first | with_reducible exact Below.refl _ _ | with_reducible assumption | with_reducible refine gr_alloc ?_ _ | with_reducible refine gr_drew ?_ | with_reducible refine gr_drewN ?_ _ | with_reducible refine gr_trans ?_ (by assumption) | with_reducible refine gr_set ?_ ?_ _ | (simp; done) | omega | (simp; omega)))⟩
      rw [HN.out ?_]; rfl
      rintro ⟨a, b, c, d, ha, hb, hc, hd, hF, hl, hP, p1, p2, p3, p4⟩
      cases hP
      exact hno _ p1
    have HK1 := hid hok
    clear hok
    obtain ⟨_, o0, o1, o2, o3, g0, g1, g2, g3⟩ := id O3
    go_wp2_with fail
    have O4 : Arr (w3.setCell ⟨bo, 0, none⟩ (.int .i64 a)) bo a 0 0 0 := O3.set0 _
    have T4 := T3.oth (a := ⟨bo, 0, none⟩) hne2 (.int .i64 a); have R4 := R3.oth (p := ⟨bo, 0, none⟩) hne3 (.int .i64 a)
    have U4 : Below w.heap.size w (w3.setCell ⟨bo, 0, none⟩ (.int .i64 a)) := gr_set U3 (by omega) _
    clear o0 o1 o2 o3 g0 g1 g2 g3 O3 T3 R3 U3 
    generalize w3.setCell ⟨bo, 0, none⟩ (.int .i64 a) = w4 at O4 T4 R4 U4  ⊢
    rw [rounds_succ]
    obtain ⟨_, t0, t1, t2, t3⟩ := id T4
    go_wp2_with fail
    clear t0 t1 t2 t3
    refine (K2.out _ (HE.out.next U4)).mono ?_
    rintro e w5 ⟨b, er, rfl, hk, hb5⟩
    have T5 := T4.next hb5; have R5 := R4.next hb5; have U5 := gr_trans U4 hb5; have O5 := O4.next hb5
    clear T4 R4 U4 O4  hb5 K2
    rcases hk with ⟨rfl, hok⟩ | ⟨⟨N, rfl⟩, hno⟩
    rotate_left 1
    · obtain ⟨_, r0, r1, r2, r3, g0, g1, g2, g3⟩ := id R5
      go_wp2_with fail
      refine bodyPost_ret (res_AI (k := 6) (e := 2) rfl Tryd.underlying25 (by kernel_rfl) rfl rfl (by (repeat (first | with_reducible assumption | with_reducible exact Arr.box (by assumption) | with_reducible exact Box.new _ _ _ _ _ _ | with_reducible exact Arr.new _ _ _ _ _ _ | with_reducible refine Arr.drew ?_ | with_reducible refine Arr.drewN ?_ _ | with_reducible refine Arr.store4 ?_ | with_reducible refine Arr.alloc ?_ _ | with_reducible refine Box.drew ?_ | with_reducible refine Box.drewN ?_ _ | with_reducible refine Box.alloc ?_ _ | with_reducible refine Arr.next ?_ (by assumption) | with_reducible refine Box.next ?_ (by assumption) | refine Arr.oth ?_ (by first | (simp; done) | omega | (simp; omega)) _ | refine Box.oth ?_ (by first | (simp; done) | omega | (simp; omega)) _ | with_reducible exact Arr3.box (by assumption) | with_reducible exact Box3.new _ _ _ _ _ | with_reducible exact Arr3.new _ _ _ _ _ | with_reducible refine Arr3.drew ?_ | with_reducible refine Arr3.drewN ?_ _ | with_reducible refine Arr3.store3 ?_ | with_reducible refine Arr3.alloc ?_ _ | with_reducible refine Box3.drew ?_ | with_reducible refine Box3.drewN ?_ _ | with_reducible refine Box3.alloc ?_ _ | with_reducible refine Arr3.next ?_ (by assumption) | with_reducible refine Box3.next ?_ (by assumption) | refine Arr3.oth ?_ (by first | (simp; done) | omega | (simp; omega)) _ | refine Box3.oth ?_ (by first | (simp; done) | omega | (simp; omega)) _)))) rfl ?_
      refine ⟨?_, by (repeat' (first | with_reducible exact Below.refl _ _ | with_reducible assumption | with_reducible refine gr_alloc ?_ _ | with_reducible refine gr_drew ?_ | with_reducible refine gr_drewN ?_ _ | with_reducible refine gr_trans ?_ (by assumption) | with_reducible refine gr_set ?_ ?_ _ | (simp; done) | omega | (simp; omega)))⟩
      rw [HN.out ?_]; rfl
      rintro ⟨a, b, c, d, ha, hb, hc, hd, hF, hl, hP, p1, p2, p3, p4⟩
      cases hP
      exact hno _ p2
    have HK2 := hid hok
    clear hok
    obtain ⟨_, o0, o1, o2, o3, g0, g1, g2, g3⟩ := id O5
    go_wp2_with fail
    have O6 : Arr (w5.setCell ⟨bo, 1, none⟩ (.int .i64 b)) bo a b 0 0 := O5.set1 _
    have T6 := T5.oth (a := ⟨bo, 1, none⟩) hne2 (.int .i64 b); have R6 := R5.oth (p := ⟨bo, 1, none⟩) hne3 (.int .i64 b)
    have U6 : Below w.heap.size w (w5.setCell ⟨bo, 1, none⟩ (.int .i64 b)) := gr_set U5 (by omega) _
    clear o0 o1 o2 o3 g0 g1 g2 g3 O5 T5 R5 U5 
    generalize w5.setCell ⟨bo, 1, none⟩ (.int .i64 b) = w6 at O6 T6 R6 U6  ⊢
    rw [rounds_succ]
    obtain ⟨_, t0, t1, t2, t3⟩ := id T6
    go_wp2_with fail
    clear t0 t1 t2 t3
    refine (K3.out _ (HE.out.next U6)).mono ?_
    rintro e w7 ⟨c, er, rfl, hk, hb7⟩
    have T7 := T6.next hb7; have R7 := R6.next hb7; have U7 := gr_trans U6 hb7; have O7 := O6.next hb7
    clear T6 R6 U6 O6  hb7 K3
    rcases hk with ⟨rfl, hok⟩ | ⟨⟨N, rfl⟩, hno⟩
    rotate_left 1
    · obtain ⟨_, r0, r1, r2, r3, g0, g1, g2, g3⟩ := id R7
      go_wp2_with fail
      refine bodyPost_ret (res_AI (k := 6) (e := 2) rfl Tryd.underlying25 (by kernel_rfl) rfl rfl (by (repeat (first | with_reducible assumption | with_reducible exact Arr.box (by assumption) | with_reducible exact Box.new _ _ _ _ _ _ | with_reducible exact Arr.new _ _ _ _ _ _ | with_reducible refine Arr.drew ?_ | with_reducible refine Arr.drewN ?_ _ | with_reducible refine Arr.store4 ?_ | with_reducible refine Arr.alloc ?_ _ | with_reducible refine Box.drew ?_ | with_reducible refine Box.drewN ?_ _ | with_reducible refine Box.alloc ?_ _ | with_reducible refine Arr.next ?_ (by assumption) | with_reducible refine Box.next ?_ (by assumption) | refine Arr.oth ?_ (by first | (simp; done) | omega | (simp; omega)) _ | refine Box.oth ?_ (by first | (simp; done) | omega | (simp; omega)) _ | with_reducible exact Arr3.box (by assumption) | with_reducible exact Box3.new _ _ _ _ _ | with_reducible exact Arr3.new _ _ _ _ _ | with_reducible refine Arr3.drew ?_ | with_reducible refine Arr3.drewN ?_ _ | with_reducible refine Arr3.store3 ?_ | with_reducible refine Arr3.alloc ?_ _ | with_reducible refine Box3.drew ?_ | with_reducible refine Box3.drewN ?_ _ | with_reducible refine Box3.alloc ?_ _ | with_reducible refine Arr3.next ?_ (by assumption) | with_reducible refine Box3.next ?_ (by assumption) | refine Arr3.oth ?_ (by first | (simp; done) | omega | (simp; omega)) _ | refine Box3.oth ?_ (by first | (simp; done) | omega | (simp; omega)) _)))) rfl ?_
      refine ⟨?_, by (repeat' (first | with_reducible exact Below.refl _ _ | with_reducible assumption | with_reducible refine gr_alloc ?_ _ | with_reducible refine gr_drew ?_ | with_reducible refine gr_drewN ?_ _ | with_reducible refine gr_trans ?_ (by assumption) | with_reducible refine gr_set ?_ ?_ _ | (simp; done) | omega | (simp; omega)))⟩
      rw [HN.out ?_]; rfl
      rintro ⟨a, b, c, d, ha, hb, hc, hd, hF, hl, hP, p1, p2, p3, p4⟩
      cases hP
      exact hno _ p3
    have HK3 := hid hok
    clear hok
    obtain ⟨_, o0, o1, o2, o3, g0, g1, g2, g3⟩ := id O7
    go_wp2_with fail
    have O8 : Arr (w7.setCell ⟨bo, 2, none⟩ (.int .i64 c)) bo a b c 0 := O7.set2 _
    have T8 := T7.oth (a := ⟨bo, 2, none⟩) hne2 (.int .i64 c); have R8 := R7.oth (p := ⟨bo, 2, none⟩) hne3 (.int .i64 c)
    have U8 : Below w.heap.size w (w7.setCell ⟨bo, 2, none⟩ (.int .i64 c)) := gr_set U7 (by omega) _
    clear o0 o1 o2 o3 g0 g1 g2 g3 O7 T7 R7 U7 
    generalize w7.setCell ⟨bo, 2, none⟩ (.int .i64 c) = w8 at O8 T8 R8 U8  ⊢
    rw [rounds_succ]
    obtain ⟨_, t0, t1, t2, t3⟩ := id T8
    go_wp2_with fail
    clear t0 t1 t2 t3
    refine (K4.out _ (HE.out.next U8)).mono ?_
    rintro e w9 ⟨d, er, rfl, hk, hb9⟩
    have T9 := T8.next hb9; have R9 := R8.next hb9; have U9 := gr_trans U8 hb9; have O9 := O8.next hb9
    clear T8 R8 U8 O8  hb9 K4
    rcases hk with ⟨rfl, hok⟩ | ⟨⟨N, rfl⟩, hno⟩
    rotate_left 1
    · obtain ⟨_, r0, r1, r2, r3, g0, g1, g2, g3⟩ := id R9
      go_wp2_with fail
      refine bodyPost_ret (res_AI (k := 6) (e := 2) rfl Tryd.underlying25 (by kernel_rfl) rfl rfl (by (repeat (first | with_reducible assumption | with_reducible exact Arr.box (by assumption) | with_reducible exact Box.new _ _ _ _ _ _ | with_reducible exact Arr.new _ _ _ _ _ _ | with_reducible refine Arr.drew ?_ | with_reducible refine Arr.drewN ?_ _ | with_reducible refine Arr.store4 ?_ | with_reducible refine Arr.alloc ?_ _ | with_reducible refine Box.drew ?_ | with_reducible refine Box.drewN ?_ _ | with_reducible refine Box.alloc ?_ _ | with_reducible refine Arr.next ?_ (by assumption) | with_reducible refine Box.next ?_ (by assumption) | refine Arr.oth ?_ (by first | (simp; done) | omega | (simp; omega)) _ | refine Box.oth ?_ (by first | (simp; done) | omega | (simp; omega)) _ | with_reducible exact Arr3.box (by assumption) | with_reducible exact Box3.new _ _ _ _ _ | with_reducible exact Arr3.new _ _ _ _ _ | with_reducible refine Arr3.drew ?_ | with_reducible refine Arr3.drewN ?_ _ | with_reducible refine Arr3.store3 ?_ | with_reducible refine Arr3.alloc ?_ _ | with_reducible refine Box3.drew ?_ | with_reducible refine Box3.drewN ?_ _ | with_reducible refine Box3.alloc ?_ _ | with_reducible refine Arr3.next ?_ (by assumption) | with_reducible refine Box3.next ?_ (by assumption) | refine Arr3.oth ?_ (by first | (simp; done) | omega | (simp; omega)) _ | refine Box3.oth ?_ (by first | (simp; done) | omega | (simp; omega)) _)))) rfl ?_
      refine ⟨?_, by (repeat' (first | with_reducible exact Below.refl _ _ | with_reducible assumption | with_reducible refine gr_alloc ?_ _ | with_reducible refine gr_drew ?_ | with_reducible refine gr_drewN ?_ _ | with_reducible refine gr_trans ?_ (by assumption) | with_reducible refine gr_set ?_ ?_ _ | (simp; done) | omega | (simp; omega)))⟩
      rw [HN.out ?_]; rfl
      rintro ⟨a, b, c, d, ha, hb, hc, hd, hF, hl, hP, p1, p2, p3, p4⟩
      cases hP
      exact hno _ p4
    have HK4 := hid hok
    clear hok
    obtain ⟨_, o0, o1, o2, o3, g0, g1, g2, g3⟩ := id O9
    go_wp2_with fail
    have O10 : Arr (w9.setCell ⟨bo, 3, none⟩ (.int .i64 d)) bo a b c d := O9.set3 _
    have T10 := T9.oth (a := ⟨bo, 3, none⟩) hne2 (.int .i64 d); have R10 := R9.oth (p := ⟨bo, 3, none⟩) hne3 (.int .i64 d)
    have U10 : Below w.heap.size w (w9.setCell ⟨bo, 3, none⟩ (.int .i64 d)) := gr_set U9 (by omega) _
    clear o0 o1 o2 o3 g0 g1 g2 g3 O9 T9 R9 U9 
    generalize w9.setCell ⟨bo, 3, none⟩ (.int .i64 d) = w10 at O10 T10 R10 U10  ⊢
    rw [rounds_succ]
    obtain ⟨_, o0, o1, o2, o3, g0, g1, g2, g3⟩ := id O10
    have HT := hid (fun W h => iFormText_any a b c d W h)
    have HNo : Hid (¬ (isF a b c d = true ∧ l = txt a b c d) → frT l = none) := hid (fun h => HN.out (by
      rintro ⟨a', b', c', d', ha, hb, hc, hd, hF, hl, hP, p1, p2, p3, p4⟩
      cases hP
      have q1 : Lib.NumEnd.ok a' = Lib.NumEnd.ok a := p1.symm.trans HK1.out
      have q2 : Lib.NumEnd.ok b' = Lib.NumEnd.ok b := p2.symm.trans HK2.out
      have q3 : Lib.NumEnd.ok c' = Lib.NumEnd.ok c := p3.symm.trans HK3.out
      have q4 : Lib.NumEnd.ok d' = Lib.NumEnd.ok d := p4.symm.trans HK4.out
      cases q1; cases q2; cases q3; cases q4
      exact h ⟨hF, hl⟩))
    clear HN HK1 HK2 HK3 HK4
    cases hF : isF a b c d with
    | false =>
      have e : cif a b c d = 1 := by simp [cif, hF]
      rw [e, hF] at HT
      go_wp2_with fail
      refine (HT.out _ (HV.out.next U10)).mono ?_
      rintro e w11 ⟨rfl, hb11⟩
      have R11 := R10.next hb11; have U11 := gr_trans U10 hb11
      clear o0 o1 o2 o3 g0 g1 g2 g3 O10 T10 R10 U10
      obtain ⟨_, r0, r1, r2, r3, g0, g1, g2, g3⟩ := id R11
      go_wp2_with fail
      refine bodyPost_ret (res_AI (k := 6) (e := 2) rfl Tryd.underlying25 (by kernel_rfl) rfl rfl (by (repeat (first | with_reducible assumption | with_reducible exact Arr.box (by assumption) | with_reducible exact Box.new _ _ _ _ _ _ | with_reducible exact Arr.new _ _ _ _ _ _ | with_reducible refine Arr.drew ?_ | with_reducible refine Arr.drewN ?_ _ | with_reducible refine Arr.store4 ?_ | with_reducible refine Arr.alloc ?_ _ | with_reducible refine Box.drew ?_ | with_reducible refine Box.drewN ?_ _ | with_reducible refine Box.alloc ?_ _ | with_reducible refine Arr.next ?_ (by assumption) | with_reducible refine Box.next ?_ (by assumption) | refine Arr.oth ?_ (by first | (simp; done) | omega | (simp; omega)) _ | refine Box.oth ?_ (by first | (simp; done) | omega | (simp; omega)) _ | with_reducible exact Arr3.box (by assumption) | with_reducible exact Box3.new _ _ _ _ _ | with_reducible exact Arr3.new _ _ _ _ _ | with_reducible refine Arr3.drew ?_ | with_reducible refine Arr3.drewN ?_ _ | with_reducible refine Arr3.store3 ?_ | with_reducible refine Arr3.alloc ?_ _ | with_reducible refine Box3.drew ?_ | with_reducible refine Box3.drewN ?_ _ | with_reducible refine Box3.alloc ?_ _ | with_reducible refine Arr3.next ?_ (by assumption) | with_reducible refine Box3.next ?_ (by assumption) | refine Arr3.oth ?_ (by first | (simp; done) | omega | (simp; omega)) _ | refine Box3.oth ?_ (by first | (simp; done) | omega | (simp; omega)) _)))) rfl ?_
      exact ⟨by rw [HNo.out (fun h => by rw [hF] at h; exact Bool.noConfusion h.1)]; rfl, by (repeat' (first | with_reducible exact Below.refl _ _ | with_reducible assumption | with_reducible refine gr_alloc ?_ _ | with_reducible refine gr_drew ?_ | with_reducible refine gr_drewN ?_ _ | with_reducible refine gr_trans ?_ (by assumption) | with_reducible refine gr_set ?_ ?_ _ | (simp; done) | omega | (simp; omega)))⟩
    | true =>
      have e : cif a b c d = 0 := by simp [cif, hF]
      rw [e, hF] at HT
      simp only [if_true] at HT
      go_wp2_with fail
      refine (HT.out _ (HV.out.next U10)).mono ?_
      rintro e w11 ⟨rfl, hb11⟩
      have R11 := R10.next hb11; have U11 := gr_trans U10 hb11; have O11 := O10.next hb11
      clear o0 o1 o2 o3 g0 g1 g2 g3 O10 T10 R10 U10 HT
      obtain ⟨_, r0, r1, r2, r3, g0, g1, g2, g3⟩ := id R11
      obtain ⟨_, o0, o1, o2, o3, _⟩ := id O11
      by_cases hx : l = txt a b c d
      · have HX : Hid (frT l = some (a, b, c, d)) := hid (by rw [hx]; exact frT_txt hF)
        have hx2 : (⟨(txt a b c d).toArray⟩ : ByteArray) = ⟨l.toArray⟩ := by rw [hx]
        clear hx
        generalize (⟨(txt a b c d).toArray⟩ : ByteArray) = TX at hx2 ⊢
        subst hx2
        go_wp2_with fail
        refine bodyPost_ret (res_AI (k := 0) (e := 2) rfl Tryd.underlying25 (by kernel_rfl) rfl rfl (by (repeat (first | with_reducible assumption | with_reducible exact Arr.box (by assumption) | with_reducible exact Box.new _ _ _ _ _ _ | with_reducible exact Arr.new _ _ _ _ _ _ | with_reducible refine Arr.drew ?_ | with_reducible refine Arr.drewN ?_ _ | with_reducible refine Arr.store4 ?_ | with_reducible refine Arr.alloc ?_ _ | with_reducible refine Box.drew ?_ | with_reducible refine Box.drewN ?_ _ | with_reducible refine Box.alloc ?_ _ | with_reducible refine Arr.next ?_ (by assumption) | with_reducible refine Box.next ?_ (by assumption) | refine Arr.oth ?_ (by first | (simp; done) | omega | (simp; omega)) _ | refine Box.oth ?_ (by first | (simp; done) | omega | (simp; omega)) _ | with_reducible exact Arr3.box (by assumption) | with_reducible exact Box3.new _ _ _ _ _ | with_reducible exact Arr3.new _ _ _ _ _ | with_reducible refine Arr3.drew ?_ | with_reducible refine Arr3.drewN ?_ _ | with_reducible refine Arr3.store3 ?_ | with_reducible refine Arr3.alloc ?_ _ | with_reducible refine Box3.drew ?_ | with_reducible refine Box3.drewN ?_ _ | with_reducible refine Box3.alloc ?_ _ | with_reducible refine Arr3.next ?_ (by assumption) | with_reducible refine Box3.next ?_ (by assumption) | refine Arr3.oth ?_ (by first | (simp; done) | omega | (simp; omega)) _ | refine Box3.oth ?_ (by first | (simp; done) | omega | (simp; omega)) _)))) rfl ?_
        exact ⟨by rw [HX.out]; rfl, by (repeat' (first | with_reducible exact Below.refl _ _ | with_reducible assumption | with_reducible refine gr_alloc ?_ _ | with_reducible refine gr_drew ?_ | with_reducible refine gr_drewN ?_ _ | with_reducible refine gr_trans ?_ (by assumption) | with_reducible refine gr_set ?_ ?_ _ | (simp; done) | omega | (simp; omega)))⟩
      · have HX : Hid (frT l = none) := hid (HNo.out (fun h => hx h.2))
        have hx2 : ((⟨(txt a b c d).toArray⟩ : ByteArray).toList == l) = false := by
          rw [ByteArray.toList_eq]
          exact beq_eq_false_iff_ne.2 (fun e => hx e.symm)
        clear hx
        generalize (⟨(txt a b c d).toArray⟩ : ByteArray) = TX at hx2 ⊢
        go_wp2_with fail
        refine bodyPost_ret (res_AI (k := 6) (e := 2) rfl Tryd.underlying25 (by kernel_rfl) rfl rfl (by (repeat (first | with_reducible assumption | with_reducible exact Arr.box (by assumption) | with_reducible exact Box.new _ _ _ _ _ _ | with_reducible exact Arr.new _ _ _ _ _ _ | with_reducible refine Arr.drew ?_ | with_reducible refine Arr.drewN ?_ _ | with_reducible refine Arr.store4 ?_ | with_reducible refine Arr.alloc ?_ _ | with_reducible refine Box.drew ?_ | with_reducible refine Box.drewN ?_ _ | with_reducible refine Box.alloc ?_ _ | with_reducible refine Arr.next ?_ (by assumption) | with_reducible refine Box.next ?_ (by assumption) | refine Arr.oth ?_ (by first | (simp; done) | omega | (simp; omega)) _ | refine Box.oth ?_ (by first | (simp; done) | omega | (simp; omega)) _ | with_reducible exact Arr3.box (by assumption) | with_reducible exact Box3.new _ _ _ _ _ | with_reducible exact Arr3.new _ _ _ _ _ | with_reducible refine Arr3.drew ?_ | with_reducible refine Arr3.drewN ?_ _ | with_reducible refine Arr3.store3 ?_ | with_reducible refine Arr3.alloc ?_ _ | with_reducible refine Box3.drew ?_ | with_reducible refine Box3.drewN ?_ _ | with_reducible refine Box3.alloc ?_ _ | with_reducible refine Arr3.next ?_ (by assumption) | with_reducible refine Box3.next ?_ (by assumption) | refine Arr3.oth ?_ (by first | (simp; done) | omega | (simp; omega)) _ | refine Box3.oth ?_ (by first | (simp; done) | omega | (simp; omega)) _)))) rfl ?_
        exact ⟨by rw [HX.out]; rfl, by (repeat' (first | with_reducible exact Below.refl _ _ | with_reducible assumption | with_reducible refine gr_alloc ?_ _ | with_reducible refine gr_drew ?_ | with_reducible refine gr_drewN ?_ _ | with_reducible refine gr_trans ?_ (by assumption) | with_reducible refine gr_set ?_ ?_ _ | (simp; done) | omega | (simp; omega)))⟩
  · have e4 : ((P.length : Int) != 4) = true := by simp; omega
    have HN : Hid (frT l = none) := hid (HN.out (by rintro ⟨a, b, c, d, ha, hb, hc, hd, hF, hl, rfl, p1, p2, p3, p4⟩; exact h4 rfl))
    clear h4 hT hsz
    obtain ⟨_, r0, r1, r2, r3, g0, g1, g2, g3⟩ := id R1
    go_wp2_with fail
    refine bodyPost_ret (res_AI (k := 6) (e := 2) rfl Tryd.underlying25 (by kernel_rfl) rfl rfl (by (repeat (first | with_reducible assumption | with_reducible exact Arr.box (by assumption) | with_reducible exact Box.new _ _ _ _ _ _ | with_reducible exact Arr.new _ _ _ _ _ _ | with_reducible refine Arr.drew ?_ | with_reducible refine Arr.drewN ?_ _ | with_reducible refine Arr.store4 ?_ | with_reducible refine Arr.alloc ?_ _ | with_reducible refine Box.drew ?_ | with_reducible refine Box.drewN ?_ _ | with_reducible refine Box.alloc ?_ _ | with_reducible refine Arr.next ?_ (by assumption) | with_reducible refine Box.next ?_ (by assumption) | refine Arr.oth ?_ (by first | (simp; done) | omega | (simp; omega)) _ | refine Box.oth ?_ (by first | (simp; done) | omega | (simp; omega)) _ | with_reducible exact Arr3.box (by assumption) | with_reducible exact Box3.new _ _ _ _ _ | with_reducible exact Arr3.new _ _ _ _ _ | with_reducible refine Arr3.drew ?_ | with_reducible refine Arr3.drewN ?_ _ | with_reducible refine Arr3.store3 ?_ | with_reducible refine Arr3.alloc ?_ _ | with_reducible refine Box3.drew ?_ | with_reducible refine Box3.drewN ?_ _ | with_reducible refine Box3.alloc ?_ _ | with_reducible refine Arr3.next ?_ (by assumption) | with_reducible refine Box3.next ?_ (by assumption) | refine Arr3.oth ?_ (by first | (simp; done) | omega | (simp; omega)) _ | refine Box3.oth ?_ (by first | (simp; done) | omega | (simp; omega)) _)))) rfl ?_
    exact ⟨by rw [HN.out]; rfl, by (repeat' (first | with_reducible exact Below.refl _ _ | with_reducible assumption | with_reducible refine gr_alloc ?_ _ | with_reducible refine gr_drew ?_ | with_reducible refine gr_drewN ?_ _ | with_reducible refine gr_trans ?_ (by assumption) | with_reducible refine gr_set ?_ ?_ _ | (simp; done) | omega | (simp; omega)))⟩

end Go.Proofs.YtfibeifkmfnehaaDoor
