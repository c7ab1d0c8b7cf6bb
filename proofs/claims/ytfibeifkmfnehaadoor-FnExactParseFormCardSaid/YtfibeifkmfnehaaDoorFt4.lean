/- FormText, the program. -/
import Derived.Test.YtfibeifkmfnehaaDoorFt3
namespace Go.Proofs.YtfibeifkmfnehaaDoor
open Go.RowKit

/-- What is kept between two pieces: the builder, the table, the world ahead. -/
structure BlS (w0 : World) (b : Nat) (l : List UInt8) (w : World) : Prop where
  B : Bld b l w
  T : Tab w
  U : Below w0.heap.size w0 w
  N : w0.heap.size ≤ b
theorem BlS.next {w0 w w' : World} {b : Nat} {l : List UInt8} (h : BlS w0 b l w) (hb : Below w.heap.size w w') : BlS w0 b l w' := ⟨h.B.next hb, h.T.next hb, gr_trans h.U hb, h.N⟩
theorem BlS.wrote {w0 w w' : World} {b : Nat} {l m : List UInt8} (h : BlS w0 b l w) (h1 : Bld b m w') (h2 : Below b w w') (ht : Tab w0) : BlS w0 b m w' := by
  have hu : Below w0.heap.size w0 w' := h.U.trans (h2.mono h.N)
  exact ⟨h1, ht.next hu, hu, h.N⟩
set_option maxRecDepth 100000 in
set_option maxHeartbeats 1000000 in
theorem iFormText_any (a b c d : Int) (w : World) (ht : Tab w) :
    Calls Tryd.prog 7 #[.agg #[.int .i64 a, .int .i64 b, .int .i64 c, .int .i64 d]] w fun e w' => e = .returned (.tuple #[.string ⟨(if isF a b c d then txt a b c d else []).toArray⟩, .int .i64 (cif a b c d)]) ∧ Below w.heap.size w w' := by
  have hf := fun W => iIsForm_any a b c d W
  have A0 := Arr.new w a b c d 25
  have U0 := gr_alloc (Below.refl w.heap.size w) (.cells #[.int .i64 a, .int .i64 b, .int .i64 c, .int .i64 d] 25)
  have HTab := hid ht
  clear ht
  cases h : isF a b c d with
  | false =>
    have e : cif a b c d = 1 := by simp [cif, h]
    rw [h] at hf; rw [e]
    simp only [Bool.false_eq_true, if_false]
    have HF := hid hf
    clear hf
    go_enter Tryd.func7, Tryd.ntmps7
    obtain ⟨_, c0, c1, c2, c3, _⟩ := id A0
    go_wp2_with (go_at_call 13; refine (HF.out _).mono ?_; rintro e w1 ⟨rfl, hb1⟩)
    go_ret2
    exact ⟨rfl, by (repeat' (first | with_reducible exact Below.refl _ _ | with_reducible assumption | with_reducible refine gr_alloc ?_ _ | with_reducible refine gr_drew ?_ | with_reducible refine gr_drewN ?_ _ | with_reducible refine gr_trans ?_ (by assumption) | with_reducible refine gr_set ?_ ?_ _ | (simp; done) | omega | (simp; omega)))⟩
  | true =>
    obtain ⟨ha, hb, hc, hd⟩ := isF_t h
    have e : cif a b c d = 0 := by simp [cif, h]
    rw [h] at hf; rw [e]
    simp only [if_true]
    have HF := hid hf
    have l1 := itoa_bd ha; have l2 := itoa_bd hb; have l3 := itoa_bd hc; have l4 := itoa_bd hd
    have hfm := fun n hn W hT => fmt_any n W hn hT
    have ix0 : ∀ W, (Instr.index 25 (.agg #[.int .i64 a, .int .i64 b, .int .i64 c, .int .i64 d]) (.int .i64 0)).run Tryd.prog W = .ok (.int .i64 a) W := fun W => by kernel_rfl
    have ix1 : ∀ W, (Instr.index 25 (.agg #[.int .i64 a, .int .i64 b, .int .i64 c, .int .i64 d]) (.int .i64 1)).run Tryd.prog W = .ok (.int .i64 b) W := fun W => by kernel_rfl
    have ix2 : ∀ W, (Instr.index 25 (.agg #[.int .i64 a, .int .i64 b, .int .i64 c, .int .i64 d]) (.int .i64 2)).run Tryd.prog W = .ok (.int .i64 c) W := fun W => by kernel_rfl
    have ix3 : ∀ W, (Instr.index 25 (.agg #[.int .i64 a, .int .i64 b, .int .i64 c, .int .i64 d]) (.int .i64 3)).run Tryd.prog W = .ok (.int .i64 d) W := fun W => by kernel_rfl
    have hne : txt a b c d ≠ [] := by unfold txt; simp
    have htx : txt a b c d = [] ++ Lib.itoa a ++ [44] ++ Lib.itoa b ++ [44] ++ Lib.itoa c ++ [44] ++ Lib.itoa d := by unfold txt; simp
    have HNE := hid hne; have HTX := hid htx
    clear hf hne htx
    generalize txt a b c d = TX at HNE HTX ⊢
    generalize Lib.itoa = f at hfm l1 l2 l3 l4 HTX
    have HFM := hid hfm
    have HA := hid ha; have HB := hid hb; have HC := hid hc; have HD := hid hd
    clear hfm ha hb hc hd
    have L1 := hid l1; have L2 := hid l2; have L3 := hid l3; have L4 := hid l4
    clear l1 l2 l3 l4
    go_enter Tryd.func7, Tryd.ntmps7
    obtain ⟨_, c0, c1, c2, c3, _⟩ := id A0
    go_wp2_with fail
    refine (HF.out _).mono ?_
    rintro e w1 ⟨rfl, hb1⟩
    have A1 := A0.next hb1
    have U1 := gr_trans U0 hb1
    have S2 : BlS w w1.heap.size [] (w1.alloc (.cells #[.pointer none, .slice none 0 0] 37)) :=
      ⟨Lib.IsBuilderF.of (Lib.fresh_isBuilder _ _ w1), HTab.out.next (gr_alloc U1 _), gr_alloc U1 _, U1.size⟩
    have A2 := A1.alloc (.cells #[.pointer none, .slice none 0 0] 37)
    clear c0 c1 c2 c3 A0 A1 U0 U1 hb1
    go_upto_region 4 with fail
    generalize hbb : w1.heap.size = bb at *
    generalize w1.alloc (.cells #[.pointer none, .slice none 0 0] 37) = W2 at A2 S2 ⊢
    clear hbb
    obtain ⟨_, c0, c1, c2, c3, _⟩ := id A2
    go_wp2_with fail
    refine wp_loop_rounds 5 ?_
    clear c0 c1 c2 c3 A2
    rw [rounds_succ]; go_wp2_with fail
    refine (HFM.out _ HA.out _ S2.T).mono ?_
    rintro e w3 ⟨rfl, hb⟩
    have S3 := S2.next hb
    clear S2 hb
    go_wp2_with fail
    refine (ws_any bb ([]) (f a) _ S3.B (by have := L1.out; have := L2.out; have := L3.out; have := L4.out; (try simp) <;> omega) (by have := L1.out; have := L2.out; have := L3.out; have := L4.out; (try simp) <;> omega)).mono ?_
    rintro e w4 ⟨v4, rfl, hB, hu⟩
    have S4 := S3.wrote hB hu HTab.out
    clear S3 hB hu
    go_wp2_with fail
    rw [rounds_succ]; go_wp2_with fail
    refine (wc_any bb ([] ++ f a) _ S4.B (by have := L1.out; have := L2.out; have := L3.out; have := L4.out; (try simp) <;> omega)).mono ?_
    rintro e w5 ⟨rfl, hB, hu⟩
    have S5 := S4.wrote hB hu HTab.out
    clear S4 hB hu
    go_wp2_with fail
    refine (HFM.out _ HB.out _ S5.T).mono ?_
    rintro e w6 ⟨rfl, hb⟩
    have S6 := S5.next hb
    clear S5 hb
    go_wp2_with fail
    refine (ws_any bb ([] ++ f a ++ [44]) (f b) _ S6.B (by have := L1.out; have := L2.out; have := L3.out; have := L4.out; (try simp) <;> omega) (by have := L1.out; have := L2.out; have := L3.out; have := L4.out; (try simp) <;> omega)).mono ?_
    rintro e w7 ⟨v7, rfl, hB, hu⟩
    have S7 := S6.wrote hB hu HTab.out
    clear S6 hB hu
    go_wp2_with fail
    rw [rounds_succ]; go_wp2_with fail
    refine (wc_any bb ([] ++ f a ++ [44] ++ f b) _ S7.B (by have := L1.out; have := L2.out; have := L3.out; have := L4.out; (try simp) <;> omega)).mono ?_
    rintro e w8 ⟨rfl, hB, hu⟩
    have S8 := S7.wrote hB hu HTab.out
    clear S7 hB hu
    go_wp2_with fail
    refine (HFM.out _ HC.out _ S8.T).mono ?_
    rintro e w9 ⟨rfl, hb⟩
    have S9 := S8.next hb
    clear S8 hb
    go_wp2_with fail
    refine (ws_any bb ([] ++ f a ++ [44] ++ f b ++ [44]) (f c) _ S9.B (by have := L1.out; have := L2.out; have := L3.out; have := L4.out; (try simp) <;> omega) (by have := L1.out; have := L2.out; have := L3.out; have := L4.out; (try simp) <;> omega)).mono ?_
    rintro e w10 ⟨v10, rfl, hB, hu⟩
    have S10 := S9.wrote hB hu HTab.out
    clear S9 hB hu
    go_wp2_with fail
    rw [rounds_succ]; go_wp2_with fail
    refine (wc_any bb ([] ++ f a ++ [44] ++ f b ++ [44] ++ f c) _ S10.B (by have := L1.out; have := L2.out; have := L3.out; have := L4.out; (try simp) <;> omega)).mono ?_
    rintro e w11 ⟨rfl, hB, hu⟩
    have S11 := S10.wrote hB hu HTab.out
    clear S10 hB hu
    go_wp2_with fail
    refine (HFM.out _ HD.out _ S11.T).mono ?_
    rintro e w12 ⟨rfl, hb⟩
    have S12 := S11.next hb
    clear S11 hb
    go_wp2_with fail
    refine (ws_any bb ([] ++ f a ++ [44] ++ f b ++ [44] ++ f c ++ [44]) (f d) _ S12.B (by have := L1.out; have := L2.out; have := L3.out; have := L4.out; (try simp) <;> omega) (by have := L1.out; have := L2.out; have := L3.out; have := L4.out; (try simp) <;> omega)).mono ?_
    rintro e w13 ⟨v13, rfl, hB, hu⟩
    have S13 := S12.wrote hB hu HTab.out
    clear S12 hB hu
    go_wp2_with fail
    rw [rounds_succ]; go_wp2_with fail
    refine (st_any bb ([] ++ f a ++ [44] ++ f b ++ [44] ++ f c ++ [44] ++ f d) _ S13.B (by rw [← HTX.out]; exact HNE.out)).mono ?_
    rintro e w14 ⟨rfl, hu⟩
    go_wp2_with fail
    go_ret2
    exact ⟨by rw [HTX.out]; simp, S13.U.trans (hu.mono S13.N)⟩

end Go.Proofs.YtfibeifkmfnehaaDoor
