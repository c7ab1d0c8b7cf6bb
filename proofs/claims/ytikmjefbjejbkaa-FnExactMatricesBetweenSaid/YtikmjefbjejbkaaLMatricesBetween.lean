/- FnExactMatricesBetween: MatricesBetween answers as its model at every argument; its answer owns its memory. No condition. -/
import Derived.Test.YtikmjefbjejbkaaBbClo
import Derived.Test.YtikmjefbjejbkaaBbZ1
import Derived.Test.YtikmjefbjejbkaaBbZ4
import Derived.Test.YtikmjefbjejbkaaBbAz
import Derived.Test.YtikmjefbjejbkaaBbQc
import Derived.Deep.RegionHeld3
import Derived.Deep.DeepCutAuto
namespace Go.Proofs.Ytikmjefbjejbkaa
open Go.ChangeShapes Go.WideShapes Go.ChangeAt Go.RowKit

set_option maxRecDepth 100000 in
set_option maxHeartbeats 1000000 in
theorem FnExactMatricesBetween_walk (a b c d : Int) (_ : Wf4 a b c d) (u v x y : Int) (_ : Wf4 u v x y) (w : World) :
    Calls Try.prog 3 #[.agg #[.int .i64 a, .int .i64 b, .int .i64 c, .int .i64 d], .agg #[.int .i64 u, .int .i64 v, .int .i64 x, .int .i64 y]] w fun e w' => e = .returned (.bool true) ∧ Below w.heap.size w w' := by
  have hA := (Arr.new w a b c d 22).alloc (.cells #[.int .i64 u, .int .i64 v, .int .i64 x, .int .i64 y] 22)
  have hB := Arr.new (w.alloc (.cells #[.int .i64 a, .int .i64 b, .int .i64 c, .int .i64 d] 22)) u v x y 22
  have hU := gr_alloc (gr_alloc (Below.refl w.heap.size w) (.cells #[.int .i64 a, .int .i64 b, .int .i64 c, .int .i64 d] 22)) (.cells #[.int .i64 u, .int .i64 v, .int .i64 x, .int .i64 y] 22)
  simp only [World.size_alloc] at hB
  have hs := fun W => sMatBetween_any a b c d u v x y W
  have hp := fun W => iMatBetween_any a b c d u v x y W
  have hl := mbt_le a b c d u v x y
  unfold MbOut FlsOut at hs hp
  generalize (if mbc a b c d u v x y = 0 then (mbt (a, b, c, d) (u, v, x, y)).length else 0) = n at hs hp hl
  generalize mbc a b c d u v x y = k at hs hp
  generalize (fun i => ((mbt (a, b, c, d) (u, v, x, y)).flatMap gm4).getD i 0) = g at hs hp
  have HS := hid hs
  have HP := hid hp
  clear hs hp
  go_enter Try.func3, Try.ntmps3
  go_upto_region 1 with fail
  generalize (w.alloc (.cells #[.int .i64 a, .int .i64 b, .int .i64 c, .int .i64 d] 22)).alloc (.cells #[.int .i64 u, .int .i64 v, .int .i64 x, .int .i64 y] 22) = W0 at hA hB hU ⊢
  obtain ⟨ka, ha⟩ : ∃ ka, ka = w.heap.size := ⟨_, rfl⟩
  rw [← ha] at hA hB ⊢
  generalize hkb : ka + 1 = kb at *
  obtain ⟨hl0, a0, a1, a2, a3, _⟩ := id hA
  obtain ⟨hl1, b0, b1, b2, b3, _⟩ := id hB
  have hUz0 := hU.size
  have HA := hid ha
  clear ha
  go_cut [5, 6] (fun s5 s6 wx => ∃ v0, v0 = s5 ∧ s6 = .int .i64 k ∧ RdBX wx.heap.size wx v0 n g ∧ Arr wx ka a b c d ∧ Arr wx kb u v x y ∧ Below w.heap.size w wx)
  case first =>
    go_region_held3 (fun W => W.cell? ⟨kb, 0, none⟩ = some (.int .i64 u) ∧ W.cell? ⟨kb, 1, none⟩ = some (.int .i64 v) ∧ W.cell? ⟨kb, 2, none⟩ = some (.int .i64 x) ∧ W.cell? ⟨kb, 3, none⟩ = some (.int .i64 y) ∧ W.cell? ⟨ka, 0, none⟩ = some (.int .i64 a) ∧ W.cell? ⟨ka, 1, none⟩ = some (.int .i64 b) ∧ W.cell? ⟨ka, 2, none⟩ = some (.int .i64 c) ∧ W.cell? ⟨ka, 3, none⟩ = some (.int .i64 d)) (refine cells8A ?_ ?_ <;> (repeat (first | with_reducible assumption | with_reducible exact Arr.box (by assumption) | with_reducible exact Box.new _ _ _ _ _ _ | with_reducible exact Arr.new _ _ _ _ _ _ | with_reducible refine Arr.drew ?_ | with_reducible refine Arr.drewN ?_ _ | with_reducible refine Arr.store4 ?_ | with_reducible refine Arr.alloc ?_ _ | with_reducible refine Box.drew ?_ | with_reducible refine Box.drewN ?_ _ | with_reducible refine Box.alloc ?_ _ | with_reducible refine Arr.next ?_ (by assumption) | with_reducible refine Box.next ?_ (by assumption) | refine Arr.oth ?_ (by first | (simp; done) | omega | (simp; omega)) _ | refine Box.oth ?_ (by first | (simp; done) | omega | (simp; omega)) _ | with_reducible exact Arr3.box (by assumption) | with_reducible exact Box3.new _ _ _ _ _ | with_reducible exact Arr3.new _ _ _ _ _ | with_reducible refine Arr3.drew ?_ | with_reducible refine Arr3.drewN ?_ _ | with_reducible refine Arr3.store3 ?_ | with_reducible refine Arr3.alloc ?_ _ | with_reducible refine Box3.drew ?_ | with_reducible refine Box3.drewN ?_ _ | with_reducible refine Box3.alloc ?_ _ | with_reducible refine Arr3.next ?_ (by assumption) | with_reducible refine Box3.next ?_ (by assumption) | refine Arr3.oth ?_ (by first | (simp; done) | omega | (simp; omega)) _ | refine Box3.oth ?_ (by first | (simp; done) | omega | (simp; omega)) _))) (first | (go_at_call_of 12 (Value.agg #[Value.int .i64 a, Value.int .i64 b, Value.int .i64 c, Value.int .i64 d]); refine (toForm_any a b c d _).mono ?_; rintro e za ⟨rfl, hba⟩; have hza := hba.size; (try simp at hza)) | (go_at_call_of 12 (Value.agg #[Value.int .i64 u, Value.int .i64 v, Value.int .i64 x, Value.int .i64 y]); refine (toForm_any u v x y _).mono ?_; rintro e zb ⟨rfl, hbb⟩; have hzb := hbb.size; (try simp at hzb)) | (go_at_call 11; refine (HS.out _).mono ?_; rintro e zc ⟨vv, rfl, hV, hbc⟩; have hzc := hbc.size; (try simp at hzc)))
    all_goals (go_wp2_with fail; go_meet; exact ⟨_, rfl, rfl, hV.rdB, by (repeat (first | with_reducible assumption | with_reducible exact Arr.box (by assumption) | with_reducible exact Box.new _ _ _ _ _ _ | with_reducible exact Arr.new _ _ _ _ _ _ | with_reducible refine Arr.drew ?_ | with_reducible refine Arr.drewN ?_ _ | with_reducible refine Arr.store4 ?_ | with_reducible refine Arr.alloc ?_ _ | with_reducible refine Box.drew ?_ | with_reducible refine Box.drewN ?_ _ | with_reducible refine Box.alloc ?_ _ | with_reducible refine Arr.next ?_ (by assumption) | with_reducible refine Box.next ?_ (by assumption) | refine Arr.oth ?_ (by first | (simp; done) | omega | (simp; omega)) _ | refine Box.oth ?_ (by first | (simp; done) | omega | (simp; omega)) _ | with_reducible exact Arr3.box (by assumption) | with_reducible exact Box3.new _ _ _ _ _ | with_reducible exact Arr3.new _ _ _ _ _ | with_reducible refine Arr3.drew ?_ | with_reducible refine Arr3.drewN ?_ _ | with_reducible refine Arr3.store3 ?_ | with_reducible refine Arr3.alloc ?_ _ | with_reducible refine Box3.drew ?_ | with_reducible refine Box3.drewN ?_ _ | with_reducible refine Box3.alloc ?_ _ | with_reducible refine Arr3.next ?_ (by assumption) | with_reducible refine Box3.next ?_ (by assumption) | refine Arr3.oth ?_ (by first | (simp; done) | omega | (simp; omega)) _ | refine Box3.oth ?_ (by first | (simp; done) | omega | (simp; omega)) _)), by (repeat (first | with_reducible assumption | with_reducible exact Arr.box (by assumption) | with_reducible exact Box.new _ _ _ _ _ _ | with_reducible exact Arr.new _ _ _ _ _ _ | with_reducible refine Arr.drew ?_ | with_reducible refine Arr.drewN ?_ _ | with_reducible refine Arr.store4 ?_ | with_reducible refine Arr.alloc ?_ _ | with_reducible refine Box.drew ?_ | with_reducible refine Box.drewN ?_ _ | with_reducible refine Box.alloc ?_ _ | with_reducible refine Arr.next ?_ (by assumption) | with_reducible refine Box.next ?_ (by assumption) | refine Arr.oth ?_ (by first | (simp; done) | omega | (simp; omega)) _ | refine Box.oth ?_ (by first | (simp; done) | omega | (simp; omega)) _ | with_reducible exact Arr3.box (by assumption) | with_reducible exact Box3.new _ _ _ _ _ | with_reducible exact Arr3.new _ _ _ _ _ | with_reducible refine Arr3.drew ?_ | with_reducible refine Arr3.drewN ?_ _ | with_reducible refine Arr3.store3 ?_ | with_reducible refine Arr3.alloc ?_ _ | with_reducible refine Box3.drew ?_ | with_reducible refine Box3.drewN ?_ _ | with_reducible refine Box3.alloc ?_ _ | with_reducible refine Arr3.next ?_ (by assumption) | with_reducible refine Box3.next ?_ (by assumption) | refine Arr3.oth ?_ (by first | (simp; done) | omega | (simp; omega)) _ | refine Box3.oth ?_ (by first | (simp; done) | omega | (simp; omega)) _)), by (repeat' (first | with_reducible exact Below.refl _ _ | with_reducible assumption | with_reducible refine gr_alloc ?_ _ | with_reducible refine gr_drew ?_ | with_reducible refine gr_drewN ?_ _ | with_reducible refine gr_trans ?_ (by assumption) | with_reducible refine gr_set ?_ ?_ _ | (simp; done) | omega | (simp; omega)))⟩)
  case rest =>
  obtain ⟨v0, rfl, rfl, hv0, hA1, hB1, hU1⟩ := hcut
  clear hA hB hU hUz0 hl0 hl1 a0 a1 a2 a3 b0 b1 b2 b3
  have hUz1 := hU1.size
  obtain ⟨B1, hB1e⟩ : ∃ B, B = wc.heap.size := ⟨_, rfl⟩
  rw [← hB1e] at hv0
  obtain ⟨hl0, a0, a1, a2, a3, _⟩ := id hA1
  obtain ⟨hl1, b0, b1, b2, b3, _⟩ := id hB1
  have hle1 : B1 ≤ wc.heap.size := by omega
  have hge1 : wc.heap.size ≤ B1 := by omega
  have hwB : w.heap.size ≤ B1 := by omega
  have hla : ka < B1 := by omega
  have hlb : kb < B1 := by omega
  clear hB1e
  go_upto_region 2 with fail
  go_cut [7, 8] (fun s7 s8 wx => ∃ u1, u1 = s7 ∧ s8 = .int .i64 k ∧ OwnX B1 wx u1 n g ∧ RdBX B1 wx v0 n g ∧ B1 ≤ wx.heap.size ∧ Arr wx ka a b c d ∧ Arr wx kb u v x y ∧ Below w.heap.size w wx)
  case first =>
    go_region_held3 (fun W => W.cell? ⟨kb, 0, none⟩ = some (.int .i64 u) ∧ W.cell? ⟨kb, 1, none⟩ = some (.int .i64 v) ∧ W.cell? ⟨kb, 2, none⟩ = some (.int .i64 x) ∧ W.cell? ⟨kb, 3, none⟩ = some (.int .i64 y) ∧ W.cell? ⟨ka, 0, none⟩ = some (.int .i64 a) ∧ W.cell? ⟨ka, 1, none⟩ = some (.int .i64 b) ∧ W.cell? ⟨ka, 2, none⟩ = some (.int .i64 c) ∧ W.cell? ⟨ka, 3, none⟩ = some (.int .i64 d)) (refine cells8A ?_ ?_ <;> (repeat (first | with_reducible assumption | with_reducible exact Arr.box (by assumption) | with_reducible exact Box.new _ _ _ _ _ _ | with_reducible exact Arr.new _ _ _ _ _ _ | with_reducible refine Arr.drew ?_ | with_reducible refine Arr.drewN ?_ _ | with_reducible refine Arr.store4 ?_ | with_reducible refine Arr.alloc ?_ _ | with_reducible refine Box.drew ?_ | with_reducible refine Box.drewN ?_ _ | with_reducible refine Box.alloc ?_ _ | with_reducible refine Arr.next ?_ (by assumption) | with_reducible refine Box.next ?_ (by assumption) | refine Arr.oth ?_ (by first | (simp; done) | omega | (simp; omega)) _ | refine Box.oth ?_ (by first | (simp; done) | omega | (simp; omega)) _ | with_reducible exact Arr3.box (by assumption) | with_reducible exact Box3.new _ _ _ _ _ | with_reducible exact Arr3.new _ _ _ _ _ | with_reducible refine Arr3.drew ?_ | with_reducible refine Arr3.drewN ?_ _ | with_reducible refine Arr3.store3 ?_ | with_reducible refine Arr3.alloc ?_ _ | with_reducible refine Box3.drew ?_ | with_reducible refine Box3.drewN ?_ _ | with_reducible refine Box3.alloc ?_ _ | with_reducible refine Arr3.next ?_ (by assumption) | with_reducible refine Box3.next ?_ (by assumption) | refine Arr3.oth ?_ (by first | (simp; done) | omega | (simp; omega)) _ | refine Box3.oth ?_ (by first | (simp; done) | omega | (simp; omega)) _))) (first | (go_at_call_of 12 (Value.agg #[Value.int .i64 a, Value.int .i64 b, Value.int .i64 c, Value.int .i64 d]); refine (toForm_any a b c d _).mono ?_; rintro e za ⟨rfl, hba⟩; have hza := hba.size; (try simp at hza)) | (go_at_call_of 12 (Value.agg #[Value.int .i64 u, Value.int .i64 v, Value.int .i64 x, Value.int .i64 y]); refine (toForm_any u v x y _).mono ?_; rintro e zb ⟨rfl, hbb⟩; have hzb := hbb.size; (try simp at hzb)) | (go_at_call 13; refine (HP.out _).mono ?_; rintro e zc ⟨vv, rfl, hV, hbc⟩; have hzc := hbc.size; (try simp at hzc)))
    all_goals (go_wp2_with fail; go_meet; exact ⟨_, rfl, rfl, hV.base (by omega), hv0.below (C := wc.heap.size) (by (repeat' (first | with_reducible exact Below.refl _ _ | with_reducible assumption | with_reducible refine gr_alloc ?_ _ | with_reducible refine gr_drew ?_ | with_reducible refine gr_drewN ?_ _ | with_reducible refine gr_trans ?_ (by assumption) | with_reducible refine gr_set ?_ ?_ _ | (simp; done) | omega | (simp; omega)))) hle1, by omega, by (repeat (first | with_reducible assumption | with_reducible exact Arr.box (by assumption) | with_reducible exact Box.new _ _ _ _ _ _ | with_reducible exact Arr.new _ _ _ _ _ _ | with_reducible refine Arr.drew ?_ | with_reducible refine Arr.drewN ?_ _ | with_reducible refine Arr.store4 ?_ | with_reducible refine Arr.alloc ?_ _ | with_reducible refine Box.drew ?_ | with_reducible refine Box.drewN ?_ _ | with_reducible refine Box.alloc ?_ _ | with_reducible refine Arr.next ?_ (by assumption) | with_reducible refine Box.next ?_ (by assumption) | refine Arr.oth ?_ (by first | (simp; done) | omega | (simp; omega)) _ | refine Box.oth ?_ (by first | (simp; done) | omega | (simp; omega)) _ | with_reducible exact Arr3.box (by assumption) | with_reducible exact Box3.new _ _ _ _ _ | with_reducible exact Arr3.new _ _ _ _ _ | with_reducible refine Arr3.drew ?_ | with_reducible refine Arr3.drewN ?_ _ | with_reducible refine Arr3.store3 ?_ | with_reducible refine Arr3.alloc ?_ _ | with_reducible refine Box3.drew ?_ | with_reducible refine Box3.drewN ?_ _ | with_reducible refine Box3.alloc ?_ _ | with_reducible refine Arr3.next ?_ (by assumption) | with_reducible refine Box3.next ?_ (by assumption) | refine Arr3.oth ?_ (by first | (simp; done) | omega | (simp; omega)) _ | refine Box3.oth ?_ (by first | (simp; done) | omega | (simp; omega)) _)), by (repeat (first | with_reducible assumption | with_reducible exact Arr.box (by assumption) | with_reducible exact Box.new _ _ _ _ _ _ | with_reducible exact Arr.new _ _ _ _ _ _ | with_reducible refine Arr.drew ?_ | with_reducible refine Arr.drewN ?_ _ | with_reducible refine Arr.store4 ?_ | with_reducible refine Arr.alloc ?_ _ | with_reducible refine Box.drew ?_ | with_reducible refine Box.drewN ?_ _ | with_reducible refine Box.alloc ?_ _ | with_reducible refine Arr.next ?_ (by assumption) | with_reducible refine Box.next ?_ (by assumption) | refine Arr.oth ?_ (by first | (simp; done) | omega | (simp; omega)) _ | refine Box.oth ?_ (by first | (simp; done) | omega | (simp; omega)) _ | with_reducible exact Arr3.box (by assumption) | with_reducible exact Box3.new _ _ _ _ _ | with_reducible exact Arr3.new _ _ _ _ _ | with_reducible refine Arr3.drew ?_ | with_reducible refine Arr3.drewN ?_ _ | with_reducible refine Arr3.store3 ?_ | with_reducible refine Arr3.alloc ?_ _ | with_reducible refine Box3.drew ?_ | with_reducible refine Box3.drewN ?_ _ | with_reducible refine Box3.alloc ?_ _ | with_reducible refine Arr3.next ?_ (by assumption) | with_reducible refine Box3.next ?_ (by assumption) | refine Arr3.oth ?_ (by first | (simp; done) | omega | (simp; omega)) _ | refine Box3.oth ?_ (by first | (simp; done) | omega | (simp; omega)) _)), by (repeat' (first | with_reducible exact Below.refl _ _ | with_reducible assumption | with_reducible refine gr_alloc ?_ _ | with_reducible refine gr_drew ?_ | with_reducible refine gr_drewN ?_ _ | with_reducible refine gr_trans ?_ (by assumption) | with_reducible refine gr_set ?_ ?_ _ | (simp; done) | omega | (simp; omega)))⟩)
  case rest =>
  obtain ⟨u1, rfl, rfl, hW, hv1, hBz, hA2, hB2, hU2⟩ := hcut
  clear hA1 hB1 hU1 hUz1 hv0 hle1 hge1 hl0 hl1 a0 a1 a2 a3 b0 b1 b2 b3
  have hAlt := hA2.lt
  have hBlt := hB2.lt
  go_wp2_with fail
  refine (eqMX_any u1 v0 n g _ hW.rd (hv1.rd hBz)).mono ?_
  rintro e w5 ⟨rfl, hb5⟩
  have hz5 := hb5.size
  have A5 := hA2.next hb5
  have E5 := hB2.next hb5
  have U5 := gr_trans hU2 hb5
  have V5 := hv1.below hb5 hBz
  have W5 := hW.next hb5
  clear hA2 hB2 hU2 hv1 hW
  go_wp2_with fail
  refine (markMX_any B1 u1 n g _ W5 (by omega)).mono ?_
  rintro e w6 ⟨rfl, W6, hb6⟩
  have hz6 := hb6.size
  have A6 := A5.below hb6 hla
  have E6 := E5.below hb6 hlb
  have U6 : Below w.heap.size w w6 := U5.trans (hb6.mono hwB)
  have V6 := V5.below hb6 (Nat.le_refl _)
  clear A5 E5 U5 V5 W5
  go_wp2_with fail
  refine (heldMX_any B1 u1 n _ W6 (by omega)).mono ?_
  rintro e w7 ⟨rfl, hb7⟩
  have hz7 := hb7.size
  have A7 := A6.next hb7
  have E7 := E6.next hb7
  have U7 := gr_trans U6 hb7
  have V7 := V6.below hb7 (by omega)
  have W7 := W6.next hb7
  clear A6 E6 U6 V6 W6
  obtain ⟨hl0, a0, a1, a2, a3, _⟩ := id A7
  obtain ⟨hl1, b0, b1, b2, b3, _⟩ := id E7
  have hB7 : B1 ≤ w7.heap.size := by omega
  have hUz7 := U7.size
  go_upto_region 13 with fail
  go_cut [11, 12] (fun s11 s12 wx => ∃ u2, u2 = s11 ∧ s12 = .int .i64 k ∧ OwnX w7.heap.size wx u2 n g ∧ RdBX B1 wx v0 n g ∧ B1 ≤ wx.heap.size ∧ OwnX B1 wx u1 n (fun i => 1 + i) ∧ Below w.heap.size w wx)
  case first =>
    go_region_held3 (fun W => W.cell? ⟨kb, 0, none⟩ = some (.int .i64 u) ∧ W.cell? ⟨kb, 1, none⟩ = some (.int .i64 v) ∧ W.cell? ⟨kb, 2, none⟩ = some (.int .i64 x) ∧ W.cell? ⟨kb, 3, none⟩ = some (.int .i64 y) ∧ W.cell? ⟨ka, 0, none⟩ = some (.int .i64 a) ∧ W.cell? ⟨ka, 1, none⟩ = some (.int .i64 b) ∧ W.cell? ⟨ka, 2, none⟩ = some (.int .i64 c) ∧ W.cell? ⟨ka, 3, none⟩ = some (.int .i64 d)) (refine cells8A ?_ ?_ <;> (repeat (first | with_reducible assumption | with_reducible exact Arr.box (by assumption) | with_reducible exact Box.new _ _ _ _ _ _ | with_reducible exact Arr.new _ _ _ _ _ _ | with_reducible refine Arr.drew ?_ | with_reducible refine Arr.drewN ?_ _ | with_reducible refine Arr.store4 ?_ | with_reducible refine Arr.alloc ?_ _ | with_reducible refine Box.drew ?_ | with_reducible refine Box.drewN ?_ _ | with_reducible refine Box.alloc ?_ _ | with_reducible refine Arr.next ?_ (by assumption) | with_reducible refine Box.next ?_ (by assumption) | refine Arr.oth ?_ (by first | (simp; done) | omega | (simp; omega)) _ | refine Box.oth ?_ (by first | (simp; done) | omega | (simp; omega)) _ | with_reducible exact Arr3.box (by assumption) | with_reducible exact Box3.new _ _ _ _ _ | with_reducible exact Arr3.new _ _ _ _ _ | with_reducible refine Arr3.drew ?_ | with_reducible refine Arr3.drewN ?_ _ | with_reducible refine Arr3.store3 ?_ | with_reducible refine Arr3.alloc ?_ _ | with_reducible refine Box3.drew ?_ | with_reducible refine Box3.drewN ?_ _ | with_reducible refine Box3.alloc ?_ _ | with_reducible refine Arr3.next ?_ (by assumption) | with_reducible refine Box3.next ?_ (by assumption) | refine Arr3.oth ?_ (by first | (simp; done) | omega | (simp; omega)) _ | refine Box3.oth ?_ (by first | (simp; done) | omega | (simp; omega)) _))) (first | (go_at_call_of 12 (Value.agg #[Value.int .i64 a, Value.int .i64 b, Value.int .i64 c, Value.int .i64 d]); refine (toForm_any a b c d _).mono ?_; rintro e za ⟨rfl, hba⟩; have hza := hba.size; (try simp at hza)) | (go_at_call_of 12 (Value.agg #[Value.int .i64 u, Value.int .i64 v, Value.int .i64 x, Value.int .i64 y]); refine (toForm_any u v x y _).mono ?_; rintro e zb ⟨rfl, hbb⟩; have hzb := hbb.size; (try simp at hzb)) | (go_at_call 13; refine (HP.out _).mono ?_; rintro e zc ⟨vv, rfl, hV, hbc⟩; have hzc := hbc.size; (try simp at hzc)))
    all_goals (go_wp2_with fail; go_meet; exact ⟨_, rfl, rfl, hV.base (by omega), V7.below (C := w7.heap.size) (by (repeat' (first | with_reducible exact Below.refl _ _ | with_reducible assumption | with_reducible refine gr_alloc ?_ _ | with_reducible refine gr_drew ?_ | with_reducible refine gr_drewN ?_ _ | with_reducible refine gr_trans ?_ (by assumption) | with_reducible refine gr_set ?_ ?_ _ | (simp; done) | omega | (simp; omega)))) hB7, by omega, W7.next (by (repeat' (first | with_reducible exact Below.refl _ _ | with_reducible assumption | with_reducible refine gr_alloc ?_ _ | with_reducible refine gr_drew ?_ | with_reducible refine gr_drewN ?_ _ | with_reducible refine gr_trans ?_ (by assumption) | with_reducible refine gr_set ?_ ?_ _ | (simp; done) | omega | (simp; omega)))), by (repeat' (first | with_reducible exact Below.refl _ _ | with_reducible assumption | with_reducible refine gr_alloc ?_ _ | with_reducible refine gr_drew ?_ | with_reducible refine gr_drewN ?_ _ | with_reducible refine gr_trans ?_ (by assumption) | with_reducible refine gr_set ?_ ?_ _ | (simp; done) | omega | (simp; omega)))⟩)
  case rest =>
  obtain ⟨u2, rfl, rfl, hX, V9, hB9, W9, U9⟩ := hcut
  clear V7 W7 U7 A7 E7 hl0 hl1 a0 a1 a2 a3 b0 b1 b2 b3
  go_wp2_with fail
  refine (eqMX_any u2 v0 n g _ hX.rd (V9.rd hB9)).mono ?_
  rintro e w10 ⟨rfl, hb10⟩
  have U10 := gr_trans U9 hb10
  have W10 := W9.next hb10
  clear U9 V9 W9 hX
  go_wp2_with fail
  refine (heldMX_any B1 u1 n _ W10 (by omega)).mono ?_
  rintro e w11 ⟨rfl, hb11⟩
  go_wp2
  go_ret
  exact ⟨rfl, gr_trans U10 hb11⟩

set_option maxRecDepth 100000 in
set_option maxHeartbeats 1000000 in
theorem FnExactMatricesBetween_lifted (os : Os) (started : os.Started) (H : Type) (enc : TypeId × Value → H) :
    ReturnsInHanded {} Try.checked os 3 .any (Rows.fnExactMatricesBetweenSpec.pre6 enc Try.prog Try.f3 Rows.fnExactMatricesBetweenRow.domain false) (Rows.fnExactMatricesBetweenSpec.post enc Try.prog Try.f3 false true false false) := by
  refine returnsInHanded_of_change (C := Try.checked) own started (by kernel_rfl) Try.func3
    (ChangeSpec.witness6 (enc := enc) (C := Try.checked) false ⟨#[], #[.agg #[.int .i64 0, .int .i64 0, .int .i64 0, .int .i64 0], .agg #[.int .i64 0, .int .i64 0, .int .i64 0, .int .i64 0]], []⟩ 8 (by kernel_rfl) (by kernel_rfl) (by kernel_rfl) (by kernel_rfl)) ?_
  intro W base args ds gs before hval0 hW hcnd _
  have hval : ∀ (j : Nat) t v, Try.f3.params[j]? = some t → args[j]? = some v → Value.okWide Try.prog W .any base t v := hval0
  have hW' := hW
  obtain ⟨p, q, hA0, hV, rfl, hfz, hnd⟩ := hW
  have hA : DataW.TrodAll enc Try.prog W 0 (fun _ => true) true Try.f3.params.toList args.toList ds p := hA0
  rw [Try.params3] at hA hval
  obtain ⟨v0, vs0, d0, ds0, p0, q0, hargs, rfl, rfl, h0, r0⟩ := trodAll_cons hA
  obtain ⟨v1, vs1, d1, ds1, p1, q1, rfl, rfl, rfl, h1, r1⟩ := trodAll_cons r0
  obtain ⟨rfl, rfl, rfl⟩ := trodAll_nil r1
  obtain rfl : args = #[v0, v1] := by cases args; simp_all
  obtain ⟨rfl, rfl⟩ := trodVars_none hV
  have k0 := h0
  have lt0 : ∀ x ∈ p0, x.block < W.heap.size := by obtain ⟨m, hm⟩ := k0; exact DataW.trod_lt m _ _ _ hm
  obtain ⟨a0, b0, c0, e0, rfl, w0⟩ := open_arr4 Try.underlying22 Try.underlying2 (by kernel_rfl) (by kernel_rfl) (hval 0 22 v0 rfl rfl) h0
  have k1 := h1
  have lt1 : ∀ x ∈ p1, x.block < W.heap.size := by obtain ⟨m, hm⟩ := k1; exact DataW.trod_lt m _ _ _ hm
  obtain ⟨a1, b1, c1, e1, rfl, w1⟩ := open_arr4 Try.underlying22 Try.underlying2 (by kernel_rfl) (by kernel_rfl) (hval 1 22 v1 rfl rfl) h1
  clear hA0 hval0
  refine (FnExactMatricesBetween_walk a0 b0 c0 e0 w0 a1 b1 c1 e1 w1 W).mono fun e W' ⟨he, bel⟩ => ?_
  subst he
  exact ⟨_, rfl, _, _, _, [], _, [], hW', trodAll_mk1 (shut_bool Try.underlying4 _), (trodAll_cons_mk (Below.trod laidOut (by kernel_rfl) (of_decide_eq_true (by kernel_rfl)) k0 bel lt0) (trodAll_cons_mk (Below.trod laidOut (by kernel_rfl) (of_decide_eq_true (by kernel_rfl)) k1 bel lt1) trodAll_mk0)), rfl, bel.frame _, fun h => by cases h⟩

set_option maxRecDepth 100000 in
set_option maxHeartbeats 1000000 in
theorem FnExactMatricesBetween_closed : joinedFacts Try.prog 3 Try.f3 Rows.fnExactMatricesBetweenSpec Rows.fnExactMatricesBetweenRow = true := by
  unfold joinedFacts
  exact clo_and (clo_and (clo_and (clo_and (clo_and (clo_and (clo_and (clo_and (clo_and (clo_and (clo_and (clo_and (clo_and (clo_and (clo_and (clo_and (clo_and (clo_and (clo_and (clo_and (clo_and (clo_and (clo_and (clo_and (clo_and (clo_and (clo_and (clo_and (clo_and (clo_and (clo_and (by kernel_rfl) laidOut) (by kernel_rfl)) (by kernel_rfl)) (by kernel_rfl)) (by kernel_rfl)) (by kernel_rfl)) (by kernel_rfl)) (by kernel_rfl)) (by kernel_rfl)) (by kernel_rfl)) (by kernel_rfl)) (by kernel_rfl)) (by kernel_rfl)) (by kernel_rfl)) (by kernel_rfl)) (by kernel_rfl)) (by kernel_rfl)) (by kernel_rfl)) (by kernel_rfl)) (by kernel_rfl)) (by kernel_rfl)) (by kernel_rfl)) (by kernel_rfl)) (by kernel_rfl)) clo_enter) clo_lifts) clo_make) (by kernel_rfl)) (by kernel_rfl)) (by kernel_rfl)) (by kernel_rfl)

/-- THE STATEMENT. -/
theorem FnExactMatricesBetween_holds : Rows.FnExactMatricesBetweenSaid :=
  OpenClaim.holds_of_wide 3 Try.f3 rfl rfl rfl rfl rfl rfl rfl ⟨rfl, rfl, rfl, rfl, rfl⟩ rfl rfl rfl rfl rfl (by kernel_rfl) Try.func3 FnExactMatricesBetween_closed
    (of_decide_eq_true (by kernel_rfl)) (by unfold Func.isWrapper; first | (rw [if_pos (by decide +kernel)]; kernel_rfl) | (rw [if_neg (by decide +kernel)]; exact ⟨rfl, rfl⟩))
    (fun os started H enc _ => FnExactMatricesBetween_lifted os started H enc)
#print axioms FnExactMatricesBetween_holds

end Go.Proofs.Ytikmjefbjejbkaa
