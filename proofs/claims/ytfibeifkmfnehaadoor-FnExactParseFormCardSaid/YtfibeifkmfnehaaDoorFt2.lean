/- Numbers and forms as texts, in the model. -/
import Derived.Test.YtfibeifkmfnehaaDoorFt1
namespace Go.Proofs.YtfibeifkmfnehaaDoor
open Go.RowKit

set_option maxRecDepth 100000 in
set_option maxHeartbeats 1000000 in
theorem sDec0_any (n : Int) (w : World) (h0 : 0 ≤ n) (h1 : n ≤ 1000) :
    Calls Tryd.prog 22 #[.int .i64 n] w fun e w' => e = .returned (.string ⟨(Lib.itoa n).toArray⟩) ∧ Below w.heap.size w w' := by
  by_cases c1 : n < 10
  · exact sDec1_any n w h0 c1
  · refine sDec2_any n w (by omega) h1 fun W1 => ?_
    by_cases c2 : n / 10 < 10
    · exact sDec1_any _ W1 (by omega) c2
    · refine sDec2_any _ W1 (by omega) (by omega) fun W2 => ?_
      by_cases c3 : n / 10 / 10 < 10
      · exact sDec1_any _ W2 (by omega) c3
      · exact sDec2_any _ W2 (by omega) (by omega) fun W3 => sDec1_any _ W3 (by omega) (by omega)

theorem itoa_bd {n : Int} (h : -1000 ≤ n ∧ n ≤ 1000) : (Lib.itoa n).length ≤ 6 := by
  by_cases h0 : n < 0
  · rw [itoa_ng h0]
    have := itoa_len 4 (-n) (by omega) (by show -n < 10000; omega)
    simp; omega
  · have := itoa_len 4 n (by omega) (by show n < 10000; omega)
    omega

set_option maxRecDepth 100000 in
set_option maxHeartbeats 1000000 in
theorem sDec_any (n : Int) (w : World) (h : -1000 ≤ n ∧ n ≤ 1000) :
    Calls Tryd.prog 22 #[.int .i64 n] w fun e w' => e = .returned (.string ⟨(Lib.itoa n).toArray⟩) ∧ Below w.heap.size w w' := by
  by_cases h0 : 0 ≤ n
  · exact sDec0_any n w h0 h.2
  · have hc := fun W => sDec0_any (-n) W (by omega) (by omega)
    have hl : (Lib.itoa (-n)).length ≤ 6 := itoa_bd (by omega)
    have hadd : ∀ W : World, (Op.stringOp .add ⟨#[45]⟩ ⟨(Lib.itoa (-n)).toArray⟩).run Tryd.prog W = .ok (.string ⟨(45 :: Lib.itoa (-n)).toArray⟩) W := fun W => run_string_add_lists W [45] (Lib.itoa (-n)) (by simp) (by omega)
    have e1 : IntKind.i64.wrap (-n) = -n := by rw [IntWalk.i64_left]; exact wr_in (by omega)
    have e2 : wrap64 (-n) = -n := wr_in (by omega)
    have h0' : n < 0 := by omega
    rw [itoa_ng h0']
    generalize Lib.itoa (-n) = L at hc hadd ⊢
    obtain ⟨m, hm⟩ : ∃ m, m = -n := ⟨_, rfl⟩
    have e3 : IntKind.i64.wrap (-n) = m := e1.trans hm.symm
    have e4 : wrap64 (-n) = m := e2.trans hm.symm
    rw [← hm] at hc
    clear e1 e2 hm
    have HC := hid hc
    clear hc
    go_enter Tryd.func22, Tryd.ntmps22
    go_wp2_with fail
    refine (HC.out _).mono ?_
    rintro e w1 ⟨rfl, hb1⟩
    go_wp2_with fail
    go_ret
    exact ⟨rfl, by (repeat' (first | with_reducible exact Below.refl _ _ | with_reducible assumption | with_reducible refine gr_alloc ?_ _ | with_reducible refine gr_drew ?_ | with_reducible refine gr_drewN ?_ _ | with_reducible refine gr_trans ?_ (by assumption) | with_reducible refine gr_set ?_ ?_ _ | (simp; done) | omega | (simp; omega)))⟩

/-- The text of a form. -/
def txt (a b c d : Int) : List UInt8 := Lib.itoa a ++ [44] ++ Lib.itoa b ++ [44] ++ Lib.itoa c ++ [44] ++ Lib.itoa d

set_option maxRecDepth 100000 in
set_option maxHeartbeats 2000000 in
theorem sText_any (a b c d : Int) (w : World) (ha : -1000 ≤ a ∧ a ≤ 1000) (hb : -1000 ≤ b ∧ b ≤ 1000) (hc : -1000 ≤ c ∧ c ≤ 1000) (hd : -1000 ≤ d ∧ d ≤ 1000) :
    Calls Tryd.prog 12 #[.agg #[.int .i64 a, .int .i64 b, .int .i64 c, .int .i64 d]] w fun e w' => e = .returned (.string ⟨(txt a b c d).toArray⟩) ∧ Below w.heap.size w w' := by
  have A0 := Arr.new w a b c d 25
  have U0 := gr_alloc (Below.refl w.heap.size w) (.cells #[.int .i64 a, .int .i64 b, .int .i64 c, .int .i64 d] 25)
  have h1 := fun n h W => sDec_any n W h
  have l1 := itoa_bd ha; have l2 := itoa_bd hb; have l3 := itoa_bd hc; have l4 := itoa_bd hd
  unfold txt
  generalize Lib.itoa = f at h1 l1 l2 l3 l4 ⊢
  have add : ∀ (x y : List UInt8), x.length ≤ 100 → y.length ≤ 100 → ∀ W : World, (Op.stringOp .add ⟨x.toArray⟩ ⟨y.toArray⟩).run Tryd.prog W = .ok (.string ⟨(x ++ y).toArray⟩) W := fun x y hx hy W => run_string_add_lists W x y (by omega) (by omega)
  have a1 := add (f a) [44] (by omega) (by simp)
  have a2 := add ((f a) ++ [44]) (f b) (by simp; omega) (by omega)
  have a3 := add ((f a) ++ [44] ++ (f b)) [44] (by simp; omega) (by simp)
  have a4 := add ((f a) ++ [44] ++ (f b) ++ [44]) (f c) (by simp; omega) (by omega)
  have a5 := add ((f a) ++ [44] ++ (f b) ++ [44] ++ (f c)) [44] (by simp; omega) (by simp)
  have a6 := add ((f a) ++ [44] ++ (f b) ++ [44] ++ (f c) ++ [44]) (f d) (by simp; omega) (by omega)
  generalize (f a) ++ [44] ++ (f b) ++ [44] ++ (f c) ++ [44] ++ (f d) = M6 at a6 ⊢
  generalize (f a) ++ [44] ++ (f b) ++ [44] ++ (f c) ++ [44] = M5 at a6 a5
  generalize (f a) ++ [44] ++ (f b) ++ [44] ++ (f c) = M4 at a5 a4
  generalize (f a) ++ [44] ++ (f b) ++ [44] = M3 at a4 a3
  generalize (f a) ++ [44] ++ (f b) = M2 at a3 a2
  generalize (f a) ++ [44] = M1 at a2 a1
  have H1 := hid h1
  clear h1 add l1 l2 l3 l4
  go_enter Tryd.func12, Tryd.ntmps12
  go_upto_region 1 with fail
  generalize w.alloc (.cells #[.int .i64 a, .int .i64 b, .int .i64 c, .int .i64 d] 25) = W0 at A0 U0 ⊢
  obtain ⟨_, c0, c1, c2, c3, _⟩ := id A0
  go_region_held3 (fun W => W.cell? ⟨w.heap.size, 0, none⟩ = some (.int .i64 a) ∧ W.cell? ⟨w.heap.size, 1, none⟩ = some (.int .i64 b) ∧ W.cell? ⟨w.heap.size, 2, none⟩ = some (.int .i64 c) ∧ W.cell? ⟨w.heap.size, 3, none⟩ = some (.int .i64 d)) (refine cells4 ?_ <;> (repeat (first | with_reducible assumption | with_reducible exact Arr.box (by assumption) | with_reducible exact Box.new _ _ _ _ _ _ | with_reducible exact Arr.new _ _ _ _ _ _ | with_reducible refine Arr.drew ?_ | with_reducible refine Arr.drewN ?_ _ | with_reducible refine Arr.store4 ?_ | with_reducible refine Arr.alloc ?_ _ | with_reducible refine Box.drew ?_ | with_reducible refine Box.drewN ?_ _ | with_reducible refine Box.alloc ?_ _ | with_reducible refine Arr.next ?_ (by assumption) | with_reducible refine Box.next ?_ (by assumption) | refine Arr.oth ?_ (by first | (simp; done) | omega | (simp; omega)) _ | refine Box.oth ?_ (by first | (simp; done) | omega | (simp; omega)) _ | with_reducible exact Arr3.box (by assumption) | with_reducible exact Box3.new _ _ _ _ _ | with_reducible exact Arr3.new _ _ _ _ _ | with_reducible refine Arr3.drew ?_ | with_reducible refine Arr3.drewN ?_ _ | with_reducible refine Arr3.store3 ?_ | with_reducible refine Arr3.alloc ?_ _ | with_reducible refine Box3.drew ?_ | with_reducible refine Box3.drewN ?_ _ | with_reducible refine Box3.alloc ?_ _ | with_reducible refine Arr3.next ?_ (by assumption) | with_reducible refine Box3.next ?_ (by assumption) | refine Arr3.oth ?_ (by first | (simp; done) | omega | (simp; omega)) _ | refine Box3.oth ?_ (by first | (simp; done) | omega | (simp; omega)) _))) ((go_at_call 22; refine (H1.out _ (by assumption) _).mono ?_; rintro e wa ⟨rfl, hba⟩))
  all_goals (go_wp2_with fail; go_ret; exact ⟨rfl, by (repeat' (first | with_reducible exact Below.refl _ _ | with_reducible assumption | with_reducible refine gr_alloc ?_ _ | with_reducible refine gr_drew ?_ | with_reducible refine gr_drewN ?_ _ | with_reducible refine gr_trans ?_ (by assumption) | with_reducible refine gr_set ?_ ?_ _ | (simp; done) | omega | (simp; omega)))⟩)

set_option maxRecDepth 100000 in
set_option maxHeartbeats 2000000 in
theorem sFormText_any (a b c d : Int) (w : World) :
    Calls Tryd.prog 5 #[.agg #[.int .i64 a, .int .i64 b, .int .i64 c, .int .i64 d]] w fun e w' => e = .returned (.tuple #[.string ⟨(if isF a b c d then txt a b c d else []).toArray⟩, .int .i64 (cif a b c d)]) ∧ Below w.heap.size w w' := by
  have hf := fun W => l01Is_any a b c d W
  have A0 := Arr.new w a b c d 25
  have U0 := gr_alloc (Below.refl w.heap.size w) (.cells #[.int .i64 a, .int .i64 b, .int .i64 c, .int .i64 d] 25)
  cases h : isF a b c d with
  | false =>
    have e : cif a b c d = 1 := by simp [cif, h]
    rw [h] at hf; rw [e]
    simp only [Bool.false_eq_true, if_false]
    have HF := hid hf
    clear hf
    go_enter Tryd.func5, Tryd.ntmps5
    obtain ⟨_, c0, c1, c2, c3, _⟩ := id A0
    go_wp2_with (go_at_call 11; refine (HF.out _).mono ?_; rintro e w1 ⟨rfl, hb1⟩)
    go_ret2
    exact ⟨rfl, by (repeat' (first | with_reducible exact Below.refl _ _ | with_reducible assumption | with_reducible refine gr_alloc ?_ _ | with_reducible refine gr_drew ?_ | with_reducible refine gr_drewN ?_ _ | with_reducible refine gr_trans ?_ (by assumption) | with_reducible refine gr_set ?_ ?_ _ | (simp; done) | omega | (simp; omega)))⟩
  | true =>
    obtain ⟨ha, hb, hc, hd⟩ := isF_t h
    have ht := fun W => sText_any a b c d W ha hb hc hd
    have e : cif a b c d = 0 := by simp [cif, h]
    rw [h] at hf; rw [e]
    simp only [if_true]
    generalize txt a b c d = L at ht ⊢
    have HF := hid hf; have HT := hid ht
    clear hf ht ha hb hc hd
    go_enter Tryd.func5, Tryd.ntmps5
    obtain ⟨_, c0, c1, c2, c3, _⟩ := id A0
    go_wp2_with fail
    refine (HF.out _).mono ?_
    rintro e w1 ⟨rfl, hb1⟩
    have A1 := A0.next hb1
    clear c0 c1 c2 c3
    obtain ⟨_, c0, c1, c2, c3, _⟩ := id A1
    go_wp2_with fail
    refine (HT.out _).mono ?_
    rintro e w2 ⟨rfl, hb2⟩
    go_wp2_with fail
    go_ret2
    exact ⟨rfl, by (repeat' (first | with_reducible exact Below.refl _ _ | with_reducible assumption | with_reducible refine gr_alloc ?_ _ | with_reducible refine gr_drew ?_ | with_reducible refine gr_drewN ?_ _ | with_reducible refine gr_trans ?_ (by assumption) | with_reducible refine gr_set ?_ ?_ _ | (simp; done) | omega | (simp; omega)))⟩

end Go.Proofs.YtfibeifkmfnehaaDoor
