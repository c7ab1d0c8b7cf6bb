/- Several texts in one: XC2a, XC2b. -/
import Derived.Test.YtikmjefbjejbkaaBbZ10
import Derived.Test.YtikmjefbjejbkaaBbSg

/- Chapter 2: which forms are reduced. -/
namespace Go.Proofs.Ytikmjefbjejbkaa
open Go.RowKit

/-- The code of one form. -/
def rcd (a b c d : Int) : Int := if isF a b c d then (if isR a b c d then (if dsc a b c d = 0 then 5 else 0) else 2) else 1
/-- The three margins: of a positive discriminant, of another one. -/
def mg1 (t : Bool) (a b c d : Int) : Int := if t then b * b - 3 * a * c - (b * c - 9 * a * d) else a * d - b * c + (a - b) * (a - b) + a * c
def mg2 (t : Bool) (a b c d : Int) : Int := if t then b * b - 3 * a * c + (b * c - 9 * a * d) else (a + b) * (a + b) + a * c - (a * d - b * c)
def mg3 (t : Bool) (a b c d : Int) : Int := if t then c * c - 3 * b * d - (b * b - 3 * a * c) else d * d - a * a - b * d + a * c

set_option maxRecDepth 100000 in
set_option maxHeartbeats 1000000 in
theorem iMargins_any (a b c d n : Int) (w : World) :
    Calls Try.prog 118 #[.agg #[.int .i64 a, .int .i64 b, .int .i64 c, .int .i64 d], .int .i64 n] w fun e w' => e = .returned (.tuple #[.int .i64 (wrap64 (mg1 (decide (0 < n)) a b c d)), .int .i64 (wrap64 (mg2 (decide (0 < n)) a b c d)), .int .i64 (wrap64 (mg3 (decide (0 < n)) a b c d))]) ∧ Below w.heap.size w w' := by
  have A0 := Arr.new w a b c d 26
  have U0 := gr_alloc (Below.refl w.heap.size w) (.cells #[.int .i64 a, .int .i64 b, .int .i64 c, .int .i64 d] 26)
  by_cases hn : 0 < n
  · go_enter Try.func118, Try.ntmps118
    obtain ⟨_, a0, a1, a2, a3, _⟩ := id A0
    go_wp2_with (go_at_call 148; refine (iHess_any a b c d _).mono ?_; rintro e w1 ⟨rfl, hb1⟩)
    go_ret3
    exact ⟨ret_tup3 (by simp only [mg1, hn, decide_true, if_true, wr_sl, wr_sr, hs1, hs2]) (by simp only [mg2, hn, decide_true, if_true, wr_al, wr_ar, hs1, hs2]) (by simp only [mg3, hn, decide_true, if_true, wr_sl, wr_sr, hs1, hs3]), by (repeat' (first | with_reducible exact Below.refl _ _ | with_reducible assumption | with_reducible refine gr_alloc ?_ _ | with_reducible refine gr_drew ?_ | with_reducible refine gr_drewN ?_ _ | with_reducible refine gr_trans ?_ (by assumption) | with_reducible refine gr_set ?_ ?_ _ | (simp; done) | omega | (simp; omega)))⟩
  · have hn' : decide (0 < n) = false := by simpa using hn
    go_enter Try.func118, Try.ntmps118
    go_upto_region 1 with fail
    generalize w.alloc (.cells #[.int .i64 a, .int .i64 b, .int .i64 c, .int .i64 d] 26) = W0 at A0 U0 ⊢
    obtain ⟨_, a0, a1, a2, a3, _⟩ := id A0
    go_wp2_with fail
    go_quiet (fail)
    go_wp2
    go_ret3
    exact ⟨ret_tup3 (by simp only [mg1, hn', Bool.false_eq_true, if_false, wr_al, wr_ar, wr_sl, wr_sr, wr_ml, wr_mr]) (by simp only [mg2, hn', Bool.false_eq_true, if_false, wr_al, wr_ar, wr_sl, wr_sr, wr_ml, wr_mr]) (by simp only [mg3, hn', Bool.false_eq_true, if_false, wr_al, wr_ar, wr_sl, wr_sr]), by (repeat' (first | with_reducible exact Below.refl _ _ | with_reducible assumption | with_reducible refine gr_alloc ?_ _ | with_reducible refine gr_drew ?_ | with_reducible refine gr_drewN ?_ _ | with_reducible refine gr_trans ?_ (by assumption) | with_reducible refine gr_set ?_ ?_ _ | (simp; done) | omega | (simp; omega)))⟩

def nn3 (x y z : Int) : Bool := decide (0 ≤ x) && decide (0 ≤ y) && decide (0 ≤ z)
set_option maxHeartbeats 400000 in
theorem iIsRed0_any (a b c d n : Int) (w : World) :
    Calls Try.prog 73 #[.agg #[.int .i64 a, .int .i64 b, .int .i64 c, .int .i64 d], .int .i64 n] w fun e w' => e = .returned (.bool (nn3 (wrap64 (mg1 (decide (0 < n)) a b c d)) (wrap64 (mg2 (decide (0 < n)) a b c d)) (wrap64 (mg3 (decide (0 < n)) a b c d)))) ∧ Below w.heap.size w w' := by
  have hc := fun W => iMargins_any a b c d n W
  generalize wrap64 (mg1 (decide (0 < n)) a b c d) = x at hc ⊢
  generalize wrap64 (mg2 (decide (0 < n)) a b c d) = y at hc ⊢
  generalize wrap64 (mg3 (decide (0 < n)) a b c d) = z at hc ⊢
  have HC := hid hc
  clear hc
  go_enter Try.func73, Try.ntmps73
  go_wp2_with fail
  refine (HC.out _).mono ?_
  rintro e w1 ⟨rfl, hb1⟩
  go_wp2
  all_goals (go_ret; exact ⟨ret_bool (by go_light; rw [Bool.eq_iff_iff]; simp [nn3]; try omega), by (repeat' (first | with_reducible exact Below.refl _ _ | with_reducible assumption | with_reducible refine gr_alloc ?_ _ | with_reducible refine gr_drew ?_ | with_reducible refine gr_drewN ?_ _ | with_reducible refine gr_trans ?_ (by assumption) | with_reducible refine gr_set ?_ ?_ _ | (simp; done) | omega | (simp; omega)))⟩)


set_option maxRecDepth 100000 in
set_option maxHeartbeats 1000000 in
theorem iSep1_any (k : Nat) (a b c d : Int) (w : World) (hA : Arr w k a b c d) :
    Calls Try.prog 85 #[.int .i64 100, .slice (some ⟨k, 0, none⟩) 1 1] w fun e w' => e = .returned (.int .i64 (rcd a b c d)) ∧ Below w.heap.size w w' := by
  have hl := hA.lt
  obtain ⟨_, a0, a1, a2, a3, _⟩ := id hA
  have U0 := Below.refl w.heap.size w
  go_enter Try.func85, Try.ntmps85
  go_wp2_with fail
  refine wp_loop_rounds 2 ?_
  rw [rounds_succ]; go_wp2_with fail
  refine (iIsForm_any a b c d _).mono ?_
  rintro e w1 ⟨rfl, hb1⟩
  have A1 := (hA.alloc (.cells #[.int .i64 a, .int .i64 b, .int .i64 c, .int .i64 d] 26)).next hb1
  have U1 := gr_trans (gr_alloc U0 (.cells #[.int .i64 a, .int .i64 b, .int .i64 c, .int .i64 d] 26)) hb1
  clear a0 a1 a2 a3 hA U0 hl
  by_cases hf : isF a b c d = true
  · have hl := A1.lt
    obtain ⟨_, a0, a1, a2, a3, _⟩ := id A1
    go_wp2_with fail
    rw [rounds_succ]; go_wp2_with fail
    refine wp_loop_rounds 2 ?_
    rw [rounds_succ]; go_wp2_with fail
    refine (allWithin100_any _ a b c d _ (Arr.new _ _ _ _ _ _)).mono ?_
    rintro e w2 ⟨rfl, rfl⟩
    by_cases hr : isR a b c d = true
    · go_wp2_with fail
      rw [rounds_succ]; go_wp2_with fail
      refine wp_loop_rounds 2 ?_
      rw [rounds_succ]; go_wp2_with fail
      have hs := fun W => iSign_any a b c d W
      by_cases hd : dsc a b c d = 0
      · rw [hd] at hs
        have HS := hid hs
        have HD := hid hd
        clear hs hd
        refine (HS.out _).mono ?_
        rintro e w3 ⟨rfl, hb3⟩
        simp only [sg]
        go_wp2
        go_ret
        exact ⟨ret_int (by simp [rcd, hf, hr, HD.out]), by (repeat' (first | with_reducible exact Below.refl _ _ | with_reducible assumption | with_reducible refine gr_alloc ?_ _ | with_reducible refine gr_drew ?_ | with_reducible refine gr_drewN ?_ _ | with_reducible refine gr_trans ?_ (by assumption) | with_reducible refine gr_set ?_ ?_ _ | (simp; done) | omega | (simp; omega)))⟩
      · have hg : sg (dsc a b c d) = 1 ∨ sg (dsc a b c d) = -1 := by unfold sg; split <;> (try split) <;> omega
        have HD := hid hd
        clear hd
        rcases hg with hg | hg
        all_goals
          rw [hg] at hs
          have HS := hid hs
          clear hs hg
          refine (HS.out _).mono ?_
          rintro e w3 ⟨rfl, hb3⟩
          go_wp2_with fail
          rw [rounds_succ]; go_wp2_with fail
          go_ret
          exact ⟨ret_int (by simp [rcd, hf, hr, HD.out]), by (repeat' (first | with_reducible exact Below.refl _ _ | with_reducible assumption | with_reducible refine gr_alloc ?_ _ | with_reducible refine gr_drew ?_ | with_reducible refine gr_drewN ?_ _ | with_reducible refine gr_trans ?_ (by assumption) | with_reducible refine gr_set ?_ ?_ _ | (simp; done) | omega | (simp; omega)))⟩
    · have hr' : isR a b c d = false := by simpa using hr
      clear hr
      go_wp2_with fail
      go_ret
      exact ⟨ret_int (by simp [rcd, hf, hr']), by (repeat' (first | with_reducible exact Below.refl _ _ | with_reducible assumption | with_reducible refine gr_alloc ?_ _ | with_reducible refine gr_drew ?_ | with_reducible refine gr_drewN ?_ _ | with_reducible refine gr_trans ?_ (by assumption) | with_reducible refine gr_set ?_ ?_ _ | (simp; done) | omega | (simp; omega)))⟩
  · have hf' : isF a b c d = false := by simpa using hf
    clear hf
    go_wp2_with fail
    go_ret
    exact ⟨ret_int (by simp [rcd, hf']), by (repeat' (first | with_reducible exact Below.refl _ _ | with_reducible assumption | with_reducible refine gr_alloc ?_ _ | with_reducible refine gr_drew ?_ | with_reducible refine gr_drewN ?_ _ | with_reducible refine gr_trans ?_ (by assumption) | with_reducible refine gr_set ?_ ?_ _ | (simp; done) | omega | (simp; omega)))⟩
set_option maxHeartbeats 400000 in
theorem iCheck1_any (k : Nat) (a b c d : Int) (w : World) (hA : Arr w k a b c d) :
    Calls Try.prog 52 #[.slice (some ⟨k, 0, none⟩) 1 1] w fun e w' => e = .returned (.int .i64 (rcd a b c d)) ∧ Below w.heap.size w w' := by
  go_enter Try.func52, Try.ntmps52
  go_wp2_with fail
  refine (iSep1_any k a b c d _ hA).mono ?_
  rintro e w1 ⟨rfl, hb1⟩
  go_wp2
  go_ret
  exact ⟨rfl, hb1⟩


end Go.Proofs.Ytikmjefbjejbkaa

/- Chapter 2: which forms are reduced: the program whole, and the model. -/
namespace Go.Proofs.Ytikmjefbjejbkaa
open Go.RowKit

/-- Is a form (of numbers of at most 100, of a discriminant other than 0) reduced? -/
def rdd (a b c d : Int) : Bool := nn3 (mg1 (decide (0 < dsc a b c d)) a b c d) (mg2 (decide (0 < dsc a b c d)) a b c d) (mg3 (decide (0 < dsc a b c d)) a b c d)
def rd0 (a b c d : Int) : Bool := decide (rcd a b c d = 0) && rdd a b c d
theorem ret_bi {a b : Bool} {c d : Int} (h : a = b) (h' : c = d) : Ending.returned (.tuple #[.bool a, .int .i64 c]) = .returned (.tuple #[.bool b, .int .i64 d]) := by rw [h, h']
theorem sg_pos (x : Int) : decide (0 < sg x) = decide (0 < x) := by
  unfold sg; split <;> (try split) <;> simp_all
theorem rcd_0 {a b c d : Int} (h : rcd a b c d = 0) : isF a b c d = true ∧ isR a b c d = true ∧ dsc a b c d ≠ 0 := by
  unfold rcd at h
  split at h <;> (try split at h) <;> (try split at h) <;> simp_all
theorem mg_wr {a b c d : Int} (h : isR a b c d = true) (t : Bool) : wrap64 (mg1 t a b c d) = mg1 t a b c d ∧ wrap64 (mg2 t a b c d) = mg2 t a b c d ∧ wrap64 (mg3 t a b c d) = mg3 t a b c d := by
  obtain ⟨ha, hb, hc, hd⟩ := isR_t h
  have bb := mulb hb hb; have ac := mulb (mulb (show -3 ≤ (3 : Int) ∧ (3 : Int) ≤ 3 by omega) ha) hc; have bc := mulb hb hc
  have ad := mulb (mulb (show -9 ≤ (9 : Int) ∧ (9 : Int) ≤ 9 by omega) ha) hd; have cc := mulb hc hc; have bd := mulb (mulb (show -3 ≤ (3 : Int) ∧ (3 : Int) ≤ 3 by omega) hb) hd
  have ad1 := mulb ha hd; have ac1 := mulb ha hc; have dd := mulb hd hd; have aa := mulb ha ha; have bd1 := mulb hb hd
  have mm := mulb (show -200 ≤ a - b ∧ a - b ≤ 200 by omega) (show -200 ≤ a - b ∧ a - b ≤ 200 by omega)
  have pp := mulb (show -200 ≤ a + b ∧ a + b ≤ 200 by omega) (show -200 ≤ a + b ∧ a + b ≤ 200 by omega)
  simp only [Int.reduceMul] at bb ac bc ad cc bd ad1 ac1 dd aa bd1 mm pp
  refine ⟨wr_in ?_, wr_in ?_, wr_in ?_⟩
  · unfold mg1; split <;> omega
  · unfold mg2; split <;> omega
  · unfold mg3; split <;> omega

set_option maxHeartbeats 1000000 in
theorem iIsReduced_any (a b c d : Int) (w : World) :
    Calls Try.prog 27 #[.agg #[.int .i64 a, .int .i64 b, .int .i64 c, .int .i64 d]] w fun e w' => e = .returned (.tuple #[.bool (rd0 a b c d), .int .i64 (rcd a b c d)]) ∧ Below w.heap.size w w' := by
  have A0 := (Arr.new w a b c d 26).alloc (.cells #[.int .i64 a, .int .i64 b, .int .i64 c, .int .i64 d] 26)
  have B0 := Arr.new (w.alloc (.cells #[.int .i64 a, .int .i64 b, .int .i64 c, .int .i64 d] 26)) a b c d 26
  have U0 := gr_alloc (gr_alloc (Below.refl w.heap.size w) (.cells #[.int .i64 a, .int .i64 b, .int .i64 c, .int .i64 d] 26)) (.cells #[.int .i64 a, .int .i64 b, .int .i64 c, .int .i64 d] 26)
  simp only [World.size_alloc] at B0
  go_enter Try.func27, Try.ntmps27
  go_wp2_with fail
  refine (iCheck1_any _ a b c d _ B0).mono ?_
  rintro e w1 ⟨rfl, hb1⟩
  have A1 := A0.next hb1
  have U1 := gr_trans U0 hb1
  clear A0 B0 U0
  obtain ⟨_, a0, a1, a2, a3, _⟩ := id A1
  by_cases hk : rcd a b c d = 0
  · obtain ⟨hf, hr, hd⟩ := rcd_0 hk
    have hs := fun W => iSign_any a b c d W
    have hi := fun W => iIsRed0_any a b c d (sg (dsc a b c d)) W
    rw [sg_pos, (mg_wr hr _).1, (mg_wr hr _).2.1, (mg_wr hr _).2.2] at hi
    have HS := hid hs
    have HI := hid hi
    have HK := hid hk
    clear hs hi hf hr hd
    simp only [HK.out]
    clear hk a0 a1 a2 a3
    have hl := A1.lt
    obtain ⟨_, a0, a1, a2, a3, _⟩ := id A1
    go_upto_region 4 with fail
    go_region_held3 (fun W => W.cell? ⟨w.heap.size, 0, none⟩ = some (.int .i64 a) ∧ W.cell? ⟨w.heap.size, 1, none⟩ = some (.int .i64 b) ∧ W.cell? ⟨w.heap.size, 2, none⟩ = some (.int .i64 c) ∧ W.cell? ⟨w.heap.size, 3, none⟩ = some (.int .i64 d)) (refine cells4 ?_ <;> (repeat (first | with_reducible assumption | with_reducible exact Arr.box (by assumption) | with_reducible exact Box.new _ _ _ _ _ _ | with_reducible exact Arr.new _ _ _ _ _ _ | with_reducible refine Arr.drew ?_ | with_reducible refine Arr.drewN ?_ _ | with_reducible refine Arr.store4 ?_ | with_reducible refine Arr.alloc ?_ _ | with_reducible refine Box.drew ?_ | with_reducible refine Box.drewN ?_ _ | with_reducible refine Box.alloc ?_ _ | with_reducible refine Arr.next ?_ (by assumption) | with_reducible refine Box.next ?_ (by assumption) | refine Arr.oth ?_ (by first | (simp; done) | omega | (simp; omega)) _ | refine Box.oth ?_ (by first | (simp; done) | omega | (simp; omega)) _))) (first | (go_at_call 74; refine (HS.out _).mono ?_; rintro e w2 ⟨rfl, hb2⟩) | (go_at_call 73; refine (HI.out _).mono ?_; rintro e w3 ⟨rfl, hb3⟩))
    go_wp2
    go_ret2
    exact ⟨ret_bi (by simp [rd0, rdd, HK.out]) (by simp [HK.out]), by (repeat' (first | with_reducible exact Below.refl _ _ | with_reducible assumption | with_reducible refine gr_alloc ?_ _ | with_reducible refine gr_drew ?_ | with_reducible refine gr_drewN ?_ _ | with_reducible refine gr_trans ?_ (by assumption) | with_reducible refine gr_set ?_ ?_ _ | (simp; done) | omega | (simp; omega)))⟩
  · have HK := hid hk
    have hk' : (rcd a b c d == 0) = false := by simpa using hk
    clear hk
    go_wp2
    go_ret2
    exact ⟨ret_bi (by simp [rd0, HK.out]) rfl, by (repeat' (first | with_reducible exact Below.refl _ _ | with_reducible assumption | with_reducible refine gr_alloc ?_ _ | with_reducible refine gr_drew ?_ | with_reducible refine gr_drewN ?_ _ | with_reducible refine gr_trans ?_ (by assumption) | with_reducible refine gr_set ?_ ?_ _ | (simp; done) | omega | (simp; omega)))⟩

end Go.Proofs.Ytikmjefbjejbkaa
