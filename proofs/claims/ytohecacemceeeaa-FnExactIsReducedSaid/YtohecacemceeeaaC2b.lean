/- Chapter 2: which forms are reduced: the program whole, and the model. -/
import Derived.Test.YtohecacemceeeaaC2a
namespace Go.Proofs.Ytohecacemceeeaa
open Go.RowKit

/-- Is a form (of numbers of at most 100, of a discriminant other than 0) reduced? -/
def rdd (a b c d : Int) : Bool := nn3 (mg1 (decide (0 < dsc a b c d)) a b c d) (mg2 (decide (0 < dsc a b c d)) a b c d) (mg3 (decide (0 < dsc a b c d)) a b c d)
def rd0 (a b c d : Int) : Bool := decide (rcd a b c d = 0) && rdd a b c d
theorem ret_bi {a b : Bool} {c d : Int} (h : a = b) (h' : c = d) : Ending.returned (.tuple #[.bool a, .int .i64 c]) = .returned (.tuple #[.bool b, .int .i64 d]) := by rw [h, h']
theorem sg_pos (x : Int) : decide (0 < sg x) = decide (0 < x) := by
  unfold sg; split <;> (try split) <;> simp_all
theorem rcd_0 {a b c d : Int} (h : rcd a b c d = 0) : isF a b c d = true ∧ isR a b c d = true ∧ dsc a b c d ≠ 0 := by
  unfold rcd at h
  split at h <;> (try split at h) <;> (try split at h) <;> simp_all
theorem mg_wr {a b c d : Int} (h : isR a b c d = true) (t : Bool) : wrap64 (mg1 t a b c d) = mg1 t a b c d ∧ wrap64 (mg2 t a b c d) = mg2 t a b c d ∧ wrap64 (mg3 t a b c d) = mg3 t a b c d := by
  obtain ⟨ha, hb, hc, hd⟩ := isR_t h
  have bb := mulb hb hb; have ac := mulb (mulb (show -3 ≤ (3 : Int) ∧ (3 : Int) ≤ 3 by omega) ha) hc; have bc := mulb hb hc
  have ad := mulb (mulb (show -9 ≤ (9 : Int) ∧ (9 : Int) ≤ 9 by omega) ha) hd; have cc := mulb hc hc; have bd := mulb (mulb (show -3 ≤ (3 : Int) ∧ (3 : Int) ≤ 3 by omega) hb) hd
  have ad1 := mulb ha hd; have ac1 := mulb ha hc; have dd := mulb hd hd; have aa := mulb ha ha; have bd1 := mulb hb hd
  have mm := mulb (show -200 ≤ a - b ∧ a - b ≤ 200 by omega) (show -200 ≤ a - b ∧ a - b ≤ 200 by omega)
  have pp := mulb (show -200 ≤ a + b ∧ a + b ≤ 200 by omega) (show -200 ≤ a + b ∧ a + b ≤ 200 by omega)
  simp only [Int.reduceMul] at bb ac bc ad cc bd ad1 ac1 dd aa bd1 mm pp
  refine ⟨wr_in ?_, wr_in ?_, wr_in ?_⟩
  · unfold mg1; split <;> omega
  · unfold mg2; split <;> omega
  · unfold mg3; split <;> omega

set_option maxHeartbeats 1000000 in
theorem iIsReduced_any (a b c d : Int) (w : World) :
    Calls Try.prog 16 #[.agg #[.int .i64 a, .int .i64 b, .int .i64 c, .int .i64 d]] w fun e w' => e = .returned (.tuple #[.bool (rd0 a b c d), .int .i64 (rcd a b c d)]) ∧ Below w.heap.size w w' := by
  have A0 := (Arr.new w a b c d 23).alloc (.cells #[.int .i64 a, .int .i64 b, .int .i64 c, .int .i64 d] 23)
  have B0 := Arr.new (w.alloc (.cells #[.int .i64 a, .int .i64 b, .int .i64 c, .int .i64 d] 23)) a b c d 23
  have U0 := gr_alloc (gr_alloc (Below.refl w.heap.size w) (.cells #[.int .i64 a, .int .i64 b, .int .i64 c, .int .i64 d] 23)) (.cells #[.int .i64 a, .int .i64 b, .int .i64 c, .int .i64 d] 23)
  simp only [World.size_alloc] at B0
  go_enter Try.func16, Try.ntmps16
  go_wp2_with fail
  refine (iCheck1_any _ a b c d _ B0).mono ?_
  rintro e w1 ⟨rfl, hb1⟩
  have A1 := A0.next hb1
  have U1 := gr_trans U0 hb1
  clear A0 B0 U0
  obtain ⟨_, a0, a1, a2, a3, _⟩ := id A1
  by_cases hk : rcd a b c d = 0
  · obtain ⟨hf, hr, hd⟩ := rcd_0 hk
    have hs := fun W => iSign_any a b c d W
    have hi := fun W => iIsRed0_any a b c d (sg (dsc a b c d)) W
    rw [sg_pos, (mg_wr hr _).1, (mg_wr hr _).2.1, (mg_wr hr _).2.2] at hi
    have HS := hid hs
    have HI := hid hi
    have HK := hid hk
    clear hs hi hf hr hd
    simp only [HK.out]
    clear hk a0 a1 a2 a3
    have hl := A1.lt
    obtain ⟨_, a0, a1, a2, a3, _⟩ := id A1
    go_upto_region 4 with fail
    go_region_held3 (fun W => W.cell? ⟨w.heap.size, 0, none⟩ = some (.int .i64 a) ∧ W.cell? ⟨w.heap.size, 1, none⟩ = some (.int .i64 b) ∧ W.cell? ⟨w.heap.size, 2, none⟩ = some (.int .i64 c) ∧ W.cell? ⟨w.heap.size, 3, none⟩ = some (.int .i64 d)) (refine cells4 ?_ <;> (repeat (first | with_reducible assumption | with_reducible exact Arr.box (by assumption) | with_reducible exact Box.new _ _ _ _ _ _ | with_reducible exact Arr.new _ _ _ _ _ _ | with_reducible refine Arr.drew ?_ | with_reducible refine Arr.drewN ?_ _ | with_reducible refine Arr.store4 ?_ | with_reducible refine Arr.alloc ?_ _ | with_reducible refine Box.drew ?_ | with_reducible refine Box.drewN ?_ _ | with_reducible refine Box.alloc ?_ _ | with_reducible refine Arr.next ?_ (by assumption) | with_reducible refine Box.next ?_ (by assumption) | refine Arr.oth ?_ (by first | (simp; done) | omega | (simp; omega)) _ | refine Box.oth ?_ (by first | (simp; done) | omega | (simp; omega)) _))) (first | (go_at_call 43; refine (HS.out _).mono ?_; rintro e w2 ⟨rfl, hb2⟩) | (go_at_call 42; refine (HI.out _).mono ?_; rintro e w3 ⟨rfl, hb3⟩))
    go_wp2
    go_ret2
    exact ⟨ret_bi (by simp [rd0, rdd, HK.out]) (by simp [HK.out]), by (repeat' (first | with_reducible exact Below.refl _ _ | with_reducible assumption | with_reducible refine gr_alloc ?_ _ | with_reducible refine gr_drew ?_ | with_reducible refine gr_drewN ?_ _ | with_reducible refine gr_trans ?_ (by assumption) | with_reducible refine gr_set ?_ ?_ _ | (simp; done) | omega | (simp; omega)))⟩
  · have HK := hid hk
    have hk' : (rcd a b c d == 0) = false := by simpa using hk
    clear hk
    go_wp2
    go_ret2
    exact ⟨ret_bi (by simp [rd0, HK.out]) rfl, by (repeat' (first | with_reducible exact Below.refl _ _ | with_reducible assumption | with_reducible refine gr_alloc ?_ _ | with_reducible refine gr_drew ?_ | with_reducible refine gr_drewN ?_ _ | with_reducible refine gr_trans ?_ (by assumption) | with_reducible refine gr_set ?_ ?_ _ | (simp; done) | omega | (simp; omega)))⟩

end Go.Proofs.Ytohecacemceeeaa
