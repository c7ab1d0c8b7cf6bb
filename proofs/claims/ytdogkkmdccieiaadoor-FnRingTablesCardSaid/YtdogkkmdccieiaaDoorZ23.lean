/- Several texts in one: XC1n, XE18. -/
import Derived.Test.YtdogkkmdccieiaaDoorZ22
import Derived.Test.YtdogkkmdccieiaaDoorE16z

/- Chapter 1: sums of forms, whole. -/
namespace Go.Proofs.YtdogkkmdccieiaaDoor
open Go.RowKit

/-- The code of a form of the result. -/
def lim (a b c d : Int) : Int := if isF a b c d then 0 else 3
def addc (a b c d p q r s k : Int) : Int := if isF a b c d && isF p q r s then (if rng (-1000) 1000 k then lim (am a k p) (am b k q) (am c k r) (am d k s) else 2) else 1
theorem am_def (x k y : Int) : am x k y = wrap64 (x + wrap64 (k * y)) := rfl

set_option maxHeartbeats 400000 in
theorem iWithin_any (a b c d : Int) (w : World) :
    Calls Tryd.prog 67 #[.agg #[.int .i64 a, .int .i64 b, .int .i64 c, .int .i64 d]] w fun e w' => e = .returned (.tuple #[.agg #[.int .i64 (if0 (lim a b c d) a), .int .i64 (if0 (lim a b c d) b), .int .i64 (if0 (lim a b c d) c), .int .i64 (if0 (lim a b c d) d)], .int .i64 (lim a b c d)]) ∧ Below w.heap.size w w' := by
  go_enter Tryd.func67, Tryd.ntmps67
  go_wp2_with fail
  refine (iIsForm_any a b c d _).mono ?_
  rintro e w1 ⟨rfl, hb1⟩
  obtain ⟨_, c0, c1, c2, c3, _⟩ := ((Arr.new w a b c d 25).alloc (.cells #[.int .i64 0, .int .i64 0, .int .i64 0, .int .i64 0] 25)).next hb1
  have R1 := (Arr.new (w.alloc (.cells #[.int .i64 a, .int .i64 b, .int .i64 c, .int .i64 d] 25)) 0 0 0 0 25).next hb1
  simp only [World.size_alloc] at R1
  obtain ⟨_, r0, r1, r2, r3, f0, f1, f2, f3⟩ := id R1
  go_wp2
  all_goals (refine bodyPost_ret (res_A (e := 2) rfl Tryd.underlying25 (by kernel_rfl) rfl (by (repeat (first | with_reducible assumption | with_reducible exact Arr.box (by assumption) | with_reducible apply Arr.drew | with_reducible apply Arr.drewN | with_reducible refine Arr.store4 ?_ | with_reducible apply Arr.alloc | with_reducible refine Box.drew ?_ | with_reducible refine Box.drewN ?_ _ | with_reducible refine Box.alloc ?_ _ | refine Arr.oth ?_ (by first | (simp; done) | omega | (simp; omega)) _ | refine Box.oth ?_ (by first | (simp; done) | omega | (simp; omega)) _)))) rfl ?_; exact ⟨ret_form (by go_light; simp_all [if0, lim]) (by go_light; simp_all [if0, lim]) (by go_light; simp_all [if0, lim]) (by go_light; simp_all [if0, lim]) (by go_light; simp_all [lim]), by (repeat' (first | with_reducible exact Below.refl _ _ | with_reducible assumption | with_reducible refine gr_alloc ?_ _ | with_reducible refine gr_drew ?_ | with_reducible refine gr_drewN ?_ _ | with_reducible refine gr_trans ?_ (by assumption) | with_reducible refine gr_set ?_ ?_ _ | (simp; done) | omega | (simp; omega)))⟩)

set_option maxHeartbeats 400000 in
theorem l01Fits_any (a b c d : Int) (w : World) :
    Calls Tryd.prog 71 #[.agg #[.int .i64 a, .int .i64 b, .int .i64 c, .int .i64 d]] w fun e w' => e = .returned (.bool (isF a b c d)) ∧ Below w.heap.size w w' := by
  go_enter Tryd.func71, Tryd.ntmps71
  go_wp2_with fail
  refine (l01Is_any a b c d _).mono ?_
  rintro e w1 ⟨rfl, hb1⟩
  go_wp2
  go_ret
  exact ⟨rfl, by (repeat' (first | with_reducible exact Below.refl _ _ | with_reducible assumption | with_reducible refine gr_alloc ?_ _ | with_reducible refine gr_drew ?_ | with_reducible refine gr_drewN ?_ _ | with_reducible refine gr_trans ?_ (by assumption) | with_reducible refine gr_set ?_ ?_ _ | (simp; done) | omega | (simp; omega)))⟩



end Go.Proofs.YtdogkkmdccieiaaDoor

/- Chapter 4: IsRightTable, FormOfTable. -/
namespace Go.Proofs.YtdogkkmdccieiaaDoor
open Go.RowKit

def rgt (g : Nat → Int) : Bool := rg1 (g 0) (g 1) (g 2) (g 3) (g 4) (g 5) (g 6) (g 7) (g 8) && rg2 (g 0) (g 1) (g 2) (g 3) (g 4) (g 5) (g 6) (g 7) (g 8)
def irt (n : Nat) (g : Nat → Int) : Bool := if tbc n g = 0 then rgt g else false
theorem tbc_t {n : Nat} {g : Nat → Int} (h : tbc n g = 0) : n = 3 := by
  unfold tbc at h
  split at h
  · split at h
    · assumption
    · omega
  · omega
theorem RdW.arr9 {w : World} {b : Nat} {g : Nat → Int} (hb : b < w.heap.size) (h : ∀ i, i < 3 * 3 → w.cell? ⟨b, i, none⟩ = some (.int .i64 (g i))) : Arr9 w b (g 0) (g 1) (g 2) (g 3) (g 4) (g 5) (g 6) (g 7) (g 8) :=
  ⟨hb, h 0 (by omega), h 1 (by omega), h 2 (by omega), h 3 (by omega), h 4 (by omega), h 5 (by omega), h 6 (by omega), h 7 (by omega), h 8 (by omega)⟩
theorem RdW.next {w w' : World} {v : Value} {n : Nat} {g : Nat → Int} (h : RdW w v n g) (hb : Below w.heap.size w w') : RdW w' v n g := by
  rcases h with h | ⟨b, cap, h1, h2, h3, h4, h5⟩
  · exact .inl h
  · exact .inr ⟨b, cap, h1, h2, h3, Nat.lt_of_lt_of_le h4 hb.size, fun i hi => (hb.cell (p := ⟨b, i, none⟩) h4).trans (h5 i hi)⟩
theorem RdW.three {w : World} {v : Value} {g : Nat → Int} (h : RdW w v 3 g) : ∃ b cap, v = .slice (some ⟨b, 0, none⟩) 3 cap ∧ 3 ≤ cap ∧ cap ≤ maxLen ∧ Arr9 w b (g 0) (g 1) (g 2) (g 3) (g 4) (g 5) (g 6) (g 7) (g 8) := by
  rcases h with ⟨_, h⟩ | ⟨b, cap, h1, h2, h3, h4, h5⟩
  · omega
  · exact ⟨b, cap, h1, h2, h3, RdW.arr9 h4 h5⟩
theorem arrayAt3 (g cap : Nat) (W : World) : (Instr.arrayAt 73 (.slice (some ⟨g, 0, none⟩) 3 cap)).run Tryd.prog W = .ok (.pointer (some ⟨g, 0, none⟩)) W := by
  unfold Instr.arrayAt
  rw [Sem.run_bind, run_underlying Tryd.underlying73]
  simp
theorem cells9b {W : World} {i : Nat} {p0 p1 p2 p3 p4 p5 p6 p7 p8 : Int} (K : Arr9 W i p0 p1 p2 p3 p4 p5 p6 p7 p8) : W.cell? ⟨i, 0, none⟩ = some (.int .i64 p0) ∧ W.cell? ⟨i, 1, none⟩ = some (.int .i64 p1) ∧ W.cell? ⟨i, 2, none⟩ = some (.int .i64 p2) ∧ W.cell? ⟨i, 3, none⟩ = some (.int .i64 p3) ∧ W.cell? ⟨i, 4, none⟩ = some (.int .i64 p4) ∧ W.cell? ⟨i, 5, none⟩ = some (.int .i64 p5) ∧ W.cell? ⟨i, 6, none⟩ = some (.int .i64 p6) ∧ W.cell? ⟨i, 7, none⟩ = some (.int .i64 p7) ∧ W.cell? ⟨i, 8, none⟩ = some (.int .i64 p8) :=
  ⟨K.c0, K.c1, K.c2, K.c3, K.c4, K.c5, K.c6, K.c7, K.c8⟩
theorem ret_bi {a b : Bool} {c d : Int} (h : a = b) (h' : c = d) : Ending.returned (.tuple #[.bool a, .int .i64 c]) = .returned (.tuple #[.bool b, .int .i64 d]) := by rw [h, h']

set_option maxRecDepth 100000 in
set_option maxHeartbeats 1000000 in
theorem sIsRT_any (v : Value) (n : Nat) (g : Nat → Int) (w : World) (h : RdW w v n g) :
    Calls Tryd.prog 23 #[v] w fun e w' => e = .returned (.tuple #[.bool (irt n g), .int .i64 (tbc n g)]) ∧ Below w.heap.size w w' := by
  have hc := sGiven_any v n g w h
  have h3 : tbc n g = 0 → n = 3 := tbc_t
  unfold irt
  generalize tbc n g = k at hc h3 ⊢
  by_cases hk : k = 0
  · subst hk
    obtain rfl := h3 rfl
    obtain ⟨b, cap, rfl, h1, h2, hA⟩ := h.three
    unfold maxLen at h2
    have HC := hid hc
    have hr := fun W hA => sRight_any b cap (g 0) (g 1) (g 2) (g 3) (g 4) (g 5) (g 6) (g 7) (g 8) W hA
    have hg : rgt g = (rg1 (g 0) (g 1) (g 2) (g 3) (g 4) (g 5) (g 6) (g 7) (g 8) && rg2 (g 0) (g 1) (g 2) (g 3) (g 4) (g 5) (g 6) (g 7) (g 8)) := rfl
    rw [← hg] at hr
    generalize rgt g = r at hr ⊢
    have HR := hid hr
    clear hc h h3 hr hg
    go_enter Tryd.func23, Tryd.ntmps23
    go_wp2_with fail
    refine HC.out.mono ?_
    rintro e w1 ⟨rfl, hb1⟩
    go_wp2_with fail
    refine (HR.out _ (hA.next hb1)).mono ?_
    rintro e w2 ⟨rfl, hb2⟩
    go_wp2_with fail
    go_ret2
    exact ⟨ret_bi (by simp) rfl, by (repeat' (first | with_reducible exact Below.refl _ _ | with_reducible assumption | with_reducible refine gr_alloc ?_ _ | with_reducible refine gr_drew ?_ | with_reducible refine gr_drewN ?_ _ | with_reducible refine gr_trans ?_ (by assumption) | with_reducible refine gr_set ?_ ?_ _ | (simp; done) | omega | (simp; omega)))⟩
  · have hk' : (k == 0) = false := by simpa using hk
    have HK := hid hk
    have HC := hid hc
    clear hk hc h3 h
    go_enter Tryd.func23, Tryd.ntmps23
    go_wp2_with fail
    refine HC.out.mono ?_
    rintro e w1 ⟨rfl, hb1⟩
    go_wp2_with fail
    go_ret2
    exact ⟨ret_bi (by simp) rfl, by (repeat' (first | with_reducible exact Below.refl _ _ | with_reducible assumption | with_reducible refine gr_alloc ?_ _ | with_reducible refine gr_drew ?_ | with_reducible refine gr_drewN ?_ _ | with_reducible refine gr_trans ?_ (by assumption) | with_reducible refine gr_set ?_ ?_ _ | (simp; done) | omega | (simp; omega)))⟩

set_option maxRecDepth 100000 in
set_option maxHeartbeats 1000000 in
theorem iIsRT_any (v : Value) (n : Nat) (g : Nat → Int) (w : World) (h : RdW w v n g) :
    Calls Tryd.prog 22 #[v] w fun e w' => e = .returned (.tuple #[.bool (irt n g), .int .i64 (tbc n g)]) ∧ Below w.heap.size w w' := by
  have hc := iCheckT_any v n g w h
  have h3 : tbc n g = 0 → n = 3 := tbc_t
  unfold irt
  generalize tbc n g = k at hc h3 ⊢
  by_cases hk : k = 0
  · subst hk
    obtain rfl := h3 rfl
    obtain ⟨b, cap, rfl, h1, h2, hA⟩ := h.three
    unfold maxLen at h2
    have HC := hid hc
    have hr := fun W => iRight_any (g 0) (g 1) (g 2) (g 3) (g 4) (g 5) (g 6) (g 7) (g 8) W
    have hg : rgt g = (rg1 (g 0) (g 1) (g 2) (g 3) (g 4) (g 5) (g 6) (g 7) (g 8) && rg2 (g 0) (g 1) (g 2) (g 3) (g 4) (g 5) (g 6) (g 7) (g 8)) := rfl
    rw [← hg] at hr
    generalize rgt g = r at hr ⊢
    have HR := hid hr
    clear hc h h3 hr hg
    go_enter Tryd.func22, Tryd.ntmps22
    go_wp2_with fail
    refine HC.out.mono ?_
    rintro e w1 ⟨rfl, hb1⟩
    obtain ⟨_, c0, c1, c2, c3, c4, c5, c6, c7, c8⟩ := hA.next hb1
    have har := arrayAt3 b cap w1
    go_wp2_with fail
    refine (HR.out _).mono ?_
    rintro e w2 ⟨rfl, hb2⟩
    go_wp2_with fail
    go_ret2
    exact ⟨ret_bi (by simp) rfl, by (repeat' (first | with_reducible exact Below.refl _ _ | with_reducible assumption | with_reducible refine gr_alloc ?_ _ | with_reducible refine gr_drew ?_ | with_reducible refine gr_drewN ?_ _ | with_reducible refine gr_trans ?_ (by assumption) | with_reducible refine gr_set ?_ ?_ _ | (simp; done) | omega | (simp; omega)))⟩
  · have hk' : (k == 0) = false := by simpa using hk
    have HK := hid hk
    have HC := hid hc
    clear hk hc h3 h
    go_enter Tryd.func22, Tryd.ntmps22
    go_wp2_with fail
    refine HC.out.mono ?_
    rintro e w1 ⟨rfl, hb1⟩
    go_wp2_with fail
    go_ret2
    exact ⟨ret_bi (by simp) rfl, by (repeat' (first | with_reducible exact Below.refl _ _ | with_reducible assumption | with_reducible refine gr_alloc ?_ _ | with_reducible refine gr_drew ?_ | with_reducible refine gr_drewN ?_ _ | with_reducible refine gr_trans ?_ (by assumption) | with_reducible refine gr_set ?_ ?_ _ | (simp; done) | omega | (simp; omega)))⟩

/-- The numbers of the form of a table; its code. -/
def fo1 (g : Nat → Int) : Int := wrap64 (g 1 - 2 * g 5)
def fo2 (g : Nat → Int) : Int := wrap64 (2 * g 4 - g 8)
def foc (n : Nat) (g : Nat → Int) : Int := if tbc n g = 0 then (if rgt g then lim (ng (g 2)) (fo1 g) (fo2 g) (g 7) else 5) else tbc n g

set_option maxRecDepth 100000 in
set_option maxHeartbeats 1000000 in
theorem iFormT_any (p0 p1 p2 p3 p4 p5 p6 p7 p8 : Int) (w : World) :
    Calls Tryd.prog 68 #[.agg #[.int .i64 p0, .int .i64 p1, .int .i64 p2, .int .i64 p3, .int .i64 p4, .int .i64 p5, .int .i64 p6, .int .i64 p7, .int .i64 p8]] w fun e w' => e = .returned (.agg #[.int .i64 (ng p2), .int .i64 (wrap64 (p1 - 2 * p5)), .int .i64 (wrap64 (2 * p4 - p8)), .int .i64 p7]) ∧ Below w.heap.size w w' := by
  have P0 := (Arr9.new w p0 p1 p2 p3 p4 p5 p6 p7 p8 73).alloc (.cells #[.int .i64 0, .int .i64 0, .int .i64 0, .int .i64 0] 25)
  have R0 := Arr.new (w.alloc (.cells #[.int .i64 p0, .int .i64 p1, .int .i64 p2, .int .i64 p3, .int .i64 p4, .int .i64 p5, .int .i64 p6, .int .i64 p7, .int .i64 p8] 73)) 0 0 0 0 25
  have U0 := gr_alloc (gr_alloc (Below.refl w.heap.size w) (.cells #[.int .i64 p0, .int .i64 p1, .int .i64 p2, .int .i64 p3, .int .i64 p4, .int .i64 p5, .int .i64 p6, .int .i64 p7, .int .i64 p8] 73)) (.cells #[.int .i64 0, .int .i64 0, .int .i64 0, .int .i64 0] 25)
  simp only [World.size_alloc] at R0
  go_enter Tryd.func68, Tryd.ntmps68
  go_upto_region 1 with fail
  generalize (w.alloc (.cells #[.int .i64 p0, .int .i64 p1, .int .i64 p2, .int .i64 p3, .int .i64 p4, .int .i64 p5, .int .i64 p6, .int .i64 p7, .int .i64 p8] 73)).alloc (.cells #[.int .i64 0, .int .i64 0, .int .i64 0, .int .i64 0] 25) = W0 at P0 R0 U0 ⊢
  obtain ⟨_, c0, c1, c2, c3, c4, c5, c6, c7, c8⟩ := id P0
  go_quiet (fail)
  have R1 := R0.drewN nq
  have U1 := gr_drewN U0 nq
  clear R0 U0
  obtain ⟨_, r0, r1, r2, r3, f0, f1, f2, f3⟩ := id R1
  go_wp2
  refine bodyPost_ret (res_A1 (e := 2) rfl Tryd.underlying25 (by kernel_rfl) rfl (by (repeat (first | with_reducible assumption | with_reducible exact Arr.box (by assumption) | with_reducible apply Arr.drew | with_reducible apply Arr.drewN | with_reducible refine Arr.store4 ?_ | with_reducible apply Arr.alloc | with_reducible refine Box.drew ?_ | with_reducible refine Box.drewN ?_ _ | with_reducible refine Box.alloc ?_ _ | refine Arr.oth ?_ (by first | (simp; done) | omega | (simp; omega)) _ | refine Box.oth ?_ (by first | (simp; done) | omega | (simp; omega)) _)))) rfl ?_
  exact ⟨by simp only [ng, wr_sl, wr_sr], by (repeat' (first | with_reducible exact Below.refl _ _ | with_reducible assumption | with_reducible refine gr_alloc ?_ _ | with_reducible refine gr_drew ?_ | with_reducible refine gr_drewN ?_ _ | with_reducible refine gr_trans ?_ (by assumption) | with_reducible refine gr_set ?_ ?_ _ | (simp; done) | omega | (simp; omega)))⟩

theorem foc_k {n : Nat} {g : Nat → Int} (h : ¬ tbc n g = 0) : foc n g = tbc n g := by simp [foc, h]
theorem foc_5 {n : Nat} {g : Nat → Int} (h : tbc n g = 0) (h' : rgt g = false) : foc n g = 5 := by simp [foc, h, h']
theorem foc_l {n : Nat} {g : Nat → Int} (h : tbc n g = 0) (h' : rgt g = true) : foc n g = lim (ng (g 2)) (fo1 g) (fo2 g) (g 7) := by simp [foc, h, h']

set_option maxRecDepth 100000 in
set_option maxHeartbeats 2000000 in
theorem iFOT_any (v : Value) (n : Nat) (g : Nat → Int) (w : World) (h : RdW w v n g) :
    Calls Tryd.prog 20 #[v] w fun e w' => e = .returned (.tuple #[.agg #[.int .i64 (if0 (foc n g) (ng (g 2))), .int .i64 (if0 (foc n g) (fo1 g)), .int .i64 (if0 (foc n g) (fo2 g)), .int .i64 (if0 (foc n g) (g 7))], .int .i64 (foc n g)]) ∧ Below w.heap.size w w' := by
  have hc := iIsRT_any v n g (w.alloc (.cells #[.int .i64 0, .int .i64 0, .int .i64 0, .int .i64 0] 25)) (h.next (gr_alloc (Below.refl _ w) _))
  have h3 : tbc n g = 0 → n = 3 := tbc_t
  have e1 : ¬ tbc n g = 0 → foc n g = tbc n g := foc_k
  have e2 : tbc n g = 0 → rgt g = false → foc n g = 5 := foc_5
  have e3 : tbc n g = 0 → rgt g = true → foc n g = lim (ng (g 2)) (fo1 g) (fo2 g) (g 7) := foc_l
  have hf := fun W => iFormT_any (g 0) (g 1) (g 2) (g 3) (g 4) (g 5) (g 6) (g 7) (g 8) W
  have hf : ∀ W, Calls Tryd.prog 68 #[.agg #[.int .i64 (g 0), .int .i64 (g 1), .int .i64 (g 2), .int .i64 (g 3), .int .i64 (g 4), .int .i64 (g 5), .int .i64 (g 6), .int .i64 (g 7), .int .i64 (g 8)]] W fun e w' => e = .returned (.agg #[.int .i64 (ng (g 2)), .int .i64 (fo1 g), .int .i64 (fo2 g), .int .i64 (g 7)]) ∧ Below W.heap.size W w' := hf
  have hw := fun W => iWithin_any (ng (g 2)) (fo1 g) (fo2 g) (g 7) W
  unfold irt at hc
  generalize foc n g = c at e1 e2 e3 ⊢
  generalize tbc n g = k at hc h3 e1 e2 e3
  generalize rgt g = r at hc e2 e3
  have R0 := Arr.new w 0 0 0 0 25
  have U0 := gr_alloc (Below.refl w.heap.size w) (.cells #[.int .i64 0, .int .i64 0, .int .i64 0, .int .i64 0] 25)
  by_cases hk : k = 0
  · subst hk
    obtain rfl := h3 rfl
    simp only [if_true] at hc
    obtain ⟨b, cap, rfl, h1, h2, hA⟩ := (h.next U0).three
    unfold maxLen at h2
    have HC := hid hc
    cases r with
    | false =>
      have E2 := hid (e2 rfl rfl)
      clear hc h h3 e1 e2 e3 hf hw
      go_enter Tryd.func20, Tryd.ntmps20
      go_wp2_with fail
      refine HC.out.mono ?_
      rintro e w1 ⟨rfl, hb1⟩
      have R1 := R0.next hb1
      obtain ⟨_, r0, r1, r2, r3, f0, f1, f2, f3⟩ := id R1
      go_wp2_with fail
      refine bodyPost_ret (res_A (e := 2) rfl Tryd.underlying25 (by kernel_rfl) rfl (by (repeat (first | with_reducible assumption | with_reducible exact Arr.box (by assumption) | with_reducible apply Arr.drew | with_reducible apply Arr.drewN | with_reducible refine Arr.store4 ?_ | with_reducible apply Arr.alloc | with_reducible refine Box.drew ?_ | with_reducible refine Box.drewN ?_ _ | with_reducible refine Box.alloc ?_ _ | refine Arr.oth ?_ (by first | (simp; done) | omega | (simp; omega)) _ | refine Box.oth ?_ (by first | (simp; done) | omega | (simp; omega)) _)))) rfl ?_
      exact ⟨by rw [E2.out]; simp [if0], by (repeat' (first | with_reducible exact Below.refl _ _ | with_reducible assumption | with_reducible refine gr_alloc ?_ _ | with_reducible refine gr_drew ?_ | with_reducible refine gr_drewN ?_ _ | with_reducible refine gr_trans ?_ (by assumption) | with_reducible refine gr_set ?_ ?_ _ | (simp; done) | omega | (simp; omega)))⟩
    | true =>
      have E3 := hid (e3 rfl rfl)
      clear hc h h3 e1 e2 e3
      generalize ng (g 2) = x0 at hf hw E3 ⊢
      generalize fo1 g = x1 at hf hw E3 ⊢
      generalize fo2 g = x2 at hf hw E3 ⊢
      generalize g 0 = p0 at hf hA
      generalize g 1 = p1 at hf hA
      generalize g 2 = p2 at hf hA
      generalize g 3 = p3 at hf hA
      generalize g 4 = p4 at hf hA
      generalize g 5 = p5 at hf hA
      generalize g 6 = p6 at hf hA
      generalize g 7 = p7 at hf hw hA E3 ⊢
      generalize g 8 = p8 at hf hA
      generalize lim x0 x1 x2 p7 = l at hw E3
      have HF := hid hf; have HW := hid hw
      clear hf hw
      go_enter Tryd.func20, Tryd.ntmps20
      go_wp2_with fail
      refine HC.out.mono ?_
      rintro e w1 ⟨rfl, hb1⟩
      have R1 := R0.next hb1
      obtain ⟨_, c0, c1, c2, c3, c4, c5, c6, c7, c8⟩ := hA.next hb1
      have har := arrayAt3 b cap w1
      go_wp2_with fail
      refine (HF.out _).mono ?_
      rintro e w2 ⟨rfl, hb2⟩
      have R2 := R1.next hb2
      go_wp2_with fail
      refine (HW.out _).mono ?_
      rintro e w3 ⟨rfl, hb3⟩
      have R3 := R2.next hb3
      obtain ⟨_, r0, r1, r2, r3, f0, f1, f2, f3⟩ := id R3
      go_wp2_with fail
      refine bodyPost_ret (res_A (e := 2) rfl Tryd.underlying25 (by kernel_rfl) rfl (by (repeat (first | with_reducible assumption | with_reducible exact Arr.box (by assumption) | with_reducible apply Arr.drew | with_reducible apply Arr.drewN | with_reducible refine Arr.store4 ?_ | with_reducible apply Arr.alloc | with_reducible refine Box.drew ?_ | with_reducible refine Box.drewN ?_ _ | with_reducible refine Box.alloc ?_ _ | refine Arr.oth ?_ (by first | (simp; done) | omega | (simp; omega)) _ | refine Box.oth ?_ (by first | (simp; done) | omega | (simp; omega)) _)))) rfl ?_
      exact ⟨ret_form (by rw [E3.out]) (by rw [E3.out]) (by rw [E3.out]) (by rw [E3.out]) E3.out.symm, by (repeat' (first | with_reducible exact Below.refl _ _ | with_reducible assumption | with_reducible refine gr_alloc ?_ _ | with_reducible refine gr_drew ?_ | with_reducible refine gr_drewN ?_ _ | with_reducible refine gr_trans ?_ (by assumption) | with_reducible refine gr_set ?_ ?_ _ | (simp; done) | omega | (simp; omega)))⟩
  · have hk' : (k == 0) = false := by simpa using hk
    have hkn : (if k = 0 then r else false) = false := by simp [hk]
    rw [hkn] at hc
    have E1 := hid (e1 hk)
    have HK := hid hk
    have HC := hid hc
    clear hk hc h3 h e1 e2 e3 hf hw hkn
    go_enter Tryd.func20, Tryd.ntmps20
    go_wp2_with fail
    refine HC.out.mono ?_
    rintro e w1 ⟨rfl, hb1⟩
    have R1 := R0.next hb1
    obtain ⟨_, r0, r1, r2, r3, f0, f1, f2, f3⟩ := id R1
    go_wp2_with fail
    refine bodyPost_ret (res_A (e := 2) rfl Tryd.underlying25 (by kernel_rfl) rfl (by (repeat (first | with_reducible assumption | with_reducible exact Arr.box (by assumption) | with_reducible apply Arr.drew | with_reducible apply Arr.drewN | with_reducible refine Arr.store4 ?_ | with_reducible apply Arr.alloc | with_reducible refine Box.drew ?_ | with_reducible refine Box.drewN ?_ _ | with_reducible refine Box.alloc ?_ _ | refine Arr.oth ?_ (by first | (simp; done) | omega | (simp; omega)) _ | refine Box.oth ?_ (by first | (simp; done) | omega | (simp; omega)) _)))) rfl ?_
    exact ⟨by rw [E1.out]; simp [if0, HK.out], by (repeat' (first | with_reducible exact Below.refl _ _ | with_reducible assumption | with_reducible refine gr_alloc ?_ _ | with_reducible refine gr_drew ?_ | with_reducible refine gr_drewN ?_ _ | with_reducible refine gr_trans ?_ (by assumption) | with_reducible refine gr_set ?_ ?_ _ | (simp; done) | omega | (simp; omega)))⟩

set_option maxRecDepth 100000 in
set_option maxHeartbeats 2000000 in
theorem sFOT_any (v : Value) (n : Nat) (g : Nat → Int) (w : World) (h : RdW w v n g) :
    Calls Tryd.prog 21 #[v] w fun e w' => e = .returned (.tuple #[.agg #[.int .i64 (if0 (foc n g) (ng (g 2))), .int .i64 (if0 (foc n g) (fo1 g)), .int .i64 (if0 (foc n g) (fo2 g)), .int .i64 (if0 (foc n g) (g 7))], .int .i64 (foc n g)]) ∧ Below w.heap.size w w' := by
  have hc := sGiven_any v n g (w.alloc (.cells #[.int .i64 0, .int .i64 0, .int .i64 0, .int .i64 0] 25)) (h.next (gr_alloc (Below.refl _ w) _))
  have h3 : tbc n g = 0 → n = 3 := tbc_t
  have e1 : ¬ tbc n g = 0 → foc n g = tbc n g := foc_k
  have e2 : tbc n g = 0 → rgt g = false → foc n g = 5 := foc_5
  have e3 : tbc n g = 0 → rgt g = true → foc n g = lim (ng (g 2)) (fo1 g) (fo2 g) (g 7) := foc_l
  have hr : ∀ k cap W, Arr9 W k (g 0) (g 1) (g 2) (g 3) (g 4) (g 5) (g 6) (g 7) (g 8) → Calls Tryd.prog 70 #[.slice (some ⟨k, 0, none⟩) 3 cap] W fun e w' => e = .returned (.bool (rgt g)) ∧ Below W.heap.size W w' := fun k cap W hA => sRight_any k cap (g 0) (g 1) (g 2) (g 3) (g 4) (g 5) (g 6) (g 7) (g 8) W hA
  have hlim : ∀ a b c d : Int, isF a b c d = true → lim a b c d = 0 := fun a b c d h => by simp [lim, h]
  have hlim' : ∀ a b c d : Int, isF a b c d = false → lim a b c d = 3 := fun a b c d h => by simp [lim, h]
  generalize foc n g = c at e1 e2 e3 ⊢
  generalize tbc n g = k at hc h3 e1 e2 e3
  generalize rgt g = r at hr e2 e3
  have R0 := Arr.new w 0 0 0 0 25
  have U0 := gr_alloc (Below.refl w.heap.size w) (.cells #[.int .i64 0, .int .i64 0, .int .i64 0, .int .i64 0] 25)
  by_cases hk : k = 0
  · subst hk
    obtain rfl := h3 rfl
    obtain ⟨b, cap, rfl, h1, h2, hA⟩ := (h.next U0).three
    unfold maxLen at h2
    have HC := hid hc
    have HR := hid hr
    cases r with
    | false =>
      have E2 := hid (e2 rfl rfl)
      clear hc h h3 e1 e2 e3 hr hlim hlim'
      go_enter Tryd.func21, Tryd.ntmps21
      go_wp2_with fail
      refine HC.out.mono ?_
      rintro e w1 ⟨rfl, hb1⟩
      have R1 := R0.next hb1
      go_wp2_with fail
      refine (HR.out _ _ _ (hA.next hb1)).mono ?_
      rintro e w2 ⟨rfl, hb2⟩
      have R2 := R1.next hb2
      obtain ⟨_, r0, r1, r2, r3, f0, f1, f2, f3⟩ := id R2
      go_wp2_with fail
      refine bodyPost_ret (res_A (e := 2) rfl Tryd.underlying25 (by kernel_rfl) rfl (by (repeat (first | with_reducible assumption | with_reducible exact Arr.box (by assumption) | with_reducible apply Arr.drew | with_reducible apply Arr.drewN | with_reducible refine Arr.store4 ?_ | with_reducible apply Arr.alloc | with_reducible refine Box.drew ?_ | with_reducible refine Box.drewN ?_ _ | with_reducible refine Box.alloc ?_ _ | refine Arr.oth ?_ (by first | (simp; done) | omega | (simp; omega)) _ | refine Box.oth ?_ (by first | (simp; done) | omega | (simp; omega)) _)))) rfl ?_
      exact ⟨by rw [E2.out]; simp [if0], by (repeat' (first | with_reducible exact Below.refl _ _ | with_reducible assumption | with_reducible refine gr_alloc ?_ _ | with_reducible refine gr_drew ?_ | with_reducible refine gr_drewN ?_ _ | with_reducible refine gr_trans ?_ (by assumption) | with_reducible refine gr_set ?_ ?_ _ | (simp; done) | omega | (simp; omega)))⟩
    | true =>
      have E3 := hid (e3 rfl rfl)
      have L0 := hid (hlim (ng (g 2)) (fo1 g) (fo2 g) (g 7)); have L3 := hid (hlim' (ng (g 2)) (fo1 g) (fo2 g) (g 7))
      have n0 : wrap64 (-g 2) = ng (g 2) := rfl
      have n1 : wrap64 (g 1 - wrap64 (2 * g 5)) = fo1 g := by simp only [fo1, wr_sr]
      have n2 : wrap64 (-wrap64 (g 8 - wrap64 (2 * g 4))) = fo2 g := by simp only [fo2, wr_n, wr_sr]; congr 1; omega
      clear hc h h3 e1 e2 e3 hr hlim hlim'
      generalize lim (ng (g 2)) (fo1 g) (fo2 g) (g 7) = l at E3 L0 L3
      generalize ng (g 2) = x0 at L0 L3 n0 ⊢
      generalize fo1 g = x1 at L0 L3 n1 ⊢
      generalize fo2 g = x2 at L0 L3 n2 ⊢
      generalize g 0 = p0 at hA HR
      generalize g 1 = p1 at hA HR n1
      generalize g 2 = p2 at hA HR n0
      generalize g 3 = p3 at hA HR
      generalize g 4 = p4 at hA HR n2
      generalize g 5 = p5 at hA HR n1
      generalize g 6 = p6 at hA HR
      generalize g 7 = p7 at hA HR L0 L3 ⊢
      generalize g 8 = p8 at hA HR n2
      have N0 := hid n0; have N1 := hid n1; have N2 := hid n2
      clear n0 n1 n2
      go_enter Tryd.func21, Tryd.ntmps21
      go_wp2_with fail
      refine HC.out.mono ?_
      rintro e w1 ⟨rfl, hb1⟩
      have R1 := R0.next hb1
      have A1 := hA.next hb1
      go_wp2_with fail
      refine (HR.out _ _ _ A1).mono ?_
      rintro e w2 ⟨rfl, hb2⟩
      have R2 := R1.next hb2
      have A2 := A1.next hb2
      have U2 := gr_trans (gr_trans U0 hb1) hb2
      obtain ⟨_, c0, c1, c2, c3, c4, c5, c6, c7, c8⟩ := id A2
      go_wp2_with fail
      go_quiet (fail)
      have A3 := A2.drewN nq
      have R3 := R2.drewN nq
      have U3 := gr_drewN U2 nq
      clear c0 c1 c2 c3 c4 c5 c6 c7 c8
      generalize w2.drewN nq = W3 at A3 R3 U3 ⊢
      obtain ⟨_, c0, c1, c2, c3, c4, c5, c6, c7, c8⟩ := id A3
      go_wp2_with fail
      go_region_held3 (fun W => W.cell? ⟨b, 0, none⟩ = some (.int .i64 p0) ∧ W.cell? ⟨b, 1, none⟩ = some (.int .i64 p1) ∧ W.cell? ⟨b, 2, none⟩ = some (.int .i64 p2) ∧ W.cell? ⟨b, 3, none⟩ = some (.int .i64 p3) ∧ W.cell? ⟨b, 4, none⟩ = some (.int .i64 p4) ∧ W.cell? ⟨b, 5, none⟩ = some (.int .i64 p5) ∧ W.cell? ⟨b, 6, none⟩ = some (.int .i64 p6) ∧ W.cell? ⟨b, 7, none⟩ = some (.int .i64 p7) ∧ W.cell? ⟨b, 8, none⟩ = some (.int .i64 p8)) (refine cells9b ?_ <;> (repeat (first | with_reducible assumption | with_reducible exact Arr9.new _ _ _ _ _ _ _ _ _ _ _ | with_reducible refine Arr9.drew ?_ | with_reducible refine Arr9.drewN ?_ _ | with_reducible refine Arr9.alloc ?_ _ | with_reducible refine Arr9.next ?_ (by assumption) | with_reducible exact Arr.box (by assumption) | with_reducible exact Box.new _ _ _ _ _ _ | with_reducible exact Arr.new _ _ _ _ _ _ | with_reducible refine Arr.drew ?_ | with_reducible refine Arr.drewN ?_ _ | with_reducible refine Arr.store4 ?_ | with_reducible refine Arr.alloc ?_ _ | with_reducible refine Box.drew ?_ | with_reducible refine Box.drewN ?_ _ | with_reducible refine Box.alloc ?_ _ | with_reducible refine Arr.next ?_ (by assumption) | with_reducible refine Box.next ?_ (by assumption) | refine Arr.oth ?_ (by first | (simp; done) | omega | (simp; omega)) _ | refine Box.oth ?_ (by first | (simp; done) | omega | (simp; omega)) _ | with_reducible exact Arr3.box (by assumption) | with_reducible exact Box3.new _ _ _ _ _ | with_reducible exact Arr3.new _ _ _ _ _ | with_reducible refine Arr3.drew ?_ | with_reducible refine Arr3.drewN ?_ _ | with_reducible refine Arr3.store3 ?_ | with_reducible refine Arr3.alloc ?_ _ | with_reducible refine Box3.drew ?_ | with_reducible refine Box3.drewN ?_ _ | with_reducible refine Box3.alloc ?_ _ | with_reducible refine Arr3.next ?_ (by assumption) | with_reducible refine Box3.next ?_ (by assumption) | refine Arr3.oth ?_ (by first | (simp; done) | omega | (simp; omega)) _ | refine Box3.oth ?_ (by first | (simp; done) | omega | (simp; omega)) _))) (fail)
      simp only [IntWalk.i64_left]
      rw [N0.out, N1.out, N2.out]
      have V4 := Arr.new W3 x0 x1 x2 p7 25
      have R4 := R3.alloc (.cells #[.int .i64 x0, .int .i64 x1, .int .i64 x2, .int .i64 p7] 25)
      have U4 := gr_alloc U3 (.cells #[.int .i64 x0, .int .i64 x1, .int .i64 x2, .int .i64 p7] 25)
      clear c0 c1 c2 c3 c4 c5 c6 c7 c8
      generalize W3.alloc (.cells #[.int .i64 x0, .int .i64 x1, .int .i64 x2, .int .i64 p7] 25) = W4 at V4 R4 U4 ⊢
      obtain ⟨_, v0, v1, v2, v3, _⟩ := id V4
      go_wp2_with fail
      refine (l01Fits_any x0 x1 x2 p7 _).mono ?_
      rintro e w5 ⟨rfl, hb5⟩
      have V5 := V4.drew.next hb5
      have R5 := R4.drew.next hb5
      obtain ⟨_, r0, r1, r2, r3, f0, f1, f2, f3⟩ := id R5
      clear v0 v1 v2 v3
      by_cases hi : isF x0 x1 x2 p7 = false
      · have hl := hid (L3.out hi)
        go_wp2_with fail
        refine bodyPost_ret (res_A (e := 2) rfl Tryd.underlying25 (by kernel_rfl) rfl (by (repeat (first | with_reducible assumption | with_reducible exact Arr.box (by assumption) | with_reducible apply Arr.drew | with_reducible apply Arr.drewN | with_reducible refine Arr.store4 ?_ | with_reducible apply Arr.alloc | with_reducible refine Box.drew ?_ | with_reducible refine Box.drewN ?_ _ | with_reducible refine Box.alloc ?_ _ | refine Arr.oth ?_ (by first | (simp; done) | omega | (simp; omega)) _ | refine Box.oth ?_ (by first | (simp; done) | omega | (simp; omega)) _)))) rfl ?_
        exact ⟨ret_form (by rw [E3.out, hl.out]; simp [if0]) (by rw [E3.out, hl.out]; simp [if0]) (by rw [E3.out, hl.out]; simp [if0]) (by rw [E3.out, hl.out]; simp [if0]) (by rw [E3.out, hl.out]), by (repeat' (first | with_reducible exact Below.refl _ _ | with_reducible assumption | with_reducible refine gr_alloc ?_ _ | with_reducible refine gr_drew ?_ | with_reducible refine gr_drewN ?_ _ | with_reducible refine gr_trans ?_ (by assumption) | with_reducible refine gr_set ?_ ?_ _ | (simp; done) | omega | (simp; omega)))⟩
      have hi' : isF x0 x1 x2 p7 = true := by simpa using hi
      clear hi
      have hl := hid (L0.out hi')
      obtain ⟨_, v0, v1, v2, v3, _⟩ := id V5
      go_wp2_with fail
      refine bodyPost_ret (res_A (e := 2) rfl Tryd.underlying25 (by kernel_rfl) rfl (by (repeat (first | with_reducible assumption | with_reducible exact Arr.box (by assumption) | with_reducible apply Arr.drew | with_reducible apply Arr.drewN | with_reducible refine Arr.store4 ?_ | with_reducible apply Arr.alloc | with_reducible refine Box.drew ?_ | with_reducible refine Box.drewN ?_ _ | with_reducible refine Box.alloc ?_ _ | refine Arr.oth ?_ (by first | (simp; done) | omega | (simp; omega)) _ | refine Box.oth ?_ (by first | (simp; done) | omega | (simp; omega)) _)))) rfl ?_
      exact ⟨ret_form (by rw [E3.out, hl.out]; simp [if0]) (by rw [E3.out, hl.out]; simp [if0]) (by rw [E3.out, hl.out]; simp [if0]) (by rw [E3.out, hl.out]; simp [if0]) (by rw [E3.out, hl.out]), by (repeat' (first | with_reducible exact Below.refl _ _ | with_reducible assumption | with_reducible refine gr_alloc ?_ _ | with_reducible refine gr_drew ?_ | with_reducible refine gr_drewN ?_ _ | with_reducible refine gr_trans ?_ (by assumption) | with_reducible refine gr_set ?_ ?_ _ | (simp; done) | omega | (simp; omega)))⟩
  · have hk' : (k == 0) = false := by simpa using hk
    have E1 := hid (e1 hk)
    have HK := hid hk
    have HC := hid hc
    clear hk hc h3 h e1 e2 e3 hr hlim hlim'
    go_enter Tryd.func21, Tryd.ntmps21
    go_wp2_with fail
    refine HC.out.mono ?_
    rintro e w1 ⟨rfl, hb1⟩
    have R1 := R0.next hb1
    obtain ⟨_, r0, r1, r2, r3, f0, f1, f2, f3⟩ := id R1
    go_wp2_with fail
    refine bodyPost_ret (res_A (e := 2) rfl Tryd.underlying25 (by kernel_rfl) rfl (by (repeat (first | with_reducible assumption | with_reducible exact Arr.box (by assumption) | with_reducible apply Arr.drew | with_reducible apply Arr.drewN | with_reducible refine Arr.store4 ?_ | with_reducible apply Arr.alloc | with_reducible refine Box.drew ?_ | with_reducible refine Box.drewN ?_ _ | with_reducible refine Box.alloc ?_ _ | refine Arr.oth ?_ (by first | (simp; done) | omega | (simp; omega)) _ | refine Box.oth ?_ (by first | (simp; done) | omega | (simp; omega)) _)))) rfl ?_
    exact ⟨by rw [E1.out]; simp [if0, HK.out], by (repeat' (first | with_reducible exact Below.refl _ _ | with_reducible assumption | with_reducible refine gr_alloc ?_ _ | with_reducible refine gr_drew ?_ | with_reducible refine gr_drewN ?_ _ | with_reducible refine gr_trans ?_ (by assumption) | with_reducible refine gr_set ?_ ?_ _ | (simp; done) | omega | (simp; omega)))⟩

end Go.Proofs.YtdogkkmdccieiaaDoor
