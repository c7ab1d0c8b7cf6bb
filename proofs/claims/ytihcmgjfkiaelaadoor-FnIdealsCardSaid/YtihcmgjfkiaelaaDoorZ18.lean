/- Several texts in one: XC1v, XYk. -/
import Derived.Test.YtihcmgjfkiaelaaDoorC1u
import Derived.Test.YtihcmgjfkiaelaaDoorZ11
import Derived.Deep.DeepCutAuto
import Derived.Deep.RegionHeld3
import Derived.Test.YtihcmgjfkiaelaaDoorZ15
import Derived.Test.YtihcmgjfkiaelaaDoorYs
import Derived.Test.YtihcmgjfkiaelaaDoorSg

/- Chapter 1: changed forms of the program and of the model, whole. -/
namespace Go.Proofs.YtihcmgjfkiaelaaDoor
open Go.RowKit

/-- The code of a changed form. -/
def chc (a b c d p q r s : Int) : Int := if isF a b c d && isF p q r s then (if isF (cA a b c d p r) (cB a b c d p q r s) (cC a b c d p q r s) (cA a b c d q s) then 0 else 3) else 1

set_option maxHeartbeats 400000 in
theorem iLimit_any (a b c d : Int) (w : World) :
    Calls Tryd.prog 64 #[.agg #[.int .i64 a, .int .i64 b, .int .i64 c, .int .i64 d]] w fun e w' => e = .returned (.tuple #[.agg #[.int .i64 (ifF a b c d a), .int .i64 (ifF a b c d b), .int .i64 (ifF a b c d c), .int .i64 (ifF a b c d d)], .int .i64 ((if isF a b c d then 0 else 3))]) ∧ Below w.heap.size w w' := by
  go_enter Tryd.func64, Tryd.ntmps64
  go_wp2_with fail
  refine (iIsForm_any a b c d _).mono ?_
  rintro e w1 ⟨rfl, hb1⟩
  have A1 := ((Arr.new w a b c d 25).alloc (.cells #[.int .i64 0, .int .i64 0, .int .i64 0, .int .i64 0] 25)).next hb1
  have R1 := (Arr.new (w.alloc (.cells #[.int .i64 a, .int .i64 b, .int .i64 c, .int .i64 d] 25)) 0 0 0 0 25).next hb1
  simp only [World.size_alloc] at R1
  obtain ⟨_, c0, c1, c2, c3, _⟩ := id A1
  obtain ⟨_, r0, r1, r2, r3, f0, f1, f2, f3⟩ := id R1
  go_wp2
  all_goals (refine bodyPost_ret (res_A (e := 2) rfl Tryd.underlying25 (by kernel_rfl) rfl (by (repeat (first | with_reducible assumption | with_reducible exact Arr.box (by assumption) | with_reducible apply Arr.drew | with_reducible apply Arr.drewN | with_reducible refine Arr.store4 ?_ | with_reducible apply Arr.alloc | with_reducible refine Box.drew ?_ | with_reducible refine Box.drewN ?_ _ | with_reducible refine Box.alloc ?_ _ | refine Arr.oth ?_ (by first | (simp; done) | omega | (simp; omega)) _ | refine Box.oth ?_ (by first | (simp; done) | omega | (simp; omega)) _)))) rfl ?_; exact ⟨ret_form (by go_light; simp_all [ifF]) (by go_light; simp_all [ifF]) (by go_light; simp_all [ifF]) (by go_light; simp_all [ifF]) (by go_light; simp_all), by (repeat' (first | with_reducible exact Below.refl _ _ | with_reducible assumption | with_reducible refine gr_alloc ?_ _ | with_reducible refine gr_drew ?_ | with_reducible refine gr_drewN ?_ _ | with_reducible refine gr_trans ?_ (by assumption) | with_reducible refine gr_set ?_ ?_ _ | (simp; done) | omega | (simp; omega)))⟩)

set_option maxHeartbeats 400000 in
theorem sFits_any (a b c d : Int) (w : World) :
    Calls Tryd.prog 73 #[.agg #[.int .i64 a, .int .i64 b, .int .i64 c, .int .i64 d]] w fun e w' => e = .returned (.bool (isF a b c d)) ∧ Below w.heap.size w w' := by
  go_enter Tryd.func73, Tryd.ntmps73
  go_wp2_with fail
  refine (l01Is_any a b c d _).mono ?_
  rintro e w1 ⟨rfl, hb1⟩
  go_wp2
  go_ret
  exact ⟨rfl, by (repeat' (first | with_reducible exact Below.refl _ _ | with_reducible assumption | with_reducible refine gr_alloc ?_ _ | with_reducible refine gr_drew ?_ | with_reducible refine gr_drewN ?_ _ | with_reducible refine gr_trans ?_ (by assumption) | with_reducible refine gr_set ?_ ?_ _ | (simp; done) | omega | (simp; omega)))⟩





end Go.Proofs.YtihcmgjfkiaelaaDoor

/- Chapter 9: signatures, groups, leading forms, pure fields. -/
namespace Go.Proofs.YtihcmgjfkiaelaaDoor
open Go.RowKit

/-- The code of a form with a field, beside other arguments that are in their ranges or not. -/
def gvc (a b c d : Int) (r : Bool) : Int := if isF a b c d then (if r then (if irb a b c d then 0 else 5) else 2) else 1
theorem gvc_1 {a b c d : Int} {r : Bool} (h : isF a b c d = false) : gvc a b c d r = 1 := by simp [gvc, h]
theorem gvc_2 {a b c d : Int} (h : isF a b c d = true) : gvc a b c d false = 2 := by simp [gvc, h]
theorem gvc_5 {a b c d : Int} (h : isF a b c d = true) (hi : irb a b c d = false) : gvc a b c d true = 5 := by simp [gvc, h, hi]
theorem gvc_0 {a b c d : Int} (h : isF a b c d = true) (hi : irb a b c d = true) : gvc a b c d true = 0 := by simp [gvc, h, hi]
theorem gvc_t {a b c d : Int} {r : Bool} (h : gvc a b c d r = 0) : isF a b c d = true ∧ r = true ∧ irb a b c d = true := by
  unfold gvc at h
  split at h
  · split at h
    · split at h
      · exact ⟨‹_›, ‹_›, ‹_›⟩
      · omega
    · omega
  · omega

set_option maxRecDepth 100000 in
set_option maxHeartbeats 1000000 in
theorem iGiven_any (a b c d : Int) (r : Bool) (pv : Value) (w : World) (hg : Sen w pv) : Calls Tryd.prog 43 #[.agg #[.int .i64 a, .int .i64 b, .int .i64 c, .int .i64 d], .bool r] w fun e w' => e = .returned (.int .i64 (gvc a b c d r)) ∧ Below w.heap.size w w' := by
  have HC := hid (fun W => iIsForm_any a b c d W)
  have HI := hid (fun W hg => iIsIrreducible_any a b c d pv W hg)
  have H1 := hid (@gvc_1 a b c d r); have H2 := hid (@gvc_2 a b c d); have H5 := hid (@gvc_5 a b c d); have H0 := hid (@gvc_0 a b c d)
  generalize hgv : gvc a b c d = gv at H1 H2 H5 H0 ⊢
  generalize irb a b c d = ib at HI H5 H0
  generalize irc a b c d = ic at HI
  clear hgv
  have A0 := Arr.new w a b c d 25
  have U0 := gr_alloc (Below.refl w.heap.size w) (.cells #[.int .i64 a, .int .i64 b, .int .i64 c, .int .i64 d] 25)
  have G0 := hg.alloc (.cells #[.int .i64 a, .int .i64 b, .int .i64 c, .int .i64 d] 25)
  go_enter Tryd.func43, Tryd.ntmps43
  go_wp2_with fail
  refine (HC.out _).mono ?_
  rintro e w1 ⟨rfl, hb1⟩
  have A1 := A0.next hb1
  have U1 := gr_trans U0 hb1
  have G1 := G0.next hb1
  clear A0 U0 G0
  cases hF : isF a b c d with
  | false =>
    have HE := hid (H1.out hF)
    go_wp2_with fail
    go_ret
    exact ⟨ret_int HE.out.symm, U1⟩
  | true =>
    cases r with
    | false =>
      have HE := hid (H2.out hF)
      go_wp2_with fail
      go_ret
      exact ⟨ret_int HE.out.symm, U1⟩
    | true =>
      have HF := hid hF
      clear hF
      obtain ⟨_, c0, c1, c2, c3, _⟩ := id A1
      go_wp2_with fail
      refine (HI.out _ G1).mono ?_
      rintro e w2 ⟨rfl, hb2⟩
      have U2 := gr_trans U1 hb2
      cases ib with
      | false =>
        have HE := hid (H5.out HF.out rfl)
        go_wp2_with fail
        go_ret
        exact ⟨ret_int HE.out.symm, U2⟩
      | true =>
        have HE := hid (H0.out HF.out rfl)
        go_wp2_with fail
        go_ret
        exact ⟨ret_int HE.out.symm, U2⟩

set_option maxRecDepth 100000 in
set_option maxHeartbeats 1000000 in
theorem sGiven_any (a b c d : Int) (w : World) : Calls Tryd.prog 60 #[.agg #[.int .i64 a, .int .i64 b, .int .i64 c, .int .i64 d]] w fun e w' => e = .returned (.int .i64 (gvc a b c d true)) ∧ Below w.heap.size w w' := by
  have HC := hid (fun W => l01Is_any a b c d W)
  have HI := hid (fun hF W => l05Irreducible_any a b c d W hF)
  have H1 := hid (@gvc_1 a b c d true); have H5 := hid (@gvc_5 a b c d); have H0 := hid (@gvc_0 a b c d)
  generalize gvc a b c d true = gv at H1 H5 H0 ⊢
  generalize irb a b c d = ib at HI H5 H0
  have A0 := Arr.new w a b c d 25
  have U0 := gr_alloc (Below.refl w.heap.size w) (.cells #[.int .i64 a, .int .i64 b, .int .i64 c, .int .i64 d] 25)
  go_enter Tryd.func60, Tryd.ntmps60
  go_wp2_with fail
  refine (HC.out _).mono ?_
  rintro e w1 ⟨rfl, hb1⟩
  have A1 := A0.next hb1
  have U1 := gr_trans U0 hb1
  clear A0 U0
  cases hF : isF a b c d with
  | false =>
    have HE := hid (H1.out hF)
    go_wp2_with fail
    go_ret
    exact ⟨ret_int HE.out.symm, U1⟩
  | true =>
    have HI1 := hid (HI.out hF)
    have HF := hid hF
    clear hF
    obtain ⟨_, c0, c1, c2, c3, _⟩ := id A1
    go_wp2_with fail
    refine (HI1.out _).mono ?_
    rintro e w2 ⟨rfl, hb2⟩
    have U2 := gr_trans U1 hb2
    cases ib with
    | false =>
      have HE := hid (H5.out HF.out rfl)
      go_wp2_with fail
      go_ret
      exact ⟨ret_int HE.out.symm, U2⟩
    | true =>
      have HE := hid (H0.out HF.out rfl)
      go_wp2_with fail
      go_ret
      exact ⟨ret_int HE.out.symm, U2⟩


end Go.Proofs.YtihcmgjfkiaelaaDoor
