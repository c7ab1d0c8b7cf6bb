/- Chapter 9: signatures, groups, leading forms, pure fields. -/
import Derived.Test.YtmhlolimaeejfaaDoorGw
import Derived.Test.YtmhlolimaeejfaaDoorYs
import Derived.Test.YtmhlolimaeejfaaDoorSg
import Derived.Test.YtmhlolimaeejfaaDoorC1v
namespace Go.Proofs.YtmhlolimaeejfaaDoor
open Go.RowKit

/-- The code of a form with a field, beside other arguments that are in their ranges or not. -/
def gvc (a b c d : Int) (r : Bool) : Int := if isF a b c d then (if r then (if irb a b c d then 0 else 5) else 2) else 1
theorem gvc_1 {a b c d : Int} {r : Bool} (h : isF a b c d = false) : gvc a b c d r = 1 := by simp [gvc, h]
theorem gvc_2 {a b c d : Int} (h : isF a b c d = true) : gvc a b c d false = 2 := by simp [gvc, h]
theorem gvc_5 {a b c d : Int} (h : isF a b c d = true) (hi : irb a b c d = false) : gvc a b c d true = 5 := by simp [gvc, h, hi]
theorem gvc_0 {a b c d : Int} (h : isF a b c d = true) (hi : irb a b c d = true) : gvc a b c d true = 0 := by simp [gvc, h, hi]
theorem gvc_t {a b c d : Int} {r : Bool} (h : gvc a b c d r = 0) : isF a b c d = true ∧ r = true ∧ irb a b c d = true := by
  unfold gvc at h
  split at h
  · split at h
    · split at h
      · exact ⟨‹_›, ‹_›, ‹_›⟩
      · omega
    · omega
  · omega

set_option maxRecDepth 100000 in
set_option maxHeartbeats 1000000 in
theorem iGiven_any (a b c d : Int) (r : Bool) (pv : Value) (w : World) (hg : Sen w pv) : Calls Tryd.prog 42 #[.agg #[.int .i64 a, .int .i64 b, .int .i64 c, .int .i64 d], .bool r] w fun e w' => e = .returned (.int .i64 (gvc a b c d r)) ∧ Below w.heap.size w w' := by
  have HC := hid (fun W => iIsForm_any a b c d W)
  have HI := hid (fun W hg => iIsIrreducible_any a b c d pv W hg)
  have H1 := hid (@gvc_1 a b c d r); have H2 := hid (@gvc_2 a b c d); have H5 := hid (@gvc_5 a b c d); have H0 := hid (@gvc_0 a b c d)
  generalize hgv : gvc a b c d = gv at H1 H2 H5 H0 ⊢
  generalize irb a b c d = ib at HI H5 H0
  generalize irc a b c d = ic at HI
  clear hgv
  have A0 := Arr.new w a b c d 26
  have U0 := gr_alloc (Below.refl w.heap.size w) (.cells #[.int .i64 a, .int .i64 b, .int .i64 c, .int .i64 d] 26)
  have G0 := hg.alloc (.cells #[.int .i64 a, .int .i64 b, .int .i64 c, .int .i64 d] 26)
  go_enter Tryd.func42, Tryd.ntmps42
  go_wp2_with fail
  refine (HC.out _).mono ?_
  rintro e w1 ⟨rfl, hb1⟩
  have A1 := A0.next hb1
  have U1 := gr_trans U0 hb1
  have G1 := G0.next hb1
  clear A0 U0 G0
  cases hF : isF a b c d with
  | false =>
    have HE := hid (H1.out hF)
    go_wp2_with fail
    go_ret
    exact ⟨ret_int HE.out.symm, U1⟩
  | true =>
    cases r with
    | false =>
      have HE := hid (H2.out hF)
      go_wp2_with fail
      go_ret
      exact ⟨ret_int HE.out.symm, U1⟩
    | true =>
      have HF := hid hF
      clear hF
      obtain ⟨_, c0, c1, c2, c3, _⟩ := id A1
      go_wp2_with fail
      refine (HI.out _ G1).mono ?_
      rintro e w2 ⟨rfl, hb2⟩
      have U2 := gr_trans U1 hb2
      cases ib with
      | false =>
        have HE := hid (H5.out HF.out rfl)
        go_wp2_with fail
        go_ret
        exact ⟨ret_int HE.out.symm, U2⟩
      | true =>
        have HE := hid (H0.out HF.out rfl)
        go_wp2_with fail
        go_ret
        exact ⟨ret_int HE.out.symm, U2⟩




end Go.Proofs.YtmhlolimaeejfaaDoor
