/- Chapter 5: IsIrreducible. -/
import Derived.Test.YtmhlolimaeejfaaDoorGv
namespace Go.Proofs.YtmhlolimaeejfaaDoor
open Go.RowKit

/-- The answer of IsIrreducible, and its code. -/
def irb (a b c d : Int) : Bool := isF a b c d && (!(mul0 (cnt a b c d) 0) && (((rrt a b c d).length : Int) == 0))
def irc (a b c d : Int) : Int := if isF a b c d = true then 0 else 1
theorem irc_0 {a b c d : Int} (h : isF a b c d = true) : irc a b c d = 0 := by simp [irc, h]
theorem irc_1 {a b c d : Int} (h : isF a b c d = false) : irc a b c d = 1 := by simp [irc, h]
theorem irb_1 {a b c d : Int} (h : isF a b c d = false) : irb a b c d = false := by simp [irb, h]
theorem irb_5 {a b c d : Int} (h : mul0 (cnt a b c d) 0 = true) : irb a b c d = false := by simp [irb, h]
theorem irb_0 {a b c d : Int} (hF : isF a b c d = true) (h : mul0 (cnt a b c d) 0 = false) : irb a b c d = (((rrt a b c d).length : Int) == 0) := by simp [irb, hF, h]
theorem eq_nilI (w : World) : (binOp .eql 43 .nilIface .nilIface).run Tryd.prog w = .ok (.bool true) w := by kernel_rfl
theorem eq_errI (pv : Value) (w : World) : (binOp .eql 43 (.iface 105 pv) .nilIface).run Tryd.prog w = .ok (.bool false) w := by kernel_rfl
theorem ne_zero (a b c d : Int) (w : World) : (binOp .neq 26 (.agg #[.int .i64 a, .int .i64 b, .int .i64 c, .int .i64 d]) (.agg #[.int .i64 0, .int .i64 0, .int .i64 0, .int .i64 0])).run Tryd.prog w = .ok (.bool (!((a == 0) && ((b == 0) && ((c == 0) && (d == 0)))))) w := by
  rw [run_neq_struct]
  show ((Op.equalIn (9998 + 2) _ _ _).run _ _).andThen _ = _
  rw [eq_in]
  rfl
theorem ret_bc {x y : Bool} {m n : Int} (h : x = y) (h' : m = n) : Ending.returned (.tuple #[.bool x, .int .i64 m]) = .returned (.tuple #[.bool y, .int .i64 n]) := by rw [h, h']

set_option maxRecDepth 100000 in
set_option maxHeartbeats 2000000 in
theorem iIsIrreducible_any (a b c d : Int) (pv : Value) (w : World) (hg : Sen w pv) : Calls Tryd.prog 56 #[.agg #[.int .i64 a, .int .i64 b, .int .i64 c, .int .i64 d]] w fun e w' => e = .returned (.tuple #[.bool (irb a b c d), .int .i64 (irc a b c d)]) ∧ Below w.heap.size w w' := by
  have HC := hid (fun W => iIsForm_any a b c d W)
  have U0 := gr_alloc (Below.refl w.heap.size w) (.cells #[.int .i64 a, .int .i64 b, .int .i64 c, .int .i64 d] 26)
  have G0 := hg.alloc (.cells #[.int .i64 a, .int .i64 b, .int .i64 c, .int .i64 d] 26)
  have q1 := eq_nilI
  have q2 := eq_errI pv
  have HB1 := hid (@irb_1 a b c d); have HB5 := hid (@irb_5 a b c d); have HB0 := hid (@irb_0 a b c d)
  have HC0 := hid (@irc_0 a b c d); have HC1 := hid (@irc_1 a b c d)
  generalize irb a b c d = ib at HB1 HB5 HB0 ⊢
  generalize irc a b c d = ic at HC0 HC1 ⊢
  go_enter Tryd.func56, Tryd.ntmps56
  go_wp2_with fail
  refine (HC.out _).mono ?_
  rintro e w1 ⟨rfl, hb1⟩
  obtain ⟨_, c0, c1, c2, c3, _⟩ := (Arr.new w a b c d 26).next hb1
  have U1 := gr_trans U0 hb1
  have G1 := G0.next hb1
  cases hF : isF a b c d with
  | true =>
    have HE := hid (HC0.out hF)
    cases hN : mul0 (cnt a b c d) 0 with
    | true =>
      have HI := hid (HB5.out hN)
      have HR := hid (fun W hg => roe_rn a b c d pv W hg hF hN)
      clear hN hF
      go_wp2_with fail
      refine (HR.out _ G1).mono ?_
      rintro e w2 ⟨rfl, hb2⟩
      go_wp2_with fail
      go_ret2
      exact ⟨ret_bc HI.out.symm HE.out.symm, gr_trans U1 hb2⟩
    | false =>
      have HI := hid (HB0.out hF hN)
      have HR := hid (fun W => roe_r a b c d W hF hN)
      clear hN hF
      generalize rrt a b c d = RR at HR HI
      go_wp2_with fail
      refine (HR.out _).mono ?_
      rintro e w2 ⟨v, rfl, hO, hb2⟩
      have U2 := gr_trans U1 hb2
      have hform : ∃ va cap, v = .slice va RR.length cap := by
        rcases hO.2 with ⟨rfl, h⟩ | ⟨g, cap, cur, rfl, _⟩
        · exact ⟨none, 0, by rw [h]⟩
        · exact ⟨_, cap, rfl⟩
      obtain ⟨va, cap, rfl⟩ := hform
      clear hO
      generalize RR.length = n at HI ⊢
      cases hz : ((n : Int) == 0) with
      | true =>
        have HJ := hid (HI.out.trans hz)
        go_wp2_with fail
        go_ret2
        exact ⟨ret_bc HJ.out.symm HE.out.symm, U2⟩
      | false =>
        have HJ := hid (HI.out.trans hz)
        go_wp2_with fail
        go_ret2
        exact ⟨ret_bc HJ.out.symm HE.out.symm, U2⟩
  | false =>
    have HE := hid (HC1.out hF)
    have HI := hid (HB1.out hF)
    go_wp2_with fail
    go_ret2
    exact ⟨ret_bc HI.out.symm HE.out.symm, U1⟩

theorem l05Rat_any (a b c d : Int) (w : World) (hF : isF a b c d = true) (hN : mul0 (cnt a b c d) 0 = false) : Calls Tryd.prog 54 #[.agg #[.int .i64 a, .int .i64 b, .int .i64 c, .int .i64 d]] w (RwOut 2 ((rrt a b c d).map rw2) w) := by
  obtain ⟨ha, hb, hc, hd⟩ := isF_t hF
  obtain ⟨e, h1, h2⟩ := flK_N ha hb hc hd
  rw [flK_abs] at e
  obtain ⟨e1, e2⟩ := Prod.mk.inj e
  have n1 := nz_f hN
  have n2 := nz_l hN
  rw [rr_list ha hb hc hd hN]
  exact l05Rational_any a b c d _ _ w ha hb hc hd (by omega) (by omega) (by omega) (by omega) h1 h2

set_option maxRecDepth 100000 in
set_option maxHeartbeats 2000000 in
theorem l05Irreducible_any (a b c d : Int) (w : World) (hF : isF a b c d = true) : Calls Tryd.prog 38 #[.agg #[.int .i64 a, .int .i64 b, .int .i64 c, .int .i64 d]] w fun e w' => e = .returned (.bool (irb a b c d)) ∧ Below w.heap.size w w' := by
  have q := ne_zero a b c d
  rw [← cnt_zero] at q
  have HR := hid (fun (hN : mul0 (cnt a b c d) 0 = false) W => l05Rat_any a b c d W hF hN)
  have HB5 := hid (@irb_5 a b c d); have HB0 := hid (@irb_0 a b c d hF)
  generalize irb a b c d = ib at HB5 HB0 ⊢
  generalize rrt a b c d = RR at HR HB0
  generalize mul0 (cnt a b c d) 0 = N at q HR HB5 HB0
  have U0 := gr_alloc (Below.refl w.heap.size w) (.cells #[.int .i64 a, .int .i64 b, .int .i64 c, .int .i64 d] 26)
  obtain ⟨_, c0, c1, c2, c3, _⟩ := Arr.new w a b c d 26
  go_enter Tryd.func38, Tryd.ntmps38
  cases N with
  | true =>
    have HI := hid (HB5.out rfl)
    go_wp2_with fail
    go_ret
    exact ⟨ret_bool HI.out.symm, U0⟩
  | false =>
    have HI := hid (HB0.out rfl)
    have HR2 := hid (HR.out rfl)
    go_wp2_with fail
    refine (HR2.out _).mono ?_
    rintro e w3 ⟨v, rfl, ⟨T, hX⟩, hb3⟩
    have U3 := gr_trans U0 hb3
    obtain ⟨va, cap, rfl, _⟩ := owns_form hX.own
    have hlen : (RR.map rw2).length = RR.length := List.length_map _
    rw [hlen]
    clear hX hlen
    generalize RR.length = n at HI ⊢
    cases hz : ((n : Int) == 0) with
    | true =>
      have HJ := hid (HI.out.trans hz)
      go_wp2_with fail
      go_ret
      exact ⟨ret_bool HJ.out.symm, U3⟩
    | false =>
      have HJ := hid (HI.out.trans hz)
      go_wp2_with fail
      go_ret
      exact ⟨ret_bool HJ.out.symm, U3⟩




end Go.Proofs.YtmhlolimaeejfaaDoor
