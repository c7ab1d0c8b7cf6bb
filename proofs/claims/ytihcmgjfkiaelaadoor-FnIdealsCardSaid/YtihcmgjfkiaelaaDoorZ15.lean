/- Several texts in one: XGw, XDraw15. -/
import Derived.Test.YtihcmgjfkiaelaaDoorZ14
import Derived.Test.YtihcmgjfkiaelaaDoorDraw13

/- Chapter 5: IsIrreducible. -/
namespace Go.Proofs.YtihcmgjfkiaelaaDoor
open Go.RowKit

/-- The answer of IsIrreducible, and its code. -/
def irb (a b c d : Int) : Bool := isF a b c d && (!(mul0 (cnt a b c d) 0) && (((rrt a b c d).length : Int) == 0))
def irc (a b c d : Int) : Int := if isF a b c d = true then 0 else 1
theorem irc_0 {a b c d : Int} (h : isF a b c d = true) : irc a b c d = 0 := by simp [irc, h]
theorem irc_1 {a b c d : Int} (h : isF a b c d = false) : irc a b c d = 1 := by simp [irc, h]
theorem irb_1 {a b c d : Int} (h : isF a b c d = false) : irb a b c d = false := by simp [irb, h]
theorem irb_5 {a b c d : Int} (h : mul0 (cnt a b c d) 0 = true) : irb a b c d = false := by simp [irb, h]
theorem irb_0 {a b c d : Int} (hF : isF a b c d = true) (h : mul0 (cnt a b c d) 0 = false) : irb a b c d = (((rrt a b c d).length : Int) == 0) := by simp [irb, hF, h]
theorem eq_nilI (w : World) : (binOp .eql 98 .nilIface .nilIface).run Tryd.prog w = .ok (.bool true) w := by kernel_rfl
theorem eq_errI (pv : Value) (w : World) : (binOp .eql 98 (.iface 130 pv) .nilIface).run Tryd.prog w = .ok (.bool false) w := by kernel_rfl
theorem ne_zero (a b c d : Int) (w : World) : (binOp .neq 25 (.agg #[.int .i64 a, .int .i64 b, .int .i64 c, .int .i64 d]) (.agg #[.int .i64 0, .int .i64 0, .int .i64 0, .int .i64 0])).run Tryd.prog w = .ok (.bool (!((a == 0) && ((b == 0) && ((c == 0) && (d == 0)))))) w := by
  rw [run_neq_struct]
  show ((Op.equalIn (9998 + 2) _ _ _).run _ _).andThen _ = _
  rw [eq_in]
  rfl
theorem ret_bc {x y : Bool} {m n : Int} (h : x = y) (h' : m = n) : Ending.returned (.tuple #[.bool x, .int .i64 m]) = .returned (.tuple #[.bool y, .int .i64 n]) := by rw [h, h']

set_option maxRecDepth 100000 in
set_option maxHeartbeats 2000000 in
theorem iIsIrreducible_any (a b c d : Int) (pv : Value) (w : World) (hg : Sen w pv) : Calls Tryd.prog 86 #[.agg #[.int .i64 a, .int .i64 b, .int .i64 c, .int .i64 d]] w fun e w' => e = .returned (.tuple #[.bool (irb a b c d), .int .i64 (irc a b c d)]) ∧ Below w.heap.size w w' := by
  have HC := hid (fun W => iIsForm_any a b c d W)
  have U0 := gr_alloc (Below.refl w.heap.size w) (.cells #[.int .i64 a, .int .i64 b, .int .i64 c, .int .i64 d] 25)
  have G0 := hg.alloc (.cells #[.int .i64 a, .int .i64 b, .int .i64 c, .int .i64 d] 25)
  have q1 := eq_nilI
  have q2 := eq_errI pv
  have HB1 := hid (@irb_1 a b c d); have HB5 := hid (@irb_5 a b c d); have HB0 := hid (@irb_0 a b c d)
  have HC0 := hid (@irc_0 a b c d); have HC1 := hid (@irc_1 a b c d)
  generalize irb a b c d = ib at HB1 HB5 HB0 ⊢
  generalize irc a b c d = ic at HC0 HC1 ⊢
  go_enter Tryd.func86, Tryd.ntmps86
  go_wp2_with fail
  refine (HC.out _).mono ?_
  rintro e w1 ⟨rfl, hb1⟩
  obtain ⟨_, c0, c1, c2, c3, _⟩ := (Arr.new w a b c d 25).next hb1
  have U1 := gr_trans U0 hb1
  have G1 := G0.next hb1
  cases hF : isF a b c d with
  | true =>
    have HE := hid (HC0.out hF)
    cases hN : mul0 (cnt a b c d) 0 with
    | true =>
      have HI := hid (HB5.out hN)
      have HR := hid (fun W hg => roe_rn a b c d pv W hg hF hN)
      clear hN hF
      go_wp2_with fail
      refine (HR.out _ G1).mono ?_
      rintro e w2 ⟨rfl, hb2⟩
      go_wp2_with fail
      go_ret2
      exact ⟨ret_bc HI.out.symm HE.out.symm, gr_trans U1 hb2⟩
    | false =>
      have HI := hid (HB0.out hF hN)
      have HR := hid (fun W => roe_r a b c d W hF hN)
      clear hN hF
      generalize rrt a b c d = RR at HR HI
      go_wp2_with fail
      refine (HR.out _).mono ?_
      rintro e w2 ⟨v, rfl, hO, hb2⟩
      have U2 := gr_trans U1 hb2
      have hform : ∃ va cap, v = .slice va RR.length cap := by
        rcases hO.2 with ⟨rfl, h⟩ | ⟨g, cap, cur, rfl, _⟩
        · exact ⟨none, 0, by rw [h]⟩
        · exact ⟨_, cap, rfl⟩
      obtain ⟨va, cap, rfl⟩ := hform
      clear hO
      generalize RR.length = n at HI ⊢
      cases hz : ((n : Int) == 0) with
      | true =>
        have HJ := hid (HI.out.trans hz)
        go_wp2_with fail
        go_ret2
        exact ⟨ret_bc HJ.out.symm HE.out.symm, U2⟩
      | false =>
        have HJ := hid (HI.out.trans hz)
        go_wp2_with fail
        go_ret2
        exact ⟨ret_bc HJ.out.symm HE.out.symm, U2⟩
  | false =>
    have HE := hid (HC1.out hF)
    have HI := hid (HB1.out hF)
    go_wp2_with fail
    go_ret2
    exact ⟨ret_bc HI.out.symm HE.out.symm, U1⟩

theorem l05Rat_any (a b c d : Int) (w : World) (hF : isF a b c d = true) (hN : mul0 (cnt a b c d) 0 = false) : Calls Tryd.prog 92 #[.agg #[.int .i64 a, .int .i64 b, .int .i64 c, .int .i64 d]] w (RwOut 2 ((rrt a b c d).map rw2) w) := by
  obtain ⟨ha, hb, hc, hd⟩ := isF_t hF
  obtain ⟨e, h1, h2⟩ := flK_N ha hb hc hd
  rw [flK_abs] at e
  obtain ⟨e1, e2⟩ := Prod.mk.inj e
  have n1 := nz_f hN
  have n2 := nz_l hN
  rw [rr_list ha hb hc hd hN]
  exact l05Rational_any a b c d _ _ w ha hb hc hd (by omega) (by omega) (by omega) (by omega) h1 h2

set_option maxRecDepth 100000 in
set_option maxHeartbeats 2000000 in
theorem l05Irreducible_any (a b c d : Int) (w : World) (hF : isF a b c d = true) : Calls Tryd.prog 52 #[.agg #[.int .i64 a, .int .i64 b, .int .i64 c, .int .i64 d]] w fun e w' => e = .returned (.bool (irb a b c d)) ∧ Below w.heap.size w w' := by
  have q := ne_zero a b c d
  rw [← cnt_zero] at q
  have HR := hid (fun (hN : mul0 (cnt a b c d) 0 = false) W => l05Rat_any a b c d W hF hN)
  have HB5 := hid (@irb_5 a b c d); have HB0 := hid (@irb_0 a b c d hF)
  generalize irb a b c d = ib at HB5 HB0 ⊢
  generalize rrt a b c d = RR at HR HB0
  generalize mul0 (cnt a b c d) 0 = N at q HR HB5 HB0
  have U0 := gr_alloc (Below.refl w.heap.size w) (.cells #[.int .i64 a, .int .i64 b, .int .i64 c, .int .i64 d] 25)
  obtain ⟨_, c0, c1, c2, c3, _⟩ := Arr.new w a b c d 25
  go_enter Tryd.func52, Tryd.ntmps52
  cases N with
  | true =>
    have HI := hid (HB5.out rfl)
    go_wp2_with fail
    go_ret
    exact ⟨ret_bool HI.out.symm, U0⟩
  | false =>
    have HI := hid (HB0.out rfl)
    have HR2 := hid (HR.out rfl)
    go_wp2_with fail
    refine (HR2.out _).mono ?_
    rintro e w3 ⟨v, rfl, ⟨T, hX⟩, hb3⟩
    have U3 := gr_trans U0 hb3
    obtain ⟨va, cap, rfl, _⟩ := owns_form hX.own
    have hlen : (RR.map rw2).length = RR.length := List.length_map _
    rw [hlen]
    clear hX hlen
    generalize RR.length = n at HI ⊢
    cases hz : ((n : Int) == 0) with
    | true =>
      have HJ := hid (HI.out.trans hz)
      go_wp2_with fail
      go_ret
      exact ⟨ret_bool HJ.out.symm, U3⟩
    | false =>
      have HJ := hid (HI.out.trans hz)
      go_wp2_with fail
      go_ret
      exact ⟨ret_bool HJ.out.symm, U3⟩




end Go.Proofs.YtihcmgjfkiaelaaDoor

/- Draws: forms with small numbers, and their bounds. -/
namespace Go.Proofs.YtihcmgjfkiaelaaDoor
open Go.ChangeShapes Go.WideShapes Go.ChangeAt Go.RowKit

/-- Four numbers of at most B in absolute value. -/
def FB (B p q r s : Int) : Prop := (-B ≤ p ∧ p ≤ B) ∧ (-B ≤ q ∧ q ≤ B) ∧ (-B ≤ r ∧ r ≤ B) ∧ (-B ≤ s ∧ s ≤ B)
theorem FB.mono {B C p q r s : Int} (h : FB B p q r s) (hB : B ≤ C) : FB C p q r s := by unfold FB at *; omega
def NumP (P : Int → Prop) (k : Nat) (a : Option Addr) (len cap : Nat) (zs : List Int) (w : World) (e : Ending) (w' : World) : Prop :=
  ∃ x : Int, e = .returned (.int .i64 x) ∧ P x ∧ Src w' k a len cap zs ∧ Gk k w w'
def FrmB (B : Int) (k : Nat) (a : Option Addr) (len cap : Nat) (zs : List Int) (w : World) (e : Ending) (w' : World) : Prop :=
  ∃ p q r s : Int, e = .returned (.agg #[.int .i64 p, .int .i64 q, .int .i64 r, .int .i64 s]) ∧ FB B p q r s ∧ Src w' k a len cap zs ∧ Gk k w w'
theorem lit_cellsP (P : Int → Prop) (w : World) (t : TypeId) (l : List Int) (hl : ∀ x ∈ l, P x) : ∀ i, i < l.length → ∃ x : Int, P x ∧ (w.alloc (.cells (l.map (Value.int .i64)).toArray t)).cell? ⟨w.heap.size, i, none⟩ = some (.int .i64 x) := fun i hi =>
  ⟨l[i], hl _ (List.getElem_mem hi), by simp [go_sem, hi]⟩

set_option maxHeartbeats 400000 in
theorem pickP (P : Int → Prop) (k : Nat) (a : Option Addr) (len cap : Nat) (zs : List Int) (b m : Nat) (w : World) (hS : Src w k a len cap zs) (hm1 : 1 ≤ m) (hm2 : m ≤ 1000) (hb : b < w.heap.size) (hk : b ≠ k) (hL : ∀ i, i < m → ∃ x : Int, P x ∧ w.cell? ⟨b, i, none⟩ = some (.int .i64 x)) :
    Calls Tryd.prog 67 #[.pointer (some ⟨k, 0, none⟩), .slice (some ⟨b, 0, none⟩) m m] w (NumP P k a len cap zs w) := by
  have HL := hid hL
  clear hL
  go_enter Tryd.func67, Tryd.ntmps67
  go_wp2_with fail
  refine (next_any k a len cap zs _ _ hS).mono ?_
  rintro e w1 ⟨x, rfl, h0, h1, S1, G1⟩
  obtain ⟨j, rfl⟩ : ∃ j : Nat, x = j := ⟨x.toNat, by omega⟩
  have hj : j < m := by omega
  obtain ⟨y, hyb, hy⟩ := HL.out j hj
  have HYB := hid hyb
  clear hyb
  have hy1 : w1.cell? ⟨b, j, none⟩ = some (.int .i64 y) := (G1.cell (p := ⟨b, j, none⟩) hb hk).trans hy
  have HS := hid S1
  clear hy h1 S1 hS
  go_wp2
  go_ret
  exact ⟨y, rfl, HYB.out, HS.out, G1⟩

set_option maxHeartbeats 400000 in
theorem partB (k : Nat) (a : Option Addr) (len cap : Nat) (zs : List Int) (n : Int) (w : World) (hS : Src w k a len cap zs) (hn : 0 ≤ n ∧ n ≤ 1000) :
    Calls Tryd.prog 68 #[.pointer (some ⟨k, 0, none⟩), .int .i64 n] w (NumP (fun x => -n ≤ x ∧ x ≤ n) k a len cap zs w) := by
  go_enter Tryd.func68, Tryd.ntmps68
  go_wp2_with fail
  refine (next_any k a len cap zs _ _ hS).mono ?_
  rintro e w1 ⟨x, rfl, h0, h1, S1, G1⟩
  have hx : x ≤ 2 * n := by omega
  have HS := hid S1
  clear S1 hS
  go_wp2
  go_ret
  exact ⟨_, rfl, by omega, HS.out, G1⟩

set_option maxHeartbeats 1000000 in
theorem drawOfB (k : Nat) (a : Option Addr) (len cap : Nat) (zs : List Int) (n : Int) (w : World) (hS : Src w k a len cap zs) (hn : 0 ≤ n ∧ n ≤ 1000) :
    Calls Tryd.prog 97 #[.pointer (some ⟨k, 0, none⟩), .int .i64 n] w (FrmB n k a len cap zs w) := by
  have hl := hS.lt
  have R0 := Arr.new w 0 0 0 0 25
  have S0 := hid (hS.alloc (.cells #[.int .i64 0, .int .i64 0, .int .i64 0, .int .i64 0] 25))
  have G0 := (Gk.refl k w).alloc (.cells #[.int .i64 0, .int .i64 0, .int .i64 0, .int .i64 0] 25)
  clear hS
  go_enter Tryd.func97, Tryd.ntmps97
  go_wp2_with fail
  refine (partB k a len cap zs _ _ S0.out hn).mono ?_
  rintro e w1 ⟨x1, rfl, hb1, S1', G1⟩
  have S1 := hid S1'
  have HB1 := hid hb1
  clear hb1
  have R1 := R0.gk G1 (by omega)
  have H1 := G0.trans G1
  clear S1' G1 R0 G0 S0
  go_wp2_with fail
  refine (partB k a len cap zs _ _ S1.out hn).mono ?_
  rintro e w2 ⟨x2, rfl, hb2, S2', G2⟩
  have S2 := hid S2'
  have HB2 := hid hb2
  clear hb2
  have R2 := R1.gk G2 (by omega)
  have H2 := H1.trans G2
  clear S2' G2 R1 H1 S1
  go_wp2_with fail
  refine (partB k a len cap zs _ _ S2.out hn).mono ?_
  rintro e w3 ⟨x3, rfl, hb3, S3', G3⟩
  have S3 := hid S3'
  have HB3 := hid hb3
  clear hb3
  have R3 := R2.gk G3 (by omega)
  have H3 := H2.trans G3
  clear S3' G3 R2 H2 S2
  go_wp2_with fail
  refine (partB k a len cap zs _ _ S3.out hn).mono ?_
  rintro e w4 ⟨x4, rfl, hb4, S4', G4⟩
  have S4 := hid S4'
  have HB4 := hid hb4
  clear hb4
  have R4 := R3.gk G4 (by omega)
  have H4 := H3.trans G4
  clear S4' G4 R3 H3 S3
  obtain ⟨_, r0, r1, r2, r3, f0, f1, f2, f3⟩ := id R4
  go_wp2_with fail
  refine bodyPost_ret (res_A1 (e := 2) rfl Tryd.underlying25 (by kernel_rfl) rfl (by (repeat (first | with_reducible assumption | with_reducible exact Arr.box (by assumption) | with_reducible apply Arr.drew | with_reducible apply Arr.drewN | with_reducible refine Arr.store4 ?_ | with_reducible apply Arr.alloc | with_reducible refine Box.drew ?_ | with_reducible refine Box.drewN ?_ _ | with_reducible refine Box.alloc ?_ _ | refine Arr.oth ?_ (by first | (simp; done) | omega | (simp; omega)) _ | refine Box.oth ?_ (by first | (simp; done) | omega | (simp; omega)) _)))) rfl ?_
  exact ⟨_, _, _, _, rfl, ⟨HB1.out, HB2.out, HB3.out, HB4.out⟩, (((S4.out.up (by simpa using hl) _).up (by simpa using hl) _).up (by simpa using hl) _).up (by simpa using hl) _, (((H4.up (by simp) _).up (by simp) _).up (by simp) _).up (by simp) _⟩


set_option maxHeartbeats 2000000 in
theorem smallB (k : Nat) (a : Option Addr) (len cap : Nat) (zs : List Int) (w : World) (hS : Src w k a len cap zs) :
    Calls Tryd.prog 83 #[.pointer (some ⟨k, 0, none⟩)] w (FrmB 5 k a len cap zs w) := by
  have hl := hS.lt
  have R0 := (Arr.new w 0 0 0 0 25).alloc (.cells #[.int .i64 1, .int .i64 2, .int .i64 3, .int .i64 5] 2)
  have S0 := hid ((hS.alloc (.cells #[.int .i64 0, .int .i64 0, .int .i64 0, .int .i64 0] 25)).alloc (.cells #[.int .i64 1, .int .i64 2, .int .i64 3, .int .i64 5] 2))
  have H0 := ((Gk.refl k w).alloc (.cells #[.int .i64 0, .int .i64 0, .int .i64 0, .int .i64 0] 25)).alloc (.cells #[.int .i64 1, .int .i64 2, .int .i64 3, .int .i64 5] 2)
  have hL := lit_cellsP (fun x => 0 ≤ x ∧ x ≤ 5) (w.alloc (.cells #[.int .i64 0, .int .i64 0, .int .i64 0, .int .i64 0] 25)) 2 [1, 2, 3, 5] (by decide)
  simp only [World.size_alloc] at hL
  have HL := hid hL
  clear hS hL
  go_enter Tryd.func83, Tryd.ntmps83
  go_wp2_with fail
  refine (pickP _ k a len cap zs _ 4 _ S0.out (by omega) (by omega) (by simp) (by omega) HL.out).mono ?_
  rintro e w1 ⟨x1, rfl, hx1, S1', G1⟩
  have S1 := hid S1'
  have R1 := R0.gk G1 (by omega)
  have H1 := H0.trans G1
  clear S1' G1 R0 H0 S0
  clear HL
  go_wp2_with fail
  refine (drawOfB k a len cap zs _ _ S1.out ⟨hx1.1, by omega⟩).mono ?_
  rintro e w2 ⟨p2, q2, r2, s2, rfl, hb2, S2', G2⟩
  have S2 := hid S2'
  have HB2 := hid (show FB 5 p2 q2 r2 s2 from hb2.mono (by omega))
  clear hb2 hx1
  have R2 := R1.gk G2 (by omega)
  have H2 := H1.trans G2
  clear S2' G2 R1 H1 S1
  have H2s := H2.size
  have R2l := R2.lt
  have S2l := S2.out.lt
  have X3 := Arr.new w2 p2 q2 r2 s2 25
  obtain ⟨jx, hjx⟩ : ∃ j, j = w2.heap.size := ⟨_, rfl⟩
  have S3 := hid (S2.out.alloc (.cells #[.int .i64 p2, .int .i64 q2, .int .i64 r2, .int .i64 s2] 25))
  have R3 := R2.alloc (.cells #[.int .i64 p2, .int .i64 q2, .int .i64 r2, .int .i64 s2] 25)
  have H3 := H2.alloc (.cells #[.int .i64 p2, .int .i64 q2, .int .i64 r2, .int .i64 s2] 25)
  clear S2 R2 H2
  have hR3 := R3.lt
  simp only [World.size_alloc, ← hjx] at hR3 X3
  have hR3' : w.heap.size < jx := by have := H2s; have := R2l; omega
  have HJ := hid hjx
  clear hjx
  go_upto_if 11 with (fail)
  rw [← HJ.out]
  generalize w2.alloc (.cells #[.int .i64 p2, .int .i64 q2, .int .i64 r2, .int .i64 s2] 25) = W3 at S3 R3 H3 X3 hR3 ⊢
  go_cut [] (fun wx => ∃ p q r s : Int, Hid (FB 5 p q r s) ∧ Arr wx jx p q r s ∧ Arr wx w.heap.size 0 0 0 0 ∧ Src wx k a len cap zs ∧ Gk k w wx)
  case first =>
    by_cases hp : p2 = 0
    · have hXl := X3.lt
      have hL := lit_cellsP (fun x => -5 ≤ x ∧ x ≤ 5) W3 2 [1, 1, 0] (by decide)
      have HL := hid hL
      have SA := hid (S3.out.alloc (.cells #[.int .i64 1, .int .i64 1, .int .i64 0] 2))
      have RA := R3.alloc (.cells #[.int .i64 1, .int .i64 1, .int .i64 0] 2)
      have XA := X3.alloc (.cells #[.int .i64 1, .int .i64 1, .int .i64 0] 2)
      have HA := H3.alloc (.cells #[.int .i64 1, .int .i64 1, .int .i64 0] 2)
      have hpt : (p2 == 0) = true := by simpa using hp
      clear hL hp
      go_wp2_with fail
      refine (pickP _ k a len cap zs _ 3 _ SA.out (by omega) (by omega) (by simp) (by omega) HL.out).mono ?_
      rintro e wb ⟨y, rfl, hyb, SB, GB⟩
      have HYB := hid hyb
      clear hyb
      have RB := RA.gk GB (by omega)
      have XB := XA.gk GB (by omega)
      have HB := HA.trans GB
      have SB' := hid SB
      clear SB GB RA XA HA SA HL
      obtain ⟨_, y0, y1, y2, y3, g0, g1, g2, g3⟩ := id XB
      go_wp2_with fail
      go_meet
      exact ⟨_, _, _, _, hid ⟨HYB.out, HB2.out.2⟩, XB.set0 y, RB.oth (by simp; omega) _, SB'.out.up (by simp; omega) _, HB.up (by simp; omega) _⟩
    · have hpf : (p2 == 0) = false := by simpa using hp
      clear hp
      go_wp2_with fail
      go_meet
      exact ⟨_, _, _, _, HB2, X3, R3, S3.out, H3⟩
  case rest =>
    obtain ⟨p, q, r, s, HB4, X4, R4, S4', H4⟩ := hcut
    have S4 := hid S4'
    have hR4 := X4.lt
    clear S4' X3 R3 H3 S3 hR3
    obtain ⟨_, y0, y1, y2, y3, g0, g1, g2, g3⟩ := id X4
    go_upto_if 18 with (fail)
    clear y0 y1 y2 y3 g0 g1 g2 g3
    go_cut [] (fun wx => ∃ p q r s : Int, Hid (FB 5 p q r s) ∧ Arr wx jx p q r s ∧ Arr wx w.heap.size 0 0 0 0 ∧ Src wx k a len cap zs ∧ Gk k w wx)
    case first =>
      by_cases hp : s = 0
      · have hXl := X4.lt
        have hL := lit_cellsP (fun x => -5 ≤ x ∧ x ≤ 5) wc 2 [1, -1, 0] (by decide)
        have HL := hid hL
        have SA := hid (S4.out.alloc (.cells #[.int .i64 1, .int .i64 (-1), .int .i64 0] 2))
        have RA := R4.alloc (.cells #[.int .i64 1, .int .i64 (-1), .int .i64 0] 2)
        have XA := X4.alloc (.cells #[.int .i64 1, .int .i64 (-1), .int .i64 0] 2)
        have HA := H4.alloc (.cells #[.int .i64 1, .int .i64 (-1), .int .i64 0] 2)
        have hpt : (s == 0) = true := by simpa using hp
        clear hL hp
        go_wp2_with fail
        refine (pickP _ k a len cap zs _ 3 _ SA.out (by omega) (by omega) (by simp) (by omega) HL.out).mono ?_
        rintro e wb ⟨y, rfl, hyb, SB, GB⟩
        have HYB := hid hyb
        clear hyb
        have RB := RA.gk GB (by omega)
        have XB := XA.gk GB (by omega)
        have HB := HA.trans GB
        have SB' := hid SB
        clear SB GB RA XA HA SA HL
        obtain ⟨_, y0, y1, y2, y3, g0, g1, g2, g3⟩ := id XB
        go_wp2_with fail
        go_meet
        exact ⟨_, _, _, _, hid ⟨HB4.out.1, HB4.out.2.1, HB4.out.2.2.1, HYB.out⟩, XB.set3 y, RB.oth (by simp; omega) _, SB'.out.up (by simp; omega) _, HB.up (by simp; omega) _⟩
      · have hpf : (s == 0) = false := by simpa using hp
        clear hp
        go_wp2_with fail
        go_meet
        exact ⟨_, _, _, _, HB4, X4, R4, S4.out, H4⟩
    case rest =>
      obtain ⟨p', q', r', s', HB5, X5, R5, S5', H5⟩ := hcut
      have S5 := hid S5'
      clear S5' X4 R4 H4 S4 hR4
      obtain ⟨_, y0, y1, y2, y3, _⟩ := id X5
      obtain ⟨_, r0, r1, r2, r3, f0, f1, f2, f3⟩ := id R5
      go_wp2_with fail
      refine bodyPost_ret (res_A1 (e := 2) rfl Tryd.underlying25 (by kernel_rfl) rfl (by (repeat (first | with_reducible assumption | with_reducible exact Arr.box (by assumption) | with_reducible apply Arr.drew | with_reducible apply Arr.drewN | with_reducible refine Arr.store4 ?_ | with_reducible apply Arr.alloc | with_reducible refine Box.drew ?_ | with_reducible refine Box.drewN ?_ _ | with_reducible refine Box.alloc ?_ _ | refine Arr.oth ?_ (by first | (simp; done) | omega | (simp; omega)) _ | refine Box.oth ?_ (by first | (simp; done) | omega | (simp; omega)) _)))) rfl ?_
      exact ⟨_, _, _, _, rfl, HB5.out, S5.out.up4 hl _ _ _ _, H5.up4 (Nat.le_refl _) _ _ _ _⟩



end Go.Proofs.YtihcmgjfkiaelaaDoor
