/- Several texts in one: XDraw8, XHs. -/
import Derived.Test.YtigbaelbeaobpaaDraw7
import Derived.Deep.RegionHeld3
import Derived.Test.YtigbaelbeaobpaaC1
import Derived.Test.YtigbaelbeaobpaaZ1

/- Draws: those of chapter 1 that the laws use. -/
namespace Go.Proofs.Ytigbaelbeaobpaa
open Go.ChangeShapes Go.WideShapes Go.ChangeAt Go.RowKit

def FrmOut (w : World) (e : Ending) (w' : World) : Prop := ∃ p q r s : Int, e = .returned (.agg #[.int .i64 p, .int .i64 q, .int .i64 r, .int .i64 s]) ∧ Below w.heap.size w w'
def TwoOut (w : World) (e : Ending) (w' : World) : Prop := ∃ p q r s p' q' r' s' : Int, e = .returned (.tuple #[.agg #[.int .i64 p, .int .i64 q, .int .i64 r, .int .i64 s], .agg #[.int .i64 p', .int .i64 q', .int .i64 r', .int .i64 s']]) ∧ Below w.heap.size w w'
theorem res_AA {P : Program} {fn : Func} {p p' : Tmp} {ty e ty' e' : TypeId} {tmps : Array Value} {w : World} {b b' : Nat} {x0 x1 x2 x3 y0 y1 y2 y3 : Int} (h : fn.results = #[.cell p ty, .cell p' ty']) (hu : P.underlying ty = some (.array 4 e)) (hi : (P.info? ty).map (·.size) = some 4)
    (hu' : P.underlying ty' = some (.array 4 e')) (hi' : (P.info? ty').map (·.size) = some 4) (hp : tmps.getD p undef = .pointer (some ⟨b, 0, none⟩)) (hp' : tmps.getD p' undef = .pointer (some ⟨b', 0, none⟩)) (hA : Arr w b x0 x1 x2 x3) (hB : Arr w b' y0 y1 y2 y3) :
    (results fn tmps).run P w = .ok (.tuple #[.agg #[.int .i64 x0, .int .i64 x1, .int .i64 x2, .int .i64 x3], .agg #[.int .i64 y0, .int .i64 y1, .int .i64 y2, .int .i64 y3]]) w := by
  have hq : tmps[p]?.getD undef = .pointer (some ⟨b, 0, none⟩) := by simpa using hp
  have hq' : tmps[p']?.getD undef = .pointer (some ⟨b', 0, none⟩) := by simpa using hp'
  simp [results, h, hq, hq', asAddr, loadVar4 w b ty e _ _ _ _ hu hi hA.c0 hA.c1 hA.c2 hA.c3, loadVar4 w b' ty' e' _ _ _ _ hu' hi' hB.c0 hB.c1 hB.c2 hB.c3]
theorem Arr.oth4 {w : World} {j i : Nat} {a b c d : Int} (h : Arr w j a b c d) (hne : j ≠ i) {x y z u : Value} : Arr ((((w.setCell ⟨i, 0, none⟩ x).setCell ⟨i, 1, none⟩ y).setCell ⟨i, 2, none⟩ z).setCell ⟨i, 3, none⟩ u) j a b c d :=
  (((h.oth (p := ⟨i, 0, none⟩) hne _).oth (p := ⟨i, 1, none⟩) hne _).oth (p := ⟨i, 2, none⟩) hne _).oth (p := ⟨i, 3, none⟩) hne _
theorem row8_next {w w' : World} {a : Option Addr} {len cap : Nat} {zs : List Int} (h : IsRow .u8 w a len cap zs) (hb : Below w.heap.size w w') : IsRow .u8 w' a len cap zs := by
  rcases h with h | ⟨x, h1, h2, h3, h4, h5, h6⟩
  · exact .inl h
  · exact .inr ⟨x, h1, h2, h3, h4, fun i hi => (hb.cell (p := x.add i) (World.block_lt_of_cell? w (x.add i) (h5 i hi))).trans (h5 i hi), h6⟩







set_option maxHeartbeats 2000000 in
theorem drawCh_any (a : Option Addr) (len cap : Nat) (zs : List Int) (w : World) (hR : IsRow .u8 w a len cap zs) (hlen : len ≤ 9223372036854775807) :
    Calls Try.prog 10 #[.slice a len cap] w (TwoOut w) := by
  have R0 := (Arr.new w 0 0 0 0 25).alloc (.cells #[.int .i64 0, .int .i64 0, .int .i64 0, .int .i64 0] 34)
  have Q0 := Arr.new (w.alloc (.cells #[.int .i64 0, .int .i64 0, .int .i64 0, .int .i64 0] 25)) 0 0 0 0 34
  simp only [World.size_alloc] at Q0
  have U0 := gr_alloc (gr_alloc (Below.refl w.heap.size w) (.cells #[.int .i64 0, .int .i64 0, .int .i64 0, .int .i64 0] 25)) (.cells #[.int .i64 0, .int .i64 0, .int .i64 0, .int .i64 0] 34)
  have hR0 := row8_next hR (gr_alloc (gr_alloc (Below.refl w.heap.size w) (.cells #[.int .i64 0, .int .i64 0, .int .i64 0, .int .i64 0] 25)) (.cells #[.int .i64 0, .int .i64 0, .int .i64 0, .int .i64 0] 34))
  clear hR
  go_enter Try.func10, Try.ntmps10
  go_wp2_with fail
  refine (from_any a len cap zs _ hR0 hlen).mono ?_
  rintro e w1 ⟨rfl, S1', hb1⟩
  have R1 := R0.next hb1
  have Q1 := Q0.next hb1
  have U1 := gr_trans U0 hb1
  simp only [World.size_alloc] at S1' ⊢
  have S1 := hid S1'
  clear S1' hR0 R0 Q0 U0 hb1
  go_wp2_with fail
  refine (spoil_any _ a len cap zs _ S1.out).mono ?_
  rintro e w2 ⟨p, q, r, s, rfl, S2', G2⟩
  have R2 := R1.gk G2 (by omega)
  have Q2 := Q1.gk G2 (by omega)
  have U2 := Gk.out U1 G2 (by omega)
  have hU2 := U2.size
  have hQ2 := Q2.lt
  have X3 := Arr.new w2 p q r s 25
  have S3 := hid (S2'.alloc (.cells #[.int .i64 p, .int .i64 q, .int .i64 r, .int .i64 s] 25))
  have R3 := R2.alloc (.cells #[.int .i64 p, .int .i64 q, .int .i64 r, .int .i64 s] 25)
  have Q3 := Q2.alloc (.cells #[.int .i64 p, .int .i64 q, .int .i64 r, .int .i64 s] 25)
  have U3 := gr_alloc U2 (.cells #[.int .i64 p, .int .i64 q, .int .i64 r, .int .i64 s] 25)
  have hk3 := S2'.lt
  clear S1 S2' R1 Q1 U1 G2 R2 Q2 U2
  go_upto_region 3 with fail
  generalize hj : w2.heap.size = j at X3 hk3 hQ2 hU2 ⊢
  generalize w2.alloc (.cells #[.int .i64 p, .int .i64 q, .int .i64 r, .int .i64 s] 25) = W3 at X3 S3 R3 Q3 U3 ⊢
  clear hj
  obtain ⟨_, x0, x1, x2, x3, _⟩ := id X3
  have hl3 := X3.lt
  have XD := X3.drew; have RD := R3.drew; have QD := Q3.drew; have SD := hid (S3.out.below ((Below.refl _ W3).drew)); have UD := gr_drew U3
  clear R3 Q3 S3 U3
  go_region_held3 (fun W => W.cell? ⟨j, 0, none⟩ = some (.int .i64 p) ∧ W.cell? ⟨j, 1, none⟩ = some (.int .i64 q) ∧ W.cell? ⟨j, 2, none⟩ = some (.int .i64 r) ∧ W.cell? ⟨j, 3, none⟩ = some (.int .i64 s)) (first | with_reducible assumption | with_reducible exact cells4 (by assumption) | with_reducible exact cells4 (Arr.oth4 (by assumption) (by omega)) | with_reducible exact cells4 (Arr.oth4 (Arr.oth4 (by assumption) (by omega)) (by omega))) (first | (go_at_call 48; refine (matrix_any _ a len cap zs _ SD.out).mono ?_; rintro e w4 ⟨p', q', r', s', rfl, S4, G4⟩; have X4 := XD.gk G4 (by omega); have R4 := RD.gk G4 (by omega); have Q4 := QD.gk G4 (by omega); have U4 := Gk.out UD G4 (by omega); obtain ⟨_, r0, r1, r2, r3, f0, f1, f2, f3⟩ := id R4; obtain ⟨_, t0, t1, t2, t3, g0, g1, g2, g3⟩ := id Q4))
  all_goals
    go_wp2_with fail
    refine bodyPost_ret (res_AA (e := 2) (e' := 2) rfl Try.underlying25 (by kernel_rfl) Try.underlying34 (by kernel_rfl) rfl rfl
      (by first | exact (Arr.store4 R4.box).oth4 (by omega) | exact Arr.store4 (R4.oth4 (by omega)).box) (by first | exact Arr.store4 (Q4.oth4 (by omega)).box | exact (Arr.store4 Q4.box).oth4 (by omega))) rfl ?_
    exact ⟨_, _, _, _, _, _, _, _, rfl, by (repeat' (first | with_reducible exact Below.refl _ _ | with_reducible assumption | with_reducible refine gr_alloc ?_ _ | with_reducible refine gr_drew ?_ | with_reducible refine gr_drewN ?_ _ | with_reducible refine gr_trans ?_ (by assumption) | with_reducible refine gr_set ?_ ?_ _ | (simp; done) | omega | (simp; omega)))⟩


end Go.Proofs.Ytigbaelbeaobpaa

/- Chapter 2: the Hessian of the program. -/
namespace Go.Proofs.Ytigbaelbeaobpaa
open Go.RowKit

def isR (a b c d : Int) : Bool := rng (-100) 100 a && rng (-100) 100 b && rng (-100) 100 c && rng (-100) 100 d
theorem isR_t {a b c d : Int} (h : isR a b c d = true) : (-100 ≤ a ∧ a ≤ 100) ∧ (-100 ≤ b ∧ b ≤ 100) ∧ (-100 ≤ c ∧ c ≤ 100) ∧ (-100 ≤ d ∧ d ≤ 100) := by
  simp only [isR, Bool.and_eq_true] at h
  exact ⟨rng_t h.1.1.1, rng_t h.1.1.2, rng_t h.1.2, rng_t h.2⟩
theorem isR_eq {a b c d : Int} {r : Bool} (h : r = true ↔ (-100 ≤ a ∧ a ≤ 100) ∧ (-100 ≤ b ∧ b ≤ 100) ∧ (-100 ≤ c ∧ c ≤ 100) ∧ (-100 ≤ d ∧ d ≤ 100)) : r = isR a b c d := by
  rw [Bool.eq_iff_iff, h]
  exact ⟨fun ⟨p, q, r, s⟩ => by simp [isR, rng_mk p.1 p.2, rng_mk q.1 q.2, rng_mk r.1 r.2, rng_mk s.1 s.2], isR_t⟩

set_option maxHeartbeats 400000 in
theorem allWithin100_any (k : Nat) (a b c d : Int) (w : World) (hA : Arr w k a b c d) :
    Calls Try.prog 34 #[.slice (some ⟨k, 0, none⟩) 4 4, .int .i64 100] w fun e w' => e = .returned (.bool (isR a b c d)) ∧ w = w' := by
  obtain ⟨lt, c0, c1, c2, c3, _⟩ := hA
  go_enter Try.func34, Try.ntmps34
  go_wp2
  go_rounds 5
  all_goals (go_ret; exact ⟨ret_bool (by apply isR_eq; go_light; simp at *; try omega), rfl⟩)

/-- The three numbers of the Hessian. -/
def hs1 (a b c : Int) : Int := b * b - 3 * a * c
def hs2 (a b c d : Int) : Int := b * c - 9 * a * d
def hs3 (b c d : Int) : Int := c * c - 3 * b * d

set_option maxRecDepth 100000 in
set_option maxHeartbeats 1000000 in
theorem iHess_any (a b c d : Int) (w : World) :
    Calls Try.prog 65 #[.agg #[.int .i64 a, .int .i64 b, .int .i64 c, .int .i64 d]] w fun e w' => e = .returned (.tuple #[.int .i64 (wrap64 (hs1 a b c)), .int .i64 (wrap64 (hs2 a b c d)), .int .i64 (wrap64 (hs3 b c d))]) ∧ Below w.heap.size w w' := by
  have A0 := Arr.new w a b c d 25
  have U0 := gr_alloc (Below.refl w.heap.size w) (.cells #[.int .i64 a, .int .i64 b, .int .i64 c, .int .i64 d] 25)
  go_enter Try.func65, Try.ntmps65
  go_upto_region 1 with fail
  generalize w.alloc (.cells #[.int .i64 a, .int .i64 b, .int .i64 c, .int .i64 d] 25) = W0 at A0 U0 ⊢
  obtain ⟨_, a0, a1, a2, a3, _⟩ := id A0
  go_quiet (fail)
  go_wp2
  go_ret3
  exact ⟨ret_tup3 (by simp only [hs1, wr_sl, wr_sr, wr_ml]) (by simp only [hs2, wr_sl, wr_sr, wr_ml]) (by simp only [hs3, wr_sl, wr_sr, wr_ml]), by (repeat' (first | with_reducible exact Below.refl _ _ | with_reducible assumption | with_reducible refine gr_alloc ?_ _ | with_reducible refine gr_drew ?_ | with_reducible refine gr_drewN ?_ _ | with_reducible refine gr_trans ?_ (by assumption) | with_reducible refine gr_set ?_ ?_ _ | (simp; done) | omega | (simp; omega)))⟩

end Go.Proofs.Ytigbaelbeaobpaa
