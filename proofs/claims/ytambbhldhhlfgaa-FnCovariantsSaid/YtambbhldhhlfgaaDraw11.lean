/- Draws of chapter 3: a quadratic form and a matrix. -/
import Derived.Test.YtambbhldhhlfgaaDraw10
namespace Go.Proofs.Ytambbhldhhlfgaa
open Go.ChangeShapes Go.WideShapes Go.ChangeAt Go.RowKit

set_option maxRecDepth 100000 in
set_option maxHeartbeats 4000000 in
theorem drawChQ_any (a : Option Addr) (len cap : Nat) (zs : List Int) (w : World) (hR : IsRow .u8 w a len cap zs) (hlen : len ≤ 9223372036854775807) :
    Calls Try.prog 33 #[.slice a len cap] w (QMOut w) := by
  have R0 := (Arr3.new w 0 0 0 49).alloc (.cells #[.int .i64 0, .int .i64 0, .int .i64 0, .int .i64 0] 57)
  have Q0 := Arr.new (w.alloc (.cells #[.int .i64 0, .int .i64 0, .int .i64 0] 49)) 0 0 0 0 57
  simp only [World.size_alloc] at Q0
  have U0 := gr_alloc (gr_alloc (Below.refl w.heap.size w) (.cells #[.int .i64 0, .int .i64 0, .int .i64 0] 49)) (.cells #[.int .i64 0, .int .i64 0, .int .i64 0, .int .i64 0] 57)
  have hR0 := row8_next hR (gr_alloc (gr_alloc (Below.refl w.heap.size w) (.cells #[.int .i64 0, .int .i64 0, .int .i64 0] 49)) (.cells #[.int .i64 0, .int .i64 0, .int .i64 0, .int .i64 0] 57))
  clear hR
  go_enter Try.func33, Try.ntmps33
  go_wp2_with fail
  refine (from_any a len cap zs _ hR0 hlen).mono ?_
  rintro e w1 ⟨rfl, S1', hb1⟩
  have R1 := R0.next hb1
  have Q1 := Q0.next hb1
  have U1 := gr_trans U0 hb1
  simp only [World.size_alloc] at S1' ⊢
  have S1 := hid S1'
  clear S1' hR0 R0 Q0 U0 hb1
  go_wp2_with fail
  refine (qdraw_any _ a len cap zs _ S1.out).mono ?_
  rintro e w2 ⟨p, q, r, rfl, S2', G2⟩
  have R2 := R1.gk G2 (by omega)
  have Q2 := Q1.gk G2 (by omega)
  have U2 := Gk.out U1 G2 (by omega)
  have hU2 := U2.size
  have hQ2 := Q2.lt
  have X3 := Arr3.new w2 p q r 49
  have S3 := hid (S2'.alloc (.cells #[.int .i64 p, .int .i64 q, .int .i64 r] 49))
  have R3 := R2.alloc (.cells #[.int .i64 p, .int .i64 q, .int .i64 r] 49)
  have Q3 := Q2.alloc (.cells #[.int .i64 p, .int .i64 q, .int .i64 r] 49)
  have U3 := gr_alloc U2 (.cells #[.int .i64 p, .int .i64 q, .int .i64 r] 49)
  have hk3 := S2'.lt
  clear S1 S2' R1 Q1 U1 G2 R2 Q2 U2
  go_upto_region 3 with fail
  generalize hj : w2.heap.size = j at X3 hk3 hQ2 hU2 ⊢
  generalize w2.alloc (.cells #[.int .i64 p, .int .i64 q, .int .i64 r] 49) = W3 at X3 S3 R3 Q3 U3 ⊢
  clear hj
  obtain ⟨_, x0, x1, x2, _⟩ := id X3
  have hl3 := X3.lt
  have XD := X3.drew; have RD := R3.drew; have QD := Q3.drew; have SD := hid (S3.out.below ((Below.refl _ W3).drew)); have UD := gr_drew U3
  clear R3 Q3 S3 U3
  go_region_held3 (fun W => W.cell? ⟨j, 0, none⟩ = some (.int .i64 p) ∧ W.cell? ⟨j, 1, none⟩ = some (.int .i64 q) ∧ W.cell? ⟨j, 2, none⟩ = some (.int .i64 r)) ((refine cells3 ?_; (repeat (first | with_reducible assumption | with_reducible refine Arr3.oth4 ?_ ?_ | with_reducible refine Arr3.oth3 ?_ ?_ | omega)))) (first | (go_at_call 85; refine (matrix_any _ a len cap zs _ SD.out).mono ?_; rintro e w4 ⟨p', q', r', s', rfl, S4, G4⟩; have X4 := XD.gk G4 (by omega); have R4 := RD.gk G4 (by omega); have Q4 := QD.gk G4 (by omega); have U4 := Gk.out UD G4 (by omega); obtain ⟨_, r0, r1, r2, f0, f1, f2⟩ := id R4; obtain ⟨_, t0, t1, t2, t3, g0, g1, g2, g3⟩ := id Q4))
  all_goals
    go_wp2_with fail
    refine bodyPost_ret (res_AQ (e := 2) (e' := 2) rfl Try.underlying49 (by kernel_rfl) Try.underlying57 (by kernel_rfl) rfl rfl
      (by first | with_reducible exact (Arr3.store3 R4.box).oth4 (by omega) | with_reducible exact Arr3.store3 (R4.oth4 (by omega)).box) (by first | with_reducible exact Arr.store4 (Q4.oth3 (by omega)).box | with_reducible exact (Arr.store4 Q4.box).oth3 (by omega))) rfl ?_
    exact ⟨_, _, _, _, _, _, _, rfl, by (repeat' (first | with_reducible exact Below.refl _ _ | with_reducible assumption | with_reducible refine gr_alloc ?_ _ | with_reducible refine gr_drew ?_ | with_reducible refine gr_drewN ?_ _ | with_reducible refine gr_trans ?_ (by assumption) | with_reducible refine gr_set ?_ ?_ _ | (simp; done) | omega | (simp; omega)))⟩


end Go.Proofs.Ytambbhldhhlfgaa
