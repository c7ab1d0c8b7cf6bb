/- Chapter 10's two laws: lists compared; facts of the contracts. -/
import Derived.Test.YtehbkmohfipmgaaBtZ2
import Derived.Test.YtehbkmohfipmgaaBtFlS
import Derived.Test.YtehbkmohfipmgaaBtTn
import Derived.Test.YtehbkmohfipmgaaBtTo
import Derived.Test.YtehbkmohfipmgaaBtWf
import Derived.Test.YtehbkmohfipmgaaBtWh
import Derived.Test.YtehbkmohfipmgaaBtZr
import Derived.Test.YtehbkmohfipmgaaBtZ15
import Derived.Test.YtehbkmohfipmgaaBtZ6
import Derived.Test.YtehbkmohfipmgaaBtDraw30
import Derived.Deep.DeepCutAuto
namespace Go.Proofs.Ytehbkmohfipmgaa
open Go.RowKit

theorem eqQ_run (a b c p q r : Int) (w : World) : (Op.equalIn 10000 25 (.agg #[.int .i64 a, .int .i64 b, .int .i64 c]) (.agg #[.int .i64 p, .int .i64 q, .int .i64 r])).run Try.prog w = .ok (a == p && b == q && c == r) w := by
  have u := Try.underlying2
  have ia := Try.isAgg2
  have z := Try.sizeOf2
  rw [show (10000 : Nat) = 9999 + 1 from rfl, Op.equalIn]
  simp only [Sem.run_bind, run_underlying Try.underlying25, Result.andThen_ok]
  simp only [Std.Legacy.Range.forIn_eq_forIn_range', Std.Legacy.Range.size, Nat.sub_zero, Nat.add_sub_cancel, Nat.div_one, List.range'_succ, List.range'_zero, List.forIn_cons, List.forIn_nil]
  go_simp
  by_cases h1 : a = p <;> by_cases h2 : b = q <;> by_cases h3 : c = r <;> simp [h1, h2, h3]


theorem eqQ_3 (a b c : Int) : (a == a && b == b && c == c) = true := by simp
theorem eqF_4 (a b c d : Int) : (a == a && b == b && c == c && d == d) = true := by simp

set_option maxRecDepth 100000 in
set_option maxHeartbeats 1000000 in
theorem frs9_any (u v : Value) (n : Nat) (g : Nat → Int) (w : World) (hu : RdX w u n g) (hv : RdX w v n g) :
    Calls Try.prog 32 #[u, v] w fun e w' => e = .returned (.bool true) ∧ Below w.heap.size w w' := by
  have heq := eqForm_run
  have hlen : (∃ a c, u = .slice a n c) ∧ ∃ a' c', v = .slice a' n c' := by
    refine ⟨?_, ?_⟩
    · rcases hu with ⟨rfl, rfl⟩ | ⟨b', cap', rfl, _⟩
      · exact ⟨_, _, rfl⟩
      · exact ⟨_, _, rfl⟩
    · rcases hv with ⟨rfl, rfl⟩ | ⟨b', cap', rfl, _⟩
      · exact ⟨_, _, rfl⟩
      · exact ⟨_, _, rfl⟩
  obtain ⟨⟨au, cu, rfl⟩, av, cv, rfl⟩ := hlen
  have HU := hid hu
  have HV := hid hv
  clear hu hv
  go_enter Try.func32, Try.ntmps32
  go_wp2
  go_loopw [5] (fun i wr => ∃ k : Nat, k ≤ n ∧ i = .int .i64 k ∧ Below w.heap.size w wr) (fun i _ => n - (intOf i).toNat)
  case atStart => exact ⟨0, Nat.zero_le _, rfl, Below.refl _ _⟩
  case round =>
    obtain ⟨k, hk, rfl, hB⟩ := hrel
    by_cases hlt : k < n
    · rcases HU.out with ⟨h0, rfl⟩ | ⟨b, cap, h0, hc1, hm1, hb1, hcell1⟩
      · omega
      rcases HV.out with ⟨h0', rfl⟩ | ⟨b', cap', h0', hc2, hm2, hb2, hcell2⟩
      · omega
      cases h0; cases h0'
      have C := (RdX.at4 hb1 hcell1 hlt).next hB hb1
      have D := (RdX.at4 hb2 hcell2 hlt).next hB hb2
      clear hcell1 hcell2
      unfold maxLen at hm1 hm2
      generalize g (k * 4) = x at C D
      generalize g (k * 4 + 1) = y at C D
      generalize g (k * 4 + 2) = z at C D
      generalize g (k * 4 + 3) = t at C D
      obtain ⟨_, c0, c1, c2, c3⟩ := id C
      obtain ⟨_, d0, d1, d2, d3⟩ := id D
      have er := eqF_4 x y z t
      go_wp2_with fail
      go_quiet (fail)
      go_wp2_with fail
      go_roundw
      case rel => exact ⟨k + 1, by omega, by go_num, by (repeat' (first | with_reducible exact Below.refl _ _ | with_reducible assumption | with_reducible refine gr_alloc ?_ _ | with_reducible refine gr_drew ?_ | with_reducible refine gr_drewN ?_ _ | with_reducible refine gr_trans ?_ (by assumption) | with_reducible refine gr_set ?_ ?_ _ | (simp; done) | omega | (simp; omega)))⟩
      case measure => simp [intOf]; omega
    · go_wp2
      go_ret
      exact ⟨rfl, hB⟩

set_option maxRecDepth 100000 in
set_option maxHeartbeats 1000000 in
theorem qds9_any (u v : Value) (n : Nat) (g : Nat → Int) (w : World) (hu : RdU w u n g) (hv : RdU w v n g) :
    Calls Try.prog 17 #[u, v] w fun e w' => e = .returned (.bool true) ∧ Below w.heap.size w w' := by
  have heq := eqQ_run
  have hlen : (∃ a c, u = .slice a n c) ∧ ∃ a' c', v = .slice a' n c' := by
    refine ⟨?_, ?_⟩
    · rcases hu with ⟨rfl, rfl⟩ | ⟨b', cap', rfl, _⟩
      · exact ⟨_, _, rfl⟩
      · exact ⟨_, _, rfl⟩
    · rcases hv with ⟨rfl, rfl⟩ | ⟨b', cap', rfl, _⟩
      · exact ⟨_, _, rfl⟩
      · exact ⟨_, _, rfl⟩
  obtain ⟨⟨au, cu, rfl⟩, av, cv, rfl⟩ := hlen
  have HU := hid hu
  have HV := hid hv
  clear hu hv
  go_enter Try.func17, Try.ntmps17
  go_wp2
  go_loopw [5] (fun i wr => ∃ k : Nat, k ≤ n ∧ i = .int .i64 k ∧ Below w.heap.size w wr) (fun i _ => n - (intOf i).toNat)
  case atStart => exact ⟨0, Nat.zero_le _, rfl, Below.refl _ _⟩
  case round =>
    obtain ⟨k, hk, rfl, hB⟩ := hrel
    by_cases hlt : k < n
    · rcases HU.out with ⟨h0, rfl⟩ | ⟨b, cap, h0, hc1, hm1, hb1, hcell1⟩
      · omega
      rcases HV.out with ⟨h0', rfl⟩ | ⟨b', cap', h0', hc2, hm2, hb2, hcell2⟩
      · omega
      cases h0; cases h0'
      have C := (RdU.at3 hb1 hcell1 hlt).next hB hb1
      have D := (RdU.at3 hb2 hcell2 hlt).next hB hb2
      clear hcell1 hcell2
      unfold maxLen at hm1 hm2
      generalize g (k * 3) = x at C D
      generalize g (k * 3 + 1) = y at C D
      generalize g (k * 3 + 2) = z at C D
      obtain ⟨_, c0, c1, c2⟩ := id C
      obtain ⟨_, d0, d1, d2⟩ := id D
      have er := eqQ_3 x y z
      go_wp2_with fail
      go_quiet (fail)
      go_wp2_with fail
      go_roundw
      case rel => exact ⟨k + 1, by omega, by go_num, by (repeat' (first | with_reducible exact Below.refl _ _ | with_reducible assumption | with_reducible refine gr_alloc ?_ _ | with_reducible refine gr_drew ?_ | with_reducible refine gr_drewN ?_ _ | with_reducible refine gr_trans ?_ (by assumption) | with_reducible refine gr_set ?_ ?_ _ | (simp; done) | omega | (simp; omega)))⟩
      case measure => simp [intOf]; omega
    · go_wp2
      go_ret
      exact ⟨rfl, hB⟩

theorem RdX.next9 {w w' : World} {v : Value} {n : Nat} {g : Nat → Int} (h : RdX w v n g) (hb : Below w.heap.size w w') : RdX w' v n g := by
  rcases h with h | ⟨b, cap, h1, h2, h3, h4, h5⟩
  · exact .inl h
  · exact .inr ⟨b, cap, h1, h2, h3, Nat.lt_of_lt_of_le h4 hb.size, fun i hi => (hb.cell (p := ⟨b, i, none⟩) h4).trans (h5 i hi)⟩
theorem RdU.next9 {w w' : World} {v : Value} {n : Nat} {g : Nat → Int} (h : RdU w v n g) (hb : Below w.heap.size w w') : RdU w' v n g := by
  rcases h with h | ⟨b, cap, h1, h2, h3, h4, h5⟩
  · exact .inl h
  · exact .inr ⟨b, cap, h1, h2, h3, Nat.lt_of_lt_of_le h4 hb.size, fun i hi => (hb.cell (p := ⟨b, i, none⟩) h4).trans (h5 i hi)⟩
theorem rdX_at {w : World} {v : Value} {n : Nat} {G : Nat → Int} (h : RdX w v n G) (hn : 0 < n) : ∃ b cap, v = .slice (some ⟨b, 0, none⟩) n cap ∧ n ≤ cap ∧ cap ≤ maxLen ∧ ∀ i, i < n → At4 w b (i * 4) (G (i * 4)) (G (i * 4 + 1)) (G (i * 4 + 2)) (G (i * 4 + 3)) := by
  rcases h with ⟨_, h0⟩ | ⟨b, cap, h1, h2, h3, h4, h5⟩
  · omega
  · exact ⟨b, cap, h1, h2, h3, fun i hi => RdX.at4 h4 h5 hi⟩
theorem rdX_val {w : World} {v : Value} {n : Nat} {G : Nat → Int} (h : RdX w v n G) : ∃ a cap, v = .slice a n cap := by
  rcases h with ⟨rfl, rfl⟩ | ⟨b, cap, h1, _⟩
  · exact ⟨_, _, rfl⟩
  · exact ⟨_, _, h1⟩
theorem rdU_at {w : World} {v : Value} {n : Nat} {G : Nat → Int} (h : RdU w v n G) (hn : 0 < n) : ∃ b cap, v = .slice (some ⟨b, 0, none⟩) n cap ∧ n ≤ cap ∧ cap ≤ maxLen ∧ ∀ i, i < n → At3 w b (i * 3) (G (i * 3)) (G (i * 3 + 1)) (G (i * 3 + 2)) := by
  rcases h with ⟨_, h0⟩ | ⟨b, cap, h1, h2, h3, h4, h5⟩
  · omega
  · exact ⟨b, cap, h1, h2, h3, fun i hi => RdU.at3 h4 h5 hi⟩
theorem rdU_val {w : World} {v : Value} {n : Nat} {G : Nat → Int} (h : RdU w v n G) : ∃ a cap, v = .slice a n cap := by
  rcases h with ⟨rfl, rfl⟩ | ⟨b, cap, h1, _⟩
  · exact ⟨_, _, rfl⟩
  · exact ⟨_, _, h1⟩
def OrC (p q r o : Int) : Prop := ∀ W : World, Calls Try.prog 18 #[.agg #[.int .i64 p, .int .i64 q, .int .i64 r]] W fun e w' => e = .returned (.tuple #[.int .i64 o, .int .i64 0]) ∧ Below W.heap.size W w'
theorem el_dcl {D : Int} {c : Qd} (hc : El D c) (hD : -2000 ≤ D) : dcl D = true := by
  have h : c.2.1 * c.2.1 - 4 * c.1 * c.2.2 = D := hc.ds
  have hn := hc.ng
  have h1 : c.2.1 * c.2.1 % 4 < 2 := by
    rw [Int.mul_emod]
    have h3 : c.2.1 % 4 = 0 ∨ c.2.1 % 4 = 1 ∨ c.2.1 % 4 = 2 ∨ c.2.1 % 4 = 3 := by omega
    rcases h3 with h | h | h | h <;> rw [h] <;> decide
  have h2 : 4 * c.1 * c.2.2 = 4 * (c.1 * c.2.2) := Int.mul_assoc _ _ _
  refine (dcl_eq (r := true) ⟨fun _ => ⟨⟨hD, by omega⟩, by omega⟩, fun _ => rfl⟩).symm
theorem el_bdk {D : Int} {c : Qd} (hc : El D c) (hD : -2000 ≤ D) : (1 ≤ c.1 ∧ c.1 ≤ 1000) ∧ (-1000 ≤ c.2.1 ∧ c.2.1 ≤ 1000) ∧ (1 ≤ c.2.2 ∧ c.2.2 ≤ 1000) := by
  obtain ⟨p, q, r⟩ := c
  have h1 : 1 ≤ p := hc.rd.1
  have h2 : -p < q := hc.rd.2.1
  have h3 : q ≤ p := hc.rd.2.2.1
  have h4 : p ≤ r := hc.rd.le.1
  have hd : q * q - 4 * p * r = D := hc.ds
  have h5 := sq_le (m := q) (p := p) (by omega) h3
  have h6 : p * p ≤ p * r := Int.mul_le_mul_of_nonneg_left h4 (by omega)
  have h7 : 1 * r ≤ p * r := Int.mul_le_mul_of_nonneg_right h1 (by omega)
  have h8 : 4 * p * r = 4 * (p * r) := Int.mul_assoc _ _ _
  have h9 : 0 ≤ q * q := sq_nn q
  refine ⟨⟨h1, ?_⟩, ⟨?_, ?_⟩, ?_, ?_⟩ <;> dsimp only <;> omega
theorem el_dc {D : Int} {c : Qd} (hc : El D c) (hD : -2000 ≤ D) : (isQ c.1 c.2.1 c.2.2 = true ∧ df10 c.1 c.2.1 c.2.2 = true) ∧ dc1 c.1 c.2.1 c.2.2 = 0 ∧ red c = c ∧ odv c.1 c.2.1 c.2.2 = (od D c : Int) + 1 ∧ dq c.1 c.2.1 c.2.2 = D := by
  have hcl := el_dcl hc hD
  have hred : red c = c := (hc.rd.uniq (rdd_red hc.pos) (Eqv.red c)).symm
  have hds := hc.ds
  have hg := hc.pr
  obtain ⟨⟨p1, p2⟩, ⟨q1, q2⟩, r1, r2⟩ := el_bdk hc hD
  obtain ⟨p, q, r⟩ := c
  dsimp only at p1 p2 q1 q2 r1 r2 ⊢
  have hqq := mulb (A := 1000) (B := 1000) ⟨q1, q2⟩ ⟨q1, q2⟩
  have hpr := mulb (x := p) (y := r) (A := 1000) (B := 1000) ⟨by omega, p2⟩ ⟨by omega, r2⟩
  have h8 : 4 * p * r = 4 * (p * r) := Int.mul_assoc _ _ _
  have hdq : dq p q r = D := (dq_in (by omega) (by omega)).trans hds
  have hQ : isQ p q r = true := by simp [isQ, rng]; omega
  have hg : Int.gcd (Int.gcd p q) r = 1 := hg
  have hdf : df10 p q r = true := by
    simp only [df10, Bool.and_eq_true, decide_eq_true_eq, beq_iff_eq]
    exact ⟨isM_mk (by omega) (by omega) (by omega), by rw [hdq]; exact hcl, by omega, by unfold cnt3; omega⟩
  have hdc : dc1 p q r = 0 := dc1_0.2 ⟨hQ, hdf⟩
  refine ⟨⟨hQ, hdf⟩, hdc, hred, ?_, hdq⟩
  unfold odv
  rw [if_pos hdc, hred, hds]
theorem or_el {D : Int} {c : Qd} (hc : El D c) (hD : -2000 ≤ D) : OrC c.1 c.2.1 c.2.2 ((od D c : Int) + 1) := fun W => by
  obtain ⟨_, h1, _, h2, _⟩ := el_dc hc hD
  have k := iOrder_any c.1 c.2.1 c.2.2 W
  rw [h1, h2] at k
  exact k
/-- FnThirdRoots: what its lists are. -/
def TrQ3 (L : Nat) (G : Nat → Int) (k : Int) : Prop := (k ≠ 0 → L = 0) ∧ (k = 0 → L % 2 = 1 ∧ ∀ i, i < L → ∃ o : Int, (o = 1 ∨ o = 3) ∧ OrC (G (i * 3)) (G (i * 3 + 1)) (G (i * 3 + 2)) o)
theorem trQ3 (d : Int) : TrQ3 (if (if dcl d then (0 : Int) else 2) = 0 then (thr d).length else 0) (fun i => ((thr d).flatMap qi3).getD i 0) (if dcl d then 0 else 2) := by
  refine ⟨fun h => if_neg h, fun h => ?_⟩
  rw [if_pos h]
  have hd : dcl d = true := by
    cases e : dcl d with
    | true => rfl
    | false => rw [e] at h; simp at h
  obtain ⟨⟨d1, d2⟩, d3⟩ := dcl_t hd
  have hn : d < 0 := by omega
  refine ⟨thr_odd hn d3, fun i hi => ?_⟩
  have hc := List.getElem_mem hi
  obtain ⟨e1, e2⟩ := (thr_mem hn).1 hc
  obtain ⟨f1, f2, f3⟩ := at_flat (thr d) i _ (List.getElem?_eq_getElem hi)
  dsimp only
  rw [f1, f2, f3]
  refine ⟨_, ?_, or_el e1 d1⟩
  rcases od_thr e1 e2 with h | h <;> rw [h] <;> simp
def RfC (a b c d x y z : Int) : Prop := ∀ W : World, Calls Try.prog 25 #[.agg #[.int .i64 a, .int .i64 b, .int .i64 c, .int .i64 d]] W fun e w' => e = .returned (.tuple #[.agg #[.int .i64 x, .int .i64 y, .int .i64 z], .int .i64 0]) ∧ Below W.heap.size W w'
def TrQ4 (x y z : Int) (L : Nat) (G : Nat → Int) (k : Int) : Prop := k = 0 → ∀ i, i < L → RfC (G (i * 4)) (G (i * 4 + 1)) (G (i * 4 + 2)) (G (i * 4 + 3)) x y z
theorem at_flat4 (L : List Fm) (i : Nat) (c : Fm) (h : L[i]? = some c) : (L.flatMap gi4).getD (i * 4) 0 = c.1 ∧ (L.flatMap gi4).getD (i * 4 + 1) 0 = c.2.1 ∧ (L.flatMap gi4).getD (i * 4 + 2) 0 = c.2.2.1 ∧ (L.flatMap gi4).getD (i * 4 + 3) 0 = c.2.2.2 := by
  induction L generalizing i with
  | nil => simp at h
  | cons a L ih =>
    cases i with
    | zero =>
      have e : a = c := by simpa using h
      subst e
      simp [gi4]
    | succ i =>
      have h1 := ih i (by simpa using h)
      have e : (i + 1) * 4 = i * 4 + 4 := by omega
      rw [e]
      simpa [gi4] using h1
theorem trQ4 (x y z n : Int) : TrQ4 x y z (if twc x y z n = 0 then (tls x y z n).length else 0) (fun i => ((tls x y z n).flatMap gi4).getD i 0) (twc x y z n) := fun h i hi W => by
  rw [if_pos h] at hi
  have hn : 1 ≤ n ∧ n ≤ 5 := by
    unfold twc at h
    split at h
    · split at h
      · rename_i hr
        simpa [rng] using hr
      · cases h
    · rename_i h1
      exact (h1 h).elim
  obtain ⟨f1, f2, f3, f4⟩ := at_flat4 (tls x y z n) i _ (List.getElem?_eq_getElem hi)
  obtain ⟨g1, g2, g3, g4⟩ := tls_root hn (List.getElem_mem hi)
  dsimp only
  rw [f1, f2, f3, f4]
  generalize (tls x y z n)[i] = f at g1 g2 g3 g4 ⊢
  have k := iRootForm_any f.1 f.2.1 f.2.2.1 f.2.2.2 W
  rw [g1, g2, g3, g4] at k
  have ev : ∀ u, rfv f.1 f.2.1 f.2.2.1 f.2.2.2 u = u := fun u => if_pos g1
  rw [ev, ev, ev] at k
  exact k
def DsC (a b c d D : Int) : Prop := ∀ W : World, Calls Try.prog 33 #[.agg #[.int .i64 a, .int .i64 b, .int .i64 c, .int .i64 d]] W fun e w' => e = .returned (.tuple #[.int .i64 D, .int .i64 0]) ∧ Below W.heap.size W w'
def IdC (p q r : Int) (b : Bool) (k : Int) : Prop := ∀ W : World, Calls Try.prog 12 #[.agg #[.int .i64 p, .int .i64 q, .int .i64 r]] W fun e w' => e = .returned (.tuple #[.bool b, .int .i64 k]) ∧ Below W.heap.size W w'
def TrQ2 (a b c d r0 r1 r2 k2 k3 : Int) (tr : Bool) : Prop := (k3 = 0 → tr = decide (k2 = 0)) ∧ (k2 = 0 → DsC a b c d (wrap64 (-27 * wrap64 (wrap64 (r1 * r1) - wrap64 (wrap64 (4 * r0) * r2)))) ∧ ∃ bd kd, IdC r0 r1 r2 bd kd ∧ (kd = 0 → bd = true → ∃ o : Int, (o = 1 ∨ o = 3) ∧ OrC r0 r1 r2 o))
theorem trQ2 (a b c d : Int) : TrQ2 a b c d (rfv a b c d (rt1 a (b.tdiv 3) (c.tdiv 3))) (rfv a b c d (rt2 a (b.tdiv 3) (c.tdiv 3) d)) (rfv a b c d (rt3 (b.tdiv 3) (c.tdiv 3) d)) (rfc a b c d) (cf10 a b c d) (tri a b c d) := by
  refine ⟨fun h => ?_, fun h => ?_⟩
  · have hF : isF a b c d = true := by
      unfold cf10 at h
      split at h
      · assumption
      · cases h
    unfold rfc
    rw [if_pos hF]
    cases tri a b c d <;> simp
  · have ev : ∀ u, rfv a b c d u = u := fun u => if_pos h
    rw [ev, ev, ev]
    have hT : tri a b c d = true := by
      unfold rfc at h
      split at h
      · split at h
        · assumption
        · cases h
      · cases h
    obtain ⟨hF, hb, hc⟩ := tri_mul hT
    generalize b.tdiv 3 = e at hb ⊢
    generalize c.tdiv 3 = g at hc ⊢
    subst hb hc
    refine ⟨fun W => ?_, _, _, fun W => iIsDef_any _ _ _ W, fun hk hd => ?_⟩
    · have k := iDisc_any a (3 * e) (3 * g) d W
      have h1 : dsc0 a (3 * e) (3 * g) d = wrap64 (-27 * wrap64 (wrap64 (rt2 a e g d * rt2 a e g d) - wrap64 (wrap64 (4 * rt1 a e g) * rt3 e g d))) := by
        unfold dsc0
        rw [if_pos hF]
        simp only [dsc, pl, mi, mu, wr_ml, wr_mr, wr_sl, wr_sr, wr_al, wr_ar]
        congr 1
        have := dsc_root a e g d
        simp only [dsq] at this
        grind
      have h2 : cif a (3 * e) (3 * g) d = 0 := by unfold cif; rw [if_pos hF]
      rw [h1, h2] at k
      exact k
    · rw [Bool.and_eq_true] at hd
      obtain ⟨j1, j2, _⟩ := el_red hd.2
      have hdc := dc1_0.2 hd
      refine ⟨odv (rt1 a e g) (rt2 a e g d) (rt3 e g d), ?_, fun W => ?_⟩
      · unfold odv
        rw [if_pos hdc]
        rcases od_thr j1 (root_cube j1 (Eqv.red _) (cmp_root a e g d)) with h | h <;> rw [h] <;> simp
      · have k := iOrder_any (rt1 a e g) (rt2 a e g d) (rt3 e g d) W
        rw [hdc] at k
        exact k

end Go.Proofs.Ytehbkmohfipmgaa
