/- Several texts in one: XEv, XFo9, XDraw, XDraw2, XDraw3, XDraw4, XDraw5. -/
import Derived.Test.YtikmjefbjejbkaaBbAv
import Derived.Test.YtikmjefbjejbkaaBbQc
import Derived.Test.YtikmjefbjejbkaaBbZ19
import Derived.Test.YtikmjefbjejbkaaBbZ4
import Derived.Test.YtikmjefbjejbkaaBbZ6
import Derived.Deep.DeepCutAuto
import Derived.Test.YtikmjefbjejbkaaBbZ1
import Derived.Test.YtikmjefbjejbkaaBbZ2
import Derived.Test.YtikmjefbjejbkaaBbZ5

/- FnEquivalence: what its law says of the answers. Mathematics alone. -/
namespace Go.Proofs.Ytikmjefbjejbkaa
open Go.RowKit
namespace Rd
def We (x y : Int) : Prop := wrap64 x = wrap64 y
theorem We.r (x : Int) : We x x := rfl
theorem We.w (x : Int) : We (wrap64 x) x := by
  have h := wr_al x 0
  simp only [Int.add_zero] at h
  exact h
theorem We.a {x y u v : Int} (h : We x u) (h' : We y v) : We (x + y) (u + v) := by unfold We at *; rw [← wr_al, ← wr_ar, h, h', wr_al, wr_ar]
theorem We.s {x y u v : Int} (h : We x u) (h' : We y v) : We (x - y) (u - v) := by unfold We at *; rw [← wr_sl, ← wr_sr, h, h', wr_sl, wr_sr]
theorem We.m {x y u v : Int} (h : We x u) (h' : We y v) : We (x * y) (u * v) := by unfold We at *; rw [← wr_ml, ← wr_mr, h, h', wr_ml, wr_mr]
theorem We.eq {x y : Int} (h : We x y) (hx : -9000000000000000000 ≤ x ∧ x ≤ 9000000000000000000) (hy : -9000000000000000000 ≤ y ∧ y ≤ 9000000000000000000) : x = y := by
  unfold We at h; rwa [wr_in hx, wr_in hy] at h
theorem fA_we {a b c d x z X Z : Int} (hx : We x X) (hz : We z Z) : We (Red.fA a b c d x z) (Red.fA a b c d X Z) := by
  unfold Red.fA Red.fv
  have r := We.r
  exact ((((((r a).m hx).m hx).m hx).a ((((r b).m hx).m hx).m hz)).a ((((r c).m hx).m hz).m hz)).a ((((r d).m hz).m hz).m hz)
theorem fB_we {a b c d x y z t X Y Z T : Int} (hx : We x X) (hy : We y Y) (hz : We z Z) (ht : We t T) : We (Red.fB a b c d x y z t) (Red.fB a b c d X Y Z T) := by
  unfold Red.fB
  have r := We.r
  exact ((((((((r 3).m (r a)).m hx).m hx).m hy).a ((r b).m (((hx.m hx).m ht).a ((((r 2).m hx).m hy).m hz)))).a ((r c).m (((((r 2).m hx).m hz).m ht).a ((hy.m hz).m hz)))).a (((((r 3).m (r d)).m hz).m hz).m ht))
theorem fA_bd {a b c d x z : Int} (ha : -1000 ≤ a ∧ a ≤ 1000) (hb : -1000 ≤ b ∧ b ≤ 1000) (hc : -1000 ≤ c ∧ c ≤ 1000) (hd : -1000 ≤ d ∧ d ≤ 1000) (hx : -1000 ≤ x ∧ x ≤ 1000) (hz : -1000 ≤ z ∧ z ≤ 1000) :
    -9000000000000000000 ≤ Red.fA a b c d x z ∧ Red.fA a b c d x z ≤ 9000000000000000000 := by
  have m1 := Red.mb (Red.mb (Red.mb ha hx) hx) hx
  have m2 := Red.mb (Red.mb (Red.mb hb hx) hx) hz
  have m3 := Red.mb (Red.mb (Red.mb hc hx) hz) hz
  have m4 := Red.mb (Red.mb (Red.mb hd hz) hz) hz
  unfold Red.fA Red.fv
  omega
theorem fB_bd {a b c d x y z t : Int} (ha : -1000 ≤ a ∧ a ≤ 1000) (hb : -1000 ≤ b ∧ b ≤ 1000) (hc : -1000 ≤ c ∧ c ≤ 1000) (hd : -1000 ≤ d ∧ d ≤ 1000) (hx : -1000 ≤ x ∧ x ≤ 1000) (hy : -1000 ≤ y ∧ y ≤ 1000) (hz : -1000 ≤ z ∧ z ≤ 1000) (ht : -1000 ≤ t ∧ t ≤ 1000) :
    -9000000000000000000 ≤ Red.fB a b c d x y z t ∧ Red.fB a b c d x y z t ≤ 9000000000000000000 := by
  have m1 := Red.mb (Red.mb (Red.mb ha hx) hx) hy
  have m2 := Red.mb hb (Red.mb (Red.mb hx hx) ht)
  have m3 := Red.mb hb (Red.mb (Red.mb hx hy) hz)
  have m4 := Red.mb hc (Red.mb (Red.mb hx hz) ht)
  have m5 := Red.mb hc (Red.mb (Red.mb hy hz) hz)
  have m6 := Red.mb (Red.mb (Red.mb hd hz) hz) ht
  have e : Red.fB a b c d x y z t = 3*(a*x*x*y) + b*(x*x*t) + 2*(b*(x*y*z)) + 2*(c*(x*z*t)) + c*(y*z*z) + 3*(d*z*z*t) := by unfold Red.fB; grind
  rw [e]
  omega
/-- A form changed by a matrix that the machine holds. -/
theorem ch_small {f m X g : Red.F4} (hf : isF f.1 f.2.1 f.2.2.1 f.2.2.2 = true) (hm : isF m.1 m.2.1 m.2.2.1 m.2.2.2 = true) (hg : isF g.1 g.2.1 g.2.2.1 g.2.2.2 = true) (hX : m = wrF X) (h : ch f X = g) : ch f m = g := by
  obtain ⟨a, b, c, d⟩ := f
  obtain ⟨x, y, z, t⟩ := X
  obtain ⟨g0, g1, g2, g3⟩ := g
  obtain ⟨fa, fb, fc, fd⟩ := isF_t hf
  obtain ⟨ga, gb, gc, gd⟩ := isF_t hg
  obtain ⟨h0, h1, h2, h3⟩ := F4.eq h
  unfold ch at h0 h1 h2 h3
  dsimp only at *
  have wx := We.w x; have wy := We.w y; have wz := We.w z; have wt := We.w t
  obtain ⟨m0, m1, m2, m3⟩ := m
  obtain ⟨e0, e1, e2, e3⟩ := F4.eq hX
  unfold wrF at e0 e1 e2 e3
  dsimp only at *
  rw [← e0] at wx; rw [← e1] at wy; rw [← e2] at wz; rw [← e3] at wt
  obtain ⟨ma, mb, mc, md⟩ := isF_t hm
  unfold ch
  dsimp only
  refine Prod.ext ?_ (Prod.ext ?_ (Prod.ext ?_ ?_)) <;> dsimp only
  · rw [← h0]; exact (fA_we wx wz).eq (fA_bd fa fb fc fd ma mc) (by rw [h0]; omega)
  · rw [← h1]; exact (fB_we wx wy wz wt).eq (fB_bd fa fb fc fd ma mb mc md) (by rw [h1]; omega)
  · rw [← h2]; exact (fB_we wy wx wt wz).eq (fB_bd fa fb fc fd mb ma md mc) (by rw [h2]; omega)
  · rw [← h3]; exact (fA_we wy wt).eq (fA_bd fa fb fc fd mb md) (by rw [h3]; omega)
theorem dt_small {m X : Red.F4} (hm : isF m.1 m.2.1 m.2.2.1 m.2.2.2 = true) (hX : m = wrF X) (h : dt X * dt X = 1) : dt m = 1 ∨ dt m = -1 := by
  obtain ⟨x, y, z, t⟩ := X
  obtain ⟨m0, m1, m2, m3⟩ := m
  obtain ⟨e0, e1, e2, e3⟩ := F4.eq hX
  unfold wrF at e0 e1 e2 e3
  obtain ⟨ma, mb, mc, md⟩ := isF_t hm
  dsimp only at *
  have wx := We.w x; have wy := We.w y; have wz := We.w z; have wt := We.w t
  rw [← e0] at wx; rw [← e1] at wy; rw [← e2] at wz; rw [← e3] at wt
  have hd := dt_cases h
  have n1 := Red.mb ma md
  have n2 := Red.mb mb mc
  have e : dt (m0, m1, m2, m3) = dt (x, y, z, t) := ((wx.m wt).s (wy.m wz)).eq (by omega) (by unfold dt at hd; dsimp only at hd; omega)
  rw [e]; exact hd
end Rd
theorem cA_ch (f m : Red.F4) : (cA f.1 f.2.1 f.2.2.1 f.2.2.2 m.1 m.2.2.1, cB f.1 f.2.1 f.2.2.1 f.2.2.2 m.1 m.2.1 m.2.2.1 m.2.2.2, cC f.1 f.2.1 f.2.2.1 f.2.2.2 m.1 m.2.1 m.2.2.1 m.2.2.2, cA f.1 f.2.1 f.2.2.1 f.2.2.2 m.2.1 m.2.2.2) = Rd.ch f m := (ch_cA f m).symm
/-- What ChangeForm makes of a form by such a matrix. -/
def ChTo (f g m : Red.F4) : Prop := chc f.1 f.2.1 f.2.2.1 f.2.2.2 m.1 m.2.1 m.2.2.1 m.2.2.2 = 0 ∧ cA f.1 f.2.1 f.2.2.1 f.2.2.2 m.1 m.2.2.1 = g.1 ∧ cB f.1 f.2.1 f.2.2.1 f.2.2.2 m.1 m.2.1 m.2.2.1 m.2.2.2 = g.2.1 ∧ cC f.1 f.2.1 f.2.2.1 f.2.2.2 m.1 m.2.1 m.2.2.1 m.2.2.2 = g.2.2.1 ∧ cA f.1 f.2.1 f.2.2.1 f.2.2.2 m.2.1 m.2.2.2 = g.2.2.2
theorem chTo {f g m : Red.F4} (hf : isF f.1 f.2.1 f.2.2.1 f.2.2.2 = true) (hm : isF m.1 m.2.1 m.2.2.1 m.2.2.2 = true) (hg : isF g.1 g.2.1 g.2.2.1 g.2.2.2 = true) (h : Rd.ch f m = g) : ChTo f g m := by
  rw [← cA_ch] at h
  obtain ⟨h0, h1, h2, h3⟩ := Rd.F4.eq h
  dsimp only at h0 h1 h2 h3
  refine ⟨?_, h0, h1, h2, h3⟩
  unfold chc
  rw [h0, h1, h2, h3, hf, hm, hg]
  rfl
theorem mbc_0 {a b c d p q r s : Int} (h : mbc a b c d p q r s = 0) : rcd a b c d = 0 ∧ rcd p q r s = 0 ∧ rcd2 a b c d p q r s = 0 ∧ alM (mbt (a, b, c, d) (p, q, r, s)) = true := by
  unfold mbc at h
  by_cases k : rcd2 a b c d p q r s = 0
  · rw [if_pos k] at h
    obtain ⟨h1, h2⟩ := rcd2_0 k
    refine ⟨h1, h2, k, ?_⟩
    cases e : alM (mbt (a, b, c, d) (p, q, r, s))
    · rw [e] at h; cases h
    · rfl
  · rw [if_neg k] at h; exact (k h).elim
/-- Each matrix between two forms changes one to the other one. -/
theorem mb_at {a b c d p q r s : Int} (h : mbc a b c d p q r s = 0) {m : Red.F4} (hm : m ∈ mbt (a, b, c, d) (p, q, r, s)) : ChTo (a, b, c, d) (p, q, r, s) m := by
  obtain ⟨hf, hg, _, hal⟩ := mbc_0 h
  have hmF : isF m.1 m.2.1 m.2.2.1 m.2.2.2 = true := by
    unfold alM at hal
    exact List.all_eq_true.1 hal m hm
  have hfF : isF a b c d = true := (rcd_0 hf).1
  have hgF : isF p q r s = true := (rcd_0 hg).1
  by_cases e : nfm a b c d = nfm p q r s
  · obtain ⟨_, u0, hu0⟩ := nfm_rd hg
    obtain ⟨v, hv, hmv⟩ := List.mem_map.1 ((mbt_perm hf hg e hu0).mem_iff.1 hm)
    obtain ⟨u, hu, rfl⟩ := way_ex hf hv
    obtain ⟨y1, y2, y3⟩ := cly_spec hf
    obtain ⟨z1, z2, z3⟩ := cly_spec hg
    obtain ⟨_, k2, k3⟩ := Rd.wus_iff.1 hu
    obtain ⟨_, l2, l3⟩ := Rd.wus_iff.1 hu0
    have hX : m = Rd.wrF (Rd.mz (Rd.mz (cly a b c d) u) (Rd.ivz (Rd.mz (cly p q r s) u0))) := by rw [← hmv, Rd.mm_wr, Rd.wrF_l, Rd.wrF_r]
    refine chTo hfF hmF hgF (Rd.ch_small hfF hmF hgF hX ?_)
    rw [← Rd.ch_ch, ← Rd.ch_ch, y2, k3, e, ← l3, ← z2, Rd.ch_ch, Rd.ch_ch, ← Rd.mz_assoc, Rd.mz_ivz (Rd.dt2_mz z1 l2), Rd.ch_one]
  · rw [mbt_nil hf hg e] at hm; cases hm
/-- Automorphisms: 1, 2, 3 or 6. -/
theorem aut_len {a b c d : Int} (h : mbc a b c d a b c d = 0) : (mbt (a, b, c, d) (a, b, c, d)).length = 1 ∨ (mbt (a, b, c, d) (a, b, c, d)).length = 2 ∨ (mbt (a, b, c, d) (a, b, c, d)).length = 3 ∨ (mbt (a, b, c, d) (a, b, c, d)).length = 6 := by
  obtain ⟨hf, _, _, _⟩ := mbc_0 h
  obtain ⟨hN, u0, hu0⟩ := nfm_rd hf
  obtain ⟨_, _, h3, _⟩ := cls_spec hf
  have hs := cls_sgn hf
  rw [(mbt_perm hf hf rfl hu0).length_eq, List.length_map, nwy_wus, List.length_map, Rd.wus_aut hs hN h3 hu0]
  refine Rd.aut_count ?_ hN
  obtain ⟨_, k2, k3⟩ := Rd.wus_iff.1 hu0
  rw [← k3]
  exact hs.ch k2
theorem rcd2_of {a b c d p q r s : Int} (hf : rcd a b c d = 0) (hg : rcd p q r s = 0) : rcd2 a b c d p q r s = 0 := by
  obtain ⟨f1, f2, f3⟩ := rcd_0 hf
  obtain ⟨g1, g2, g3⟩ := rcd_0 hg
  unfold rcd2
  simp [f1, f2, f3, g1, g2, g3]
theorem aeq_sym {a b c d p q r s : Int} (h : rcd2 a b c d p q r s = 0) : rcd2 p q r s a b c d = 0 ∧ aeq p q r s a b c d = aeq a b c d p q r s := by
  obtain ⟨hf, hg⟩ := rcd2_0 h
  have h2 := rcd2_of hg hf
  refine ⟨h2, ?_⟩
  unfold aeq
  rw [h, h2]
  rw [Bool.eq_iff_iff]
  simp only [beq_self_eq_true, Bool.true_and, Bool.and_eq_true, beq_iff_eq]
  constructor
  · intro ⟨⟨⟨e0, e1⟩, e2⟩, e3⟩; exact ⟨⟨⟨e0.symm, e1.symm⟩, e2.symm⟩, e3.symm⟩
  · intro ⟨⟨⟨e0, e1⟩, e2⟩, e3⟩; exact ⟨⟨⟨e0.symm, e1.symm⟩, e2.symm⟩, e3.symm⟩
theorem aeq_len {a b c d p q r s : Int} (h : mbc a b c d p q r s = 0) : rcd2 a b c d p q r s = 0 ∧ aeq a b c d p q r s = decide (0 < ((mbt (a, b, c, d) (p, q, r, s)).length : Int)) := by
  obtain ⟨hf, hg, h2, _⟩ := mbc_0 h
  refine ⟨h2, ?_⟩
  have ha : aeq a b c d p q r s = decide (nfm a b c d = nfm p q r s) := by
    unfold aeq
    rw [h2, Bool.eq_iff_iff]
    simp only [beq_self_eq_true, Bool.true_and, Bool.and_eq_true, beq_iff_eq, decide_eq_true_eq]
    constructor
    · intro ⟨⟨⟨e0, e1⟩, e2⟩, e3⟩; exact Prod.ext e0 (Prod.ext e1 (Prod.ext e2 e3))
    · intro e; rw [e]; simp only [and_self]
  rw [ha]
  by_cases e : nfm a b c d = nfm p q r s
  · obtain ⟨_, u0, hu0⟩ := nfm_rd hg
    have hl := List.length_pos_iff.2 (nwy_ne hf)
    have := (mbt_perm hf hg e hu0).length_eq
    rw [List.length_map] at this
    rw [decide_eq_true e, decide_eq_true (by omega)]
  · rw [mbt_nil hf hg e, decide_eq_false e]; rfl
/-- The numbers of a row, one by one. -/
theorem row_at {L : List Red.F4} {i : Nat} (hi : i < L.length) : ∃ q, L[i]? = some q ∧ q ∈ L ∧ (L.flatMap gm4).getD (i * 4) 0 = q.1 ∧ (L.flatMap gm4).getD (i * 4 + 1) 0 = q.2.1 ∧ (L.flatMap gm4).getD (i * 4 + 2) 0 = q.2.2.1 ∧ (L.flatMap gm4).getD (i * 4 + 3) 0 = q.2.2.2 :=
  ⟨L[i], List.getElem?_eq_getElem hi, List.getElem_mem hi, flat_at (List.getElem?_eq_getElem hi)⟩

end Go.Proofs.Ytikmjefbjejbkaa

/- Lists of forms, lists of matrices, compared one by one. -/
namespace Go.Proofs.Ytikmjefbjejbkaa
open Go.RowKit

theorem eqF_4 (a b c d : Int) : (a == a && b == b && c == c && d == d) = true := by simp

set_option maxRecDepth 100000 in
set_option maxHeartbeats 1000000 in
theorem frs9_any (u v : Value) (n : Nat) (g : Nat → Int) (w : World) (hu : RdX w u n g) (hv : RdX w v n g) :
    Calls Try.prog 25 #[u, v] w fun e w' => e = .returned (.bool true) ∧ Below w.heap.size w w' := by
  have heq := eqForm_run
  have hlen : (∃ a c, u = .slice a n c) ∧ ∃ a' c', v = .slice a' n c' := by
    refine ⟨?_, ?_⟩
    · rcases hu with ⟨rfl, rfl⟩ | ⟨b', cap', rfl, _⟩
      · exact ⟨_, _, rfl⟩
      · exact ⟨_, _, rfl⟩
    · rcases hv with ⟨rfl, rfl⟩ | ⟨b', cap', rfl, _⟩
      · exact ⟨_, _, rfl⟩
      · exact ⟨_, _, rfl⟩
  obtain ⟨⟨au, cu, rfl⟩, av, cv, rfl⟩ := hlen
  have HU := hid hu
  have HV := hid hv
  clear hu hv
  go_enter Try.func25, Try.ntmps25
  go_wp2
  go_loopw [5] (fun i wr => ∃ k : Nat, k ≤ n ∧ i = .int .i64 k ∧ Below w.heap.size w wr) (fun i _ => n - (intOf i).toNat)
  case atStart => exact ⟨0, Nat.zero_le _, rfl, Below.refl _ _⟩
  case round =>
    obtain ⟨k, hk, rfl, hB⟩ := hrel
    by_cases hlt : k < n
    · rcases HU.out with ⟨h0, rfl⟩ | ⟨b, cap, h0, hc1, hm1, hb1, hcell1⟩
      · omega
      rcases HV.out with ⟨h0', rfl⟩ | ⟨b', cap', h0', hc2, hm2, hb2, hcell2⟩
      · omega
      cases h0; cases h0'
      have C := (RdX.at4 hb1 hcell1 hlt).next hB hb1
      have D := (RdX.at4 hb2 hcell2 hlt).next hB hb2
      clear hcell1 hcell2
      unfold maxLen at hm1 hm2
      generalize g (k * 4) = x at C D
      generalize g (k * 4 + 1) = y at C D
      generalize g (k * 4 + 2) = z at C D
      generalize g (k * 4 + 3) = t at C D
      obtain ⟨_, c0, c1, c2, c3⟩ := id C
      obtain ⟨_, d0, d1, d2, d3⟩ := id D
      have er := eqF_4 x y z t
      go_wp2_with fail
      go_quiet (fail)
      go_wp2_with fail
      go_roundw
      case rel => exact ⟨k + 1, by omega, by go_num, by (repeat' (first | with_reducible exact Below.refl _ _ | with_reducible assumption | with_reducible refine gr_alloc ?_ _ | with_reducible refine gr_drew ?_ | with_reducible refine gr_drewN ?_ _ | with_reducible refine gr_trans ?_ (by assumption) | with_reducible refine gr_set ?_ ?_ _ | (simp; done) | omega | (simp; omega)))⟩
      case measure => simp [intOf]; omega
    · go_wp2
      go_ret
      exact ⟨rfl, hB⟩

set_option maxRecDepth 100000 in
set_option maxHeartbeats 1000000 in
theorem mxs9_any (u v : Value) (n : Nat) (g : Nat → Int) (w : World) (hu : RdX w u n g) (hv : RdX w v n g) :
    Calls Try.prog 35 #[u, v] w fun e w' => e = .returned (.bool true) ∧ Below w.heap.size w w' := by
  have heq := eqMatrix_run
  have hlen : (∃ a c, u = .slice a n c) ∧ ∃ a' c', v = .slice a' n c' := by
    refine ⟨?_, ?_⟩
    · rcases hu with ⟨rfl, rfl⟩ | ⟨b', cap', rfl, _⟩
      · exact ⟨_, _, rfl⟩
      · exact ⟨_, _, rfl⟩
    · rcases hv with ⟨rfl, rfl⟩ | ⟨b', cap', rfl, _⟩
      · exact ⟨_, _, rfl⟩
      · exact ⟨_, _, rfl⟩
  obtain ⟨⟨au, cu, rfl⟩, av, cv, rfl⟩ := hlen
  have HU := hid hu
  have HV := hid hv
  clear hu hv
  go_enter Try.func35, Try.ntmps35
  go_wp2
  go_loopw [5] (fun i wr => ∃ k : Nat, k ≤ n ∧ i = .int .i64 k ∧ Below w.heap.size w wr) (fun i _ => n - (intOf i).toNat)
  case atStart => exact ⟨0, Nat.zero_le _, rfl, Below.refl _ _⟩
  case round =>
    obtain ⟨k, hk, rfl, hB⟩ := hrel
    by_cases hlt : k < n
    · rcases HU.out with ⟨h0, rfl⟩ | ⟨b, cap, h0, hc1, hm1, hb1, hcell1⟩
      · omega
      rcases HV.out with ⟨h0', rfl⟩ | ⟨b', cap', h0', hc2, hm2, hb2, hcell2⟩
      · omega
      cases h0; cases h0'
      have C := (RdX.at4 hb1 hcell1 hlt).next hB hb1
      have D := (RdX.at4 hb2 hcell2 hlt).next hB hb2
      clear hcell1 hcell2
      unfold maxLen at hm1 hm2
      generalize g (k * 4) = x at C D
      generalize g (k * 4 + 1) = y at C D
      generalize g (k * 4 + 2) = z at C D
      generalize g (k * 4 + 3) = t at C D
      obtain ⟨_, c0, c1, c2, c3⟩ := id C
      obtain ⟨_, d0, d1, d2, d3⟩ := id D
      have er := eqF_4 x y z t
      go_wp2_with fail
      go_quiet (fail)
      go_wp2_with fail
      go_roundw
      case rel => exact ⟨k + 1, by omega, by go_num, by (repeat' (first | with_reducible exact Below.refl _ _ | with_reducible assumption | with_reducible refine gr_alloc ?_ _ | with_reducible refine gr_drew ?_ | with_reducible refine gr_drewN ?_ _ | with_reducible refine gr_trans ?_ (by assumption) | with_reducible refine gr_set ?_ ?_ _ | (simp; done) | omega | (simp; omega)))⟩
      case measure => simp [intOf]; omega
    · go_wp2
      go_ret
      exact ⟨rfl, hB⟩


end Go.Proofs.Ytikmjefbjejbkaa

/- Draws: the source of numbers. -/
namespace Go.Proofs.Ytikmjefbjejbkaa
open Go.ChangeShapes Go.WideShapes Go.ChangeAt Go.RowKit

theorem below_drewN {n : Nat} {w w' : World} (h : Below n w w') (m : Nat) : Below n w (w'.drewN m) := ⟨h.os, h.tape, h.output, h.size, h.block⟩
theorem i64d {n : Int} (h : -1000000000000000000 ≤ n ∧ n ≤ 1000000000000000000) : IntKind.i64.wrap n = n := IntWalk.i64_in n (by omega)
/-- Block k alone may have turned. -/
structure Gk (k : Nat) (w w' : World) : Prop where
  os : w'.os = w.os
  tape : w'.tape = w.tape
  output : w'.output = w.output
  size : w.heap.size ≤ w'.heap.size
  block : ∀ b, b < w.heap.size → b ≠ k → w'.heap[b]? = w.heap[b]?
theorem Gk.refl (k : Nat) (w : World) : Gk k w w := ⟨rfl, rfl, rfl, Nat.le_refl _, fun _ _ _ => rfl⟩
theorem Gk.trans {k : Nat} {u v w : World} (h : Gk k u v) (h' : Gk k v w) : Gk k u w :=
  ⟨h'.os.trans h.os, h'.tape.trans h.tape, h'.output.trans h.output, Nat.le_trans h.size h'.size, fun b hb hk => (h'.block b (Nat.lt_of_lt_of_le hb h.size) hk).trans (h.block b hb hk)⟩
theorem Gk.below {k : Nat} {u v w : World} (h : Gk k u v) (hb : Below v.heap.size v w) : Gk k u w :=
  h.trans ⟨hb.os, hb.tape, hb.output, hb.size, fun b hl _ => hb.block b hl⟩
theorem Gk.set {k : Nat} {u v : World} (h : Gk k u v) {p : Addr} (hp : p.block = k) (x : Value) : Gk k u (v.setCell p x) := by
  refine ⟨h.os, h.tape, h.output, by rw [World.size_setCell]; exact h.size, fun b hb hk => ?_⟩
  rw [← h.block b hb hk]
  have := (Below.refl v.heap.size v)
  exact Below.heap_setCell _ _ _ b (by rw [hp]; exact hk)
theorem Gk.out {k : Nat} {u v w : World} (hb : Below u.heap.size u v) (h : Gk k v w) (hk : u.heap.size ≤ k) : Below u.heap.size u w :=
  ⟨h.os.trans hb.os, h.tape.trans hb.tape, h.output.trans hb.output, Nat.le_trans hb.size h.size, fun b hl => (h.block b (Nat.lt_of_lt_of_le hl hb.size) (by omega)).trans (hb.block b hl)⟩
theorem Gk.cell {k : Nat} {u v : World} (h : Gk k u v) {p : Addr} (hp : p.block < u.heap.size) (hk : p.block ≠ k) : v.cell? p = u.cell? p := World.cell?_of_block (h.block _ hp hk)
theorem Gk.frozen {k : Nat} {u v : World} (h : Gk k u v) {p : Addr} (hp : p.block < u.heap.size) (hk : p.block ≠ k) : v.frozen? p = u.frozen? p := World.frozen?_of_block (h.block _ hp hk)
theorem Arr.gk {k j : Nat} {u v : World} {a b c d : Int} (hA : Arr u j a b c d) (h : Gk k u v) (hk : j ≠ k) : Arr v j a b c d :=
  ⟨Nat.lt_of_lt_of_le hA.lt h.size, (h.cell (p := ⟨j, 0, none⟩) hA.lt hk).trans hA.c0, (h.cell (p := ⟨j, 1, none⟩) hA.lt hk).trans hA.c1, (h.cell (p := ⟨j, 2, none⟩) hA.lt hk).trans hA.c2, (h.cell (p := ⟨j, 3, none⟩) hA.lt hk).trans hA.c3,
    (h.frozen (p := ⟨j, 0, none⟩) hA.lt hk).trans hA.f0, (h.frozen (p := ⟨j, 1, none⟩) hA.lt hk).trans hA.f1, (h.frozen (p := ⟨j, 2, none⟩) hA.lt hk).trans hA.f2, (h.frozen (p := ⟨j, 3, none⟩) hA.lt hk).trans hA.f3⟩

/-- Block k is a source of numbers over bytes. -/
structure Src (w : World) (k : Nat) (a : Option Addr) (len cap : Nat) (zs : List Int) : Prop where
  row : IsRow .u8 w a len cap zs
  apart : ∀ x, a = some x → zs ≠ [] → x.block < k
  lt : k < w.heap.size
  code : w.cell? ⟨k, 0, none⟩ = some (.slice a len cap)
  mark : ∃ n : Int, 0 ≤ n ∧ n ≤ len ∧ w.cell? ⟨k, 1, none⟩ = some (.int .i64 n)
  hash : ∃ n : Int, w.cell? ⟨k, 2, none⟩ = some (.int .u64 n)
  f0 : w.frozen? ⟨k, 0, none⟩ = false
  f1 : w.frozen? ⟨k, 1, none⟩ = false
  f2 : w.frozen? ⟨k, 2, none⟩ = false
theorem row_gk {k : Nat} {w w' : World} {a : Option Addr} {len cap : Nat} {zs : List Int} (h : IsRow .u8 w a len cap zs) (ha : ∀ x, a = some x → zs ≠ [] → x.block < k) (hg : Gk k w w') : IsRow .u8 w' a len cap zs := by
  rcases h with h | ⟨x, h1, h2, h3, h4, h5, h6⟩
  · exact .inl h
  · refine .inr ⟨x, h1, h2, h3, h4, fun i hi => ?_, h6⟩
    have hb : (x.add i).block = x.block := by unfold Addr.add; split <;> rfl
    refine (hg.cell (World.block_lt_of_cell? w _ (h5 i hi)) ?_).trans (h5 i hi)
    have := ha x h1 (by rintro rfl; simp at hi)
    omega
theorem Src.below {w w' : World} {k : Nat} {a : Option Addr} {len cap : Nat} {zs : List Int} (h : Src w k a len cap zs) (hb : Below w.heap.size w w') : Src w' k a len cap zs := by
  have hg : ∀ o, w'.cell? ⟨k, o, none⟩ = w.cell? ⟨k, o, none⟩ := fun o => hb.cell (p := ⟨k, o, none⟩) h.lt
  have hf : ∀ o, w'.frozen? ⟨k, o, none⟩ = w.frozen? ⟨k, o, none⟩ := fun o => hb.frozen (p := ⟨k, o, none⟩) h.lt
  exact ⟨row_gk h.row h.apart ((Gk.refl k w).below hb), h.apart, Nat.lt_of_lt_of_le h.lt hb.size, (hg 0).trans h.code,
    by obtain ⟨n, h0, h1, h2⟩ := h.mark; exact ⟨n, h0, h1, (hg 1).trans h2⟩, by obtain ⟨n, h0⟩ := h.hash; exact ⟨n, (hg 2).trans h0⟩, (hf 0).trans h.f0, (hf 1).trans h.f1, (hf 2).trans h.f2⟩
theorem Src.set1 {w : World} {k : Nat} {a : Option Addr} {len cap : Nat} {zs : List Int} (h : Src w k a len cap zs) (n : Int) (h0 : 0 ≤ n) (h1 : n ≤ len) : Src (w.setCell ⟨k, 1, none⟩ (.int .i64 n)) k a len cap zs := by
  have hg : Gk k w (w.setCell ⟨k, 1, none⟩ (.int .i64 n)) := (Gk.refl k w).set rfl _
  obtain ⟨m, _, _, hm⟩ := h.mark
  obtain ⟨q, hq⟩ := h.hash
  exact ⟨row_gk h.row h.apart hg, h.apart, Nat.lt_of_lt_of_le h.lt hg.size, (World.cell?_setCell_other _ _ _ _ (ne_off (by decide))).trans h.code,
    ⟨n, h0, h1, World.cell?_setCell_same' _ _ _ (by rw [hm]; rfl)⟩, ⟨q, (World.cell?_setCell_other _ _ _ _ (ne_off (by decide))).trans hq⟩, (World.frozen?_setCell _ _ _ _).trans h.f0, (World.frozen?_setCell _ _ _ _).trans h.f1, (World.frozen?_setCell _ _ _ _).trans h.f2⟩
theorem Src.set2 {w : World} {k : Nat} {a : Option Addr} {len cap : Nat} {zs : List Int} (h : Src w k a len cap zs) (n : Int) : Src (w.setCell ⟨k, 2, none⟩ (.int .u64 n)) k a len cap zs := by
  have hg : Gk k w (w.setCell ⟨k, 2, none⟩ (.int .u64 n)) := (Gk.refl k w).set rfl _
  obtain ⟨m, h0, h1, hm⟩ := h.mark
  obtain ⟨q, hq⟩ := h.hash
  exact ⟨row_gk h.row h.apart hg, h.apart, Nat.lt_of_lt_of_le h.lt hg.size, (World.cell?_setCell_other _ _ _ _ (ne_off (by decide))).trans h.code,
    ⟨m, h0, h1, (World.cell?_setCell_other _ _ _ _ (ne_off (by decide))).trans hm⟩, ⟨n, World.cell?_setCell_same' _ _ _ (by rw [hq]; rfl)⟩, (World.frozen?_setCell _ _ _ _).trans h.f0, (World.frozen?_setCell _ _ _ _).trans h.f1, (World.frozen?_setCell _ _ _ _).trans h.f2⟩

theorem wrapu_bd (n : Int) : 0 ≤ IntKind.u64.wrap n ∧ IntKind.u64.wrap n ≤ 18446744073709551615 := by
  rw [IntKind.wrap_u64]; omega
theorem and24 (E : Int) (h : 0 ≤ E ∧ E ≤ 18446744073709551615) : 0 ≤ bits BinOp.and IntKind.u64 E 16777215 ∧ bits BinOp.and IntKind.u64 E 16777215 ≤ 16777215 := by
  have h1 := bits_and_u64_nat E.toNat 16777215 (by omega) (by omega)
  rw [Int.toNat_of_nonneg h.1] at h1
  have h2 : E.toNat &&& 16777215 ≤ 16777215 := Nat.and_le_right
  have h3 : bits BinOp.and IntKind.u64 E 16777215 = ((E.toNat &&& 16777215 : Nat) : Int) := h1
  omega
theorem byte_bd (z : Int) (h : (Lit.int .u8 z).wf = true) : 0 ≤ z ∧ z ≤ 255 := by
  have h0 : IntKind.u8.min = 0 := rfl
  have h1 : IntKind.u8.max = 255 := rfl
  simp only [Lit.wf, h0, h1, Bool.and_eq_true, decide_eq_true_eq] at h
  exact h
theorem getD_wf {zs : List Int} (h : ∀ n ∈ zs, (Lit.int .u8 n).wf = true) (i : Nat) (hi : i < zs.length) : (Lit.int .u8 (zs.getD i 0)).wf = true := by
  refine h _ ?_
  simp [hi]
/-- What a draw of a number from 0 to n - 1 leaves. -/
def NextPost (k : Nat) (a : Option Addr) (len cap : Nat) (zs : List Int) (n : Int) (w : World) (e : Ending) (w' : World) : Prop :=
  ∃ x : Int, e = .returned (.int .i64 x) ∧ 0 ≤ x ∧ (x < n ∨ x = 0) ∧ Src w' k a len cap zs ∧ Gk k w w'

set_option maxRecDepth 100000 in
set_option maxHeartbeats 1000000 in
theorem next_any (k : Nat) (a : Option Addr) (len cap : Nat) (zs : List Int) (n : Int) (w : World) (hS : Src w k a len cap zs) :
    Calls Try.prog 72 #[.pointer (some ⟨k, 0, none⟩), .int .i64 n] w (NextPost k a len cap zs n w) := by
  have HS := hid hS
  by_cases hn : n < 1
  · clear hS
    go_enter Try.func72, Try.ntmps72
    go_wp2
    go_ret
    exact ⟨0, rfl, Int.le_refl _, .inr rfl, HS.out, Gk.refl _ _⟩
  · have hl := hS.lt
    obtain ⟨h, hh⟩ := hS.hash
    obtain ⟨m, hm0, hm1, hm⟩ := hS.mark
    have hc := hS.code
    have f1 := hS.f1
    have f2 := hS.f2
    clear hS
    have hn' : 1 ≤ n := by omega
    go_enter Try.func72, Try.ntmps72
    go_upto_region 5 with fail
    generalize hH : IntKind.u64.wrap (IntKind.u64.wrap (h * 6364136223846793005) + 1442695040888963407) = H
    have hX := and24 (H / 8589934592) (by have := wrapu_bd (IntKind.u64.wrap (h * 6364136223846793005) + 1442695040888963407); rw [hH] at this; omega)
    generalize bits BinOp.and IntKind.u64 (H / 8589934592) 16777215 = X at hX ⊢
    have S1 := HS.out.set2 H
    have G1 := (Gk.refl k w).set (p := ⟨k, 2, none⟩) rfl (.int .u64 H)
    clear hH hh hm hc f1 f2 HS hl
    generalize w.setCell ⟨k, 2, none⟩ (.int .u64 H) = W1 at S1 G1 ⊢
    obtain ⟨hX0, hX1⟩ := hX
    rw [wr_in (x := X) (by omega)]
    have hl := S1.lt
    obtain ⟨m', hm0', hm1', hm⟩ := S1.mark
    have hc := S1.code
    have f1 := S1.f1
    clear hm0 hm1 m
    have HS := hid S1
    have hrow := S1.row
    have hap := S1.apart
    clear S1
    by_cases hlt : m' < len
    · rcases hrow with ⟨_, hl0, _⟩ | ⟨x, rfl, hlc, hcm, hz, hcell, hwz⟩
      · omega
      · obtain ⟨j, rfl⟩ : ∃ j : Nat, m' = j := ⟨m'.toNat, by omega⟩
        have hcj := hcell j (by omega)
        have hbz := byte_bd (zs.getD j 0) (getD_wf hwz j (by omega))
        generalize zs.getD j 0 = z at hcj hbz
        obtain ⟨hz0, hz1⟩ := hbz
        have hxb := hap x rfl (by rintro rfl; simp at hz; omega)
        have HA := hid hap
        have HW := hid hwz
        clear hcell hwz hap hz
        unfold maxLen at hcm
        go_quiet (fail)
        have S2 := hid (HS.out.below (below_drewN (Below.refl _ W1) nq))
        have G2 := G1.below (below_drewN (Below.refl _ W1) nq)
        have hm2 : (W1.drewN nq).cell? ⟨k, 1, none⟩ = some (.int .i64 j) := hm
        have hc2 : (W1.drewN nq).cell? ⟨k, 0, none⟩ = some (.slice (some x) len cap) := hc
        have hcj2 : (W1.drewN nq).cell? (x.add j) = some (.int .u8 z) := hcj
        clear hm hc hcj f1 HS hl G1
        generalize W1.drewN nq = W2 at S2 G2 hm2 hc2 hcj2 ⊢
        have wq1 : IntKind.i64.wrap (X + z) = X + z := i64d (by omega)
        go_wp2_with fail
        go_quiet (fail)
        clear wq1
        have S3 := S2.out.below (below_drewN (Below.refl _ W2) nq)
        have G3 := G2.below (below_drewN (Below.refl _ W2) nq)
        have hm3 : (W2.drewN nq).cell? ⟨k, 1, none⟩ = some (.int .i64 j) := hm2
        clear hm2 hc2 hcj2 S2 G2
        generalize W2.drewN nq = W3 at S3 G3 hm3 ⊢
        have f3 := S3.f1
        have hl3 := S3.lt
        have S4 := hid (S3.set1 (j + 1) (by omega) (by omega))
        have G4 := G3.set (p := ⟨k, 1, none⟩) rfl (.int .i64 (j + 1))
        have e0 := Int.emod_nonneg (X + z) (show n ≠ 0 by omega)
        have e1 := Int.emod_lt_of_pos (X + z) (show 0 < n by omega)
        go_wp2
        go_ret
        exact ⟨(X + z) % n, rfl, e0, .inl e1, S4.out, G4⟩
    · go_quiet (fail)
      have S2 := hid (HS.out.below (below_drewN (Below.refl _ W1) nq))
      have G2 := G1.below (below_drewN (Below.refl _ W1) nq)
      clear hm hc f1 HS hl G1 hrow hap
      generalize W1.drewN nq = W2 at S2 G2 ⊢
      have e0 := Int.emod_nonneg X (show n ≠ 0 by omega)
      have e1 := Int.emod_lt_of_pos X (show 0 < n by omega)
      go_wp2
      go_ret
      exact ⟨X % n, rfl, e0, .inl e1, S2.out, G2⟩

end Go.Proofs.Ytikmjefbjejbkaa

/- Draws: numbers and forms. -/
namespace Go.Proofs.Ytikmjefbjejbkaa
open Go.ChangeShapes Go.WideShapes Go.ChangeAt Go.RowKit

theorem Src.alloc {w : World} {k : Nat} {a : Option Addr} {len cap : Nat} {zs : List Int} (h : Src w k a len cap zs) (o : Obj) : Src (w.alloc o) k a len cap zs := h.below ((Below.refl _ w).alloc (Nat.le_refl _) o)
theorem Src.up {w : World} {k : Nat} {a : Option Addr} {len cap : Nat} {zs : List Int} (h : Src w k a len cap zs) {p : Addr} (hp : k < p.block) (v : Value) : Src (w.setCell p v) k a len cap zs := by
  have ne : ∀ o, p ≠ (⟨k, o, none⟩ : Addr) := fun o e => by rw [e] at hp; exact Nat.lt_irrefl _ hp
  refine ⟨?_, h.apart, by rw [World.size_setCell]; exact h.lt, (World.cell?_setCell_other _ _ _ _ (ne 0)).trans h.code,
    by obtain ⟨n, h0, h1, h2⟩ := h.mark; exact ⟨n, h0, h1, (World.cell?_setCell_other _ _ _ _ (ne 1)).trans h2⟩, by obtain ⟨n, h0⟩ := h.hash; exact ⟨n, (World.cell?_setCell_other _ _ _ _ (ne 2)).trans h0⟩,
    (World.frozen?_setCell _ _ _ _).trans h.f0, (World.frozen?_setCell _ _ _ _).trans h.f1, (World.frozen?_setCell _ _ _ _).trans h.f2⟩
  rcases h.row with h' | ⟨x, h1, h2, h3, h4, h5, h6⟩
  · exact .inl h'
  · refine .inr ⟨x, h1, h2, h3, h4, fun i hi => ?_, h6⟩
    have hb : (x.add i).block = x.block := by unfold Addr.add; split <;> rfl
    refine (World.cell?_setCell_other _ _ _ _ fun e => ?_).trans (h5 i hi)
    have := h.apart x h1 (by rintro rfl; simp at hi)
    rw [e, hb] at hp
    omega
theorem Gk.alloc {k : Nat} {u v : World} (h : Gk k u v) (o : Obj) : Gk k u (v.alloc o) := h.below ((Below.refl _ v).alloc (Nat.le_refl _) o)
theorem Gk.up {k : Nat} {u v : World} (h : Gk k u v) {p : Addr} (hp : u.heap.size ≤ p.block) (x : Value) : Gk k u (v.setCell p x) :=
  ⟨h.os, h.tape, h.output, by rw [World.size_setCell]; exact h.size, fun b hb hk => by rw [← h.block b hb hk]; exact Below.heap_setCell _ _ _ b (by omega)⟩

/-- A number, a form: whatever they are. -/
def NumPost (k : Nat) (a : Option Addr) (len cap : Nat) (zs : List Int) (w : World) (e : Ending) (w' : World) : Prop :=
  ∃ x : Int, e = .returned (.int .i64 x) ∧ Src w' k a len cap zs ∧ Gk k w w'
def FrmPost (k : Nat) (a : Option Addr) (len cap : Nat) (zs : List Int) (w : World) (e : Ending) (w' : World) : Prop :=
  ∃ p q r s : Int, e = .returned (.agg #[.int .i64 p, .int .i64 q, .int .i64 r, .int .i64 s]) ∧ Src w' k a len cap zs ∧ Gk k w w'

set_option maxHeartbeats 400000 in
theorem pick_any (k : Nat) (a : Option Addr) (len cap : Nat) (zs : List Int) (b m : Nat) (w : World) (hS : Src w k a len cap zs) (hm1 : 1 ≤ m) (hm2 : m ≤ 1000) (hb : b < w.heap.size) (hk : b ≠ k) (hL : ∀ i, i < m → ∃ x : Int, w.cell? ⟨b, i, none⟩ = some (.int .i64 x)) :
    Calls Try.prog 126 #[.pointer (some ⟨k, 0, none⟩), .slice (some ⟨b, 0, none⟩) m m] w (NumPost k a len cap zs w) := by
  have HL := hid hL
  clear hL
  go_enter Try.func126, Try.ntmps126
  go_wp2_with fail
  refine (next_any k a len cap zs _ _ hS).mono ?_
  rintro e w1 ⟨x, rfl, h0, h1, S1, G1⟩
  obtain ⟨j, rfl⟩ : ∃ j : Nat, x = j := ⟨x.toNat, by omega⟩
  have hj : j < m := by omega
  obtain ⟨y, hy⟩ := HL.out j hj
  have hy1 : w1.cell? ⟨b, j, none⟩ = some (.int .i64 y) := (G1.cell (p := ⟨b, j, none⟩) hb hk).trans hy
  have HS := hid S1
  clear hy h1 S1 hS
  go_wp2
  go_ret
  exact ⟨y, rfl, HS.out, G1⟩

set_option maxHeartbeats 400000 in
theorem part_any (k : Nat) (a : Option Addr) (len cap : Nat) (zs : List Int) (n : Int) (w : World) (hS : Src w k a len cap zs) :
    Calls Try.prog 109 #[.pointer (some ⟨k, 0, none⟩), .int .i64 n] w (NumPost k a len cap zs w) := by
  go_enter Try.func109, Try.ntmps109
  go_wp2_with fail
  refine (next_any k a len cap zs _ _ hS).mono ?_
  rintro e w1 ⟨x, rfl, _, _, S1, G1⟩
  have HS := hid S1
  clear S1 hS
  go_wp2
  go_ret
  exact ⟨_, rfl, HS.out, G1⟩

set_option maxHeartbeats 1000000 in
theorem drawOf_any (k : Nat) (a : Option Addr) (len cap : Nat) (zs : List Int) (n : Int) (w : World) (hS : Src w k a len cap zs) :
    Calls Try.prog 108 #[.pointer (some ⟨k, 0, none⟩), .int .i64 n] w (FrmPost k a len cap zs w) := by
  have hl := hS.lt
  have R0 := Arr.new w 0 0 0 0 26
  have S0 := hid (hS.alloc (.cells #[.int .i64 0, .int .i64 0, .int .i64 0, .int .i64 0] 26))
  have G0 := (Gk.refl k w).alloc (.cells #[.int .i64 0, .int .i64 0, .int .i64 0, .int .i64 0] 26)
  clear hS
  go_enter Try.func108, Try.ntmps108
  go_wp2_with fail
  refine (part_any k a len cap zs _ _ S0.out).mono ?_
  rintro e w1 ⟨x1, rfl, S1', G1⟩
  have S1 := hid S1'
  have R1 := R0.gk G1 (by omega)
  have H1 := G0.trans G1
  clear S1' G1 R0 G0 S0
  go_wp2_with fail
  refine (part_any k a len cap zs _ _ S1.out).mono ?_
  rintro e w2 ⟨x2, rfl, S2', G2⟩
  have S2 := hid S2'
  have R2 := R1.gk G2 (by omega)
  have H2 := H1.trans G2
  clear S2' G2 R1 H1 S1
  go_wp2_with fail
  refine (part_any k a len cap zs _ _ S2.out).mono ?_
  rintro e w3 ⟨x3, rfl, S3', G3⟩
  have S3 := hid S3'
  have R3 := R2.gk G3 (by omega)
  have H3 := H2.trans G3
  clear S3' G3 R2 H2 S2
  go_wp2_with fail
  refine (part_any k a len cap zs _ _ S3.out).mono ?_
  rintro e w4 ⟨x4, rfl, S4', G4⟩
  have S4 := hid S4'
  have R4 := R3.gk G4 (by omega)
  have H4 := H3.trans G4
  clear S4' G4 R3 H3 S3
  obtain ⟨_, r0, r1, r2, r3, f0, f1, f2, f3⟩ := id R4
  go_wp2_with fail
  refine bodyPost_ret (res_A1 (e := 2) rfl Try.underlying26 (by kernel_rfl) rfl (by (repeat (first | with_reducible assumption | with_reducible exact Arr.box (by assumption) | with_reducible apply Arr.drew | with_reducible apply Arr.drewN | with_reducible refine Arr.store4 ?_ | with_reducible apply Arr.alloc | with_reducible refine Box.drew ?_ | with_reducible refine Box.drewN ?_ _ | with_reducible refine Box.alloc ?_ _ | refine Arr.oth ?_ (by first | (simp; done) | omega | (simp; omega)) _ | refine Box.oth ?_ (by first | (simp; done) | omega | (simp; omega)) _)))) rfl ?_
  exact ⟨_, _, _, _, rfl, (((S4.out.up (by simpa using hl) _).up (by simpa using hl) _).up (by simpa using hl) _).up (by simpa using hl) _, (((H4.up (by simp) _).up (by simp) _).up (by simp) _).up (by simp) _⟩

end Go.Proofs.Ytikmjefbjejbkaa

/- Draws: forms and matrices. -/
namespace Go.Proofs.Ytikmjefbjejbkaa
open Go.ChangeShapes Go.WideShapes Go.ChangeAt Go.RowKit

theorem lit_cells (w : World) (t : TypeId) (l : List Int) : ∀ i, i < l.length → ∃ x : Int, (w.alloc (.cells (l.map (Value.int .i64)).toArray t)).cell? ⟨w.heap.size, i, none⟩ = some (.int .i64 x) := fun i hi =>
  ⟨l[i], by simp [go_sem, hi]⟩
theorem Src.up4 {w : World} {k : Nat} {a : Option Addr} {len cap : Nat} {zs : List Int} (h : Src w k a len cap zs) {j : Nat} (hj : k < j) (x y z u : Value) : Src ((((w.setCell ⟨j, 0, none⟩ x).setCell ⟨j, 1, none⟩ y).setCell ⟨j, 2, none⟩ z).setCell ⟨j, 3, none⟩ u) k a len cap zs :=
  (((h.up (p := ⟨j, 0, none⟩) hj _).up (p := ⟨j, 1, none⟩) hj _).up (p := ⟨j, 2, none⟩) hj _).up (p := ⟨j, 3, none⟩) hj _
theorem Gk.up4 {k : Nat} {u v : World} (h : Gk k u v) {j : Nat} (hj : u.heap.size ≤ j) (x y z t : Value) : Gk k u ((((v.setCell ⟨j, 0, none⟩ x).setCell ⟨j, 1, none⟩ y).setCell ⟨j, 2, none⟩ z).setCell ⟨j, 3, none⟩ t) :=
  (((h.up (p := ⟨j, 0, none⟩) hj _).up (p := ⟨j, 1, none⟩) hj _).up (p := ⟨j, 2, none⟩) hj _).up (p := ⟨j, 3, none⟩) hj _

set_option maxHeartbeats 2000000 in
theorem small_any (k : Nat) (a : Option Addr) (len cap : Nat) (zs : List Int) (w : World) (hS : Src w k a len cap zs) :
    Calls Try.prog 106 #[.pointer (some ⟨k, 0, none⟩)] w (FrmPost k a len cap zs w) := by
  have hl := hS.lt
  have R0 := (Arr.new w 0 0 0 0 26).alloc (.cells #[.int .i64 1, .int .i64 2, .int .i64 3, .int .i64 5] 2)
  have S0 := hid ((hS.alloc (.cells #[.int .i64 0, .int .i64 0, .int .i64 0, .int .i64 0] 26)).alloc (.cells #[.int .i64 1, .int .i64 2, .int .i64 3, .int .i64 5] 2))
  have H0 := ((Gk.refl k w).alloc (.cells #[.int .i64 0, .int .i64 0, .int .i64 0, .int .i64 0] 26)).alloc (.cells #[.int .i64 1, .int .i64 2, .int .i64 3, .int .i64 5] 2)
  have hL := lit_cells (w.alloc (.cells #[.int .i64 0, .int .i64 0, .int .i64 0, .int .i64 0] 26)) 2 [1, 2, 3, 5]
  simp only [World.size_alloc] at hL
  have HL := hid hL
  clear hS hL
  go_enter Try.func106, Try.ntmps106
  go_wp2_with fail
  refine (pick_any k a len cap zs _ 4 _ S0.out (by omega) (by omega) (by simp) (by omega) HL.out).mono ?_
  rintro e w1 ⟨x1, rfl, S1', G1⟩
  have S1 := hid S1'
  have R1 := R0.gk G1 (by omega)
  have H1 := H0.trans G1
  clear S1' G1 R0 H0 S0
  clear HL
  go_wp2_with fail
  refine (drawOf_any k a len cap zs _ _ S1.out).mono ?_
  rintro e w2 ⟨p2, q2, r2, s2, rfl, S2', G2⟩
  have S2 := hid S2'
  have R2 := R1.gk G2 (by omega)
  have H2 := H1.trans G2
  clear S2' G2 R1 H1 S1
  have H2s := H2.size
  have R2l := R2.lt
  have S2l := S2.out.lt
  have X3 := Arr.new w2 p2 q2 r2 s2 26
  obtain ⟨jx, hjx⟩ : ∃ j, j = w2.heap.size := ⟨_, rfl⟩
  have S3 := hid (S2.out.alloc (.cells #[.int .i64 p2, .int .i64 q2, .int .i64 r2, .int .i64 s2] 26))
  have R3 := R2.alloc (.cells #[.int .i64 p2, .int .i64 q2, .int .i64 r2, .int .i64 s2] 26)
  have H3 := H2.alloc (.cells #[.int .i64 p2, .int .i64 q2, .int .i64 r2, .int .i64 s2] 26)
  clear S2 R2 H2
  have hR3 := R3.lt
  simp only [World.size_alloc, ← hjx] at hR3 X3
  have hR3' : w.heap.size < jx := by have := H2s; have := R2l; omega
  have HJ := hid hjx
  clear hjx
  go_upto_if 11 with (fail)
  rw [← HJ.out]
  generalize w2.alloc (.cells #[.int .i64 p2, .int .i64 q2, .int .i64 r2, .int .i64 s2] 26) = W3 at S3 R3 H3 X3 hR3 ⊢
  go_cut [] (fun wx => ∃ p q r s : Int, Arr wx jx p q r s ∧ Arr wx w.heap.size 0 0 0 0 ∧ Src wx k a len cap zs ∧ Gk k w wx)
  case first =>
    by_cases hp : p2 = 0
    · have hXl := X3.lt
      have hL := lit_cells W3 2 [1, 1, 0]
      have HL := hid hL
      have SA := hid (S3.out.alloc (.cells #[.int .i64 1, .int .i64 1, .int .i64 0] 2))
      have RA := R3.alloc (.cells #[.int .i64 1, .int .i64 1, .int .i64 0] 2)
      have XA := X3.alloc (.cells #[.int .i64 1, .int .i64 1, .int .i64 0] 2)
      have HA := H3.alloc (.cells #[.int .i64 1, .int .i64 1, .int .i64 0] 2)
      have hpt : (p2 == 0) = true := by simpa using hp
      clear hL hp
      go_wp2_with fail
      refine (pick_any k a len cap zs _ 3 _ SA.out (by omega) (by omega) (by simp) (by omega) HL.out).mono ?_
      rintro e wb ⟨y, rfl, SB, GB⟩
      have RB := RA.gk GB (by omega)
      have XB := XA.gk GB (by omega)
      have HB := HA.trans GB
      have SB' := hid SB
      clear SB GB RA XA HA SA HL
      obtain ⟨_, y0, y1, y2, y3, g0, g1, g2, g3⟩ := id XB
      go_wp2_with fail
      go_meet
      exact ⟨_, _, _, _, XB.set0 y, RB.oth (by simp; omega) _, SB'.out.up (by simp; omega) _, HB.up (by simp; omega) _⟩
    · have hpf : (p2 == 0) = false := by simpa using hp
      clear hp
      go_wp2_with fail
      go_meet
      exact ⟨_, _, _, _, X3, R3, S3.out, H3⟩
  case rest =>
    obtain ⟨p, q, r, s, X4, R4, S4', H4⟩ := hcut
    have S4 := hid S4'
    have hR4 := X4.lt
    clear S4' X3 R3 H3 S3 hR3
    obtain ⟨_, y0, y1, y2, y3, g0, g1, g2, g3⟩ := id X4
    go_upto_if 18 with (fail)
    clear y0 y1 y2 y3 g0 g1 g2 g3
    go_cut [] (fun wx => ∃ p q r s : Int, Arr wx jx p q r s ∧ Arr wx w.heap.size 0 0 0 0 ∧ Src wx k a len cap zs ∧ Gk k w wx)
    case first =>
      by_cases hp : s = 0
      · have hXl := X4.lt
        have hL := lit_cells wc 2 [1, -1, 0]
        have HL := hid hL
        have SA := hid (S4.out.alloc (.cells #[.int .i64 1, .int .i64 (-1), .int .i64 0] 2))
        have RA := R4.alloc (.cells #[.int .i64 1, .int .i64 (-1), .int .i64 0] 2)
        have XA := X4.alloc (.cells #[.int .i64 1, .int .i64 (-1), .int .i64 0] 2)
        have HA := H4.alloc (.cells #[.int .i64 1, .int .i64 (-1), .int .i64 0] 2)
        have hpt : (s == 0) = true := by simpa using hp
        clear hL hp
        go_wp2_with fail
        refine (pick_any k a len cap zs _ 3 _ SA.out (by omega) (by omega) (by simp) (by omega) HL.out).mono ?_
        rintro e wb ⟨y, rfl, SB, GB⟩
        have RB := RA.gk GB (by omega)
        have XB := XA.gk GB (by omega)
        have HB := HA.trans GB
        have SB' := hid SB
        clear SB GB RA XA HA SA HL
        obtain ⟨_, y0, y1, y2, y3, g0, g1, g2, g3⟩ := id XB
        go_wp2_with fail
        go_meet
        exact ⟨_, _, _, _, XB.set3 y, RB.oth (by simp; omega) _, SB'.out.up (by simp; omega) _, HB.up (by simp; omega) _⟩
      · have hpf : (s == 0) = false := by simpa using hp
        clear hp
        go_wp2_with fail
        go_meet
        exact ⟨_, _, _, _, X4, R4, S4.out, H4⟩
    case rest =>
      obtain ⟨p', q', r', s', X5, R5, S5', H5⟩ := hcut
      have S5 := hid S5'
      clear S5' X4 R4 H4 S4 hR4
      obtain ⟨_, y0, y1, y2, y3, _⟩ := id X5
      obtain ⟨_, r0, r1, r2, r3, f0, f1, f2, f3⟩ := id R5
      go_wp2_with fail
      refine bodyPost_ret (res_A1 (e := 2) rfl Try.underlying26 (by kernel_rfl) rfl (by (repeat (first | with_reducible assumption | with_reducible exact Arr.box (by assumption) | with_reducible apply Arr.drew | with_reducible apply Arr.drewN | with_reducible refine Arr.store4 ?_ | with_reducible apply Arr.alloc | with_reducible refine Box.drew ?_ | with_reducible refine Box.drewN ?_ _ | with_reducible refine Box.alloc ?_ _ | refine Arr.oth ?_ (by first | (simp; done) | omega | (simp; omega)) _ | refine Box.oth ?_ (by first | (simp; done) | omega | (simp; omega)) _)))) rfl ?_
      exact ⟨_, _, _, _, rfl, S5.out.up4 hl _ _ _ _, H5.up4 (Nat.le_refl _) _ _ _ _⟩

end Go.Proofs.Ytikmjefbjejbkaa

/- Draws: forms. -/
namespace Go.Proofs.Ytikmjefbjejbkaa
open Go.ChangeShapes Go.WideShapes Go.ChangeAt Go.RowKit

set_option maxRecDepth 100000 in
set_option maxHeartbeats 4000000 in
theorem draw_any (k : Nat) (a : Option Addr) (len cap : Nat) (zs : List Int) (w : World) (hS : Src w k a len cap zs) :
    Calls Try.prog 145 #[.pointer (some ⟨k, 0, none⟩)] w (FrmPost k a len cap zs w) := by
  have hl := hS.lt
  have R0 := Arr.new w 0 0 0 0 26
  have S0 := hid (hS.alloc (.cells #[.int .i64 0, .int .i64 0, .int .i64 0, .int .i64 0] 26))
  have H0 := (Gk.refl k w).alloc (.cells #[.int .i64 0, .int .i64 0, .int .i64 0, .int .i64 0] 26)
  clear hS
  go_enter Try.func145, Try.ntmps145
  go_wp2_with fail
  refine (next_any k a len cap zs _ _ S0.out).mono ?_
  rintro e w1 ⟨x1, rfl, hx1, hy1, S1', G1⟩
  have S1 := hid S1'
  have R1 := R0.gk G1 (by omega)
  have H1 := H0.trans G1
  clear S1' G1 R0 H0 S0
  clear hx1
  have hsp : x1 = 0 ∨ x1 = 1 ∨ x1 = 2 ∨ x1 = 3 ∨ x1 = 4 ∨ (x1 ≠ 0 ∧ x1 ≠ 1 ∧ x1 ≠ 2 ∧ x1 ≠ 3 ∧ x1 ≠ 4) := by omega
  clear hy1
  rcases hsp with rfl | rfl | rfl | rfl | rfl | ⟨n0, n1, n2, n3, n4⟩
  · go_wp2_with fail
    refine (small_any k a len cap zs _ S1.out).mono ?_
    rintro e w2 ⟨p2, q2, r2, s2, rfl, S2', G2⟩
    have S2 := hid S2'
    have R2 := R1.gk G2 (by omega)
    have H2 := H1.trans G2
    clear S2' G2 R1 H1 S1
    obtain ⟨_, r0, r1, r2, r3, f0, f1, f2, f3⟩ := id R2
    go_wp2_with fail
    refine bodyPost_ret (res_A1 (e := 2) rfl Try.underlying26 (by kernel_rfl) rfl (by (repeat (first | with_reducible assumption | with_reducible exact Arr.box (by assumption) | with_reducible apply Arr.drew | with_reducible apply Arr.drewN | with_reducible refine Arr.store4 ?_ | with_reducible apply Arr.alloc | with_reducible refine Box.drew ?_ | with_reducible refine Box.drewN ?_ _ | with_reducible refine Box.alloc ?_ _ | refine Arr.oth ?_ (by first | (simp; done) | omega | (simp; omega)) _ | refine Box.oth ?_ (by first | (simp; done) | omega | (simp; omega)) _)))) rfl ?_
    exact ⟨_, _, _, _, rfl, S2.out.up4 hl _ _ _ _, H2.up4 (Nat.le_refl _) _ _ _ _⟩
  · go_wp2_with fail
    refine (small_any k a len cap zs _ S1.out).mono ?_
    rintro e w2 ⟨p2, q2, r2, s2, rfl, S2', G2⟩
    have S2 := hid S2'
    have R2 := R1.gk G2 (by omega)
    have H2 := H1.trans G2
    clear S2' G2 R1 H1 S1
    obtain ⟨_, r0, r1, r2, r3, f0, f1, f2, f3⟩ := id R2
    go_wp2_with fail
    refine bodyPost_ret (res_A1 (e := 2) rfl Try.underlying26 (by kernel_rfl) rfl (by (repeat (first | with_reducible assumption | with_reducible exact Arr.box (by assumption) | with_reducible apply Arr.drew | with_reducible apply Arr.drewN | with_reducible refine Arr.store4 ?_ | with_reducible apply Arr.alloc | with_reducible refine Box.drew ?_ | with_reducible refine Box.drewN ?_ _ | with_reducible refine Box.alloc ?_ _ | refine Arr.oth ?_ (by first | (simp; done) | omega | (simp; omega)) _ | refine Box.oth ?_ (by first | (simp; done) | omega | (simp; omega)) _)))) rfl ?_
    exact ⟨_, _, _, _, rfl, S2.out.up4 hl _ _ _ _, H2.up4 (Nat.le_refl _) _ _ _ _⟩
  · go_wp2_with fail
    refine (small_any k a len cap zs _ S1.out).mono ?_
    rintro e w2 ⟨p2, q2, r2, s2, rfl, S2', G2⟩
    have S2 := hid S2'
    have R2 := R1.gk G2 (by omega)
    have H2 := H1.trans G2
    clear S2' G2 R1 H1 S1
    obtain ⟨_, r0, r1, r2, r3, f0, f1, f2, f3⟩ := id R2
    go_wp2_with fail
    refine bodyPost_ret (res_A1 (e := 2) rfl Try.underlying26 (by kernel_rfl) rfl (by (repeat (first | with_reducible assumption | with_reducible exact Arr.box (by assumption) | with_reducible apply Arr.drew | with_reducible apply Arr.drewN | with_reducible refine Arr.store4 ?_ | with_reducible apply Arr.alloc | with_reducible refine Box.drew ?_ | with_reducible refine Box.drewN ?_ _ | with_reducible refine Box.alloc ?_ _ | refine Arr.oth ?_ (by first | (simp; done) | omega | (simp; omega)) _ | refine Box.oth ?_ (by first | (simp; done) | omega | (simp; omega)) _)))) rfl ?_
    exact ⟨_, _, _, _, rfl, S2.out.up4 hl _ _ _ _, H2.up4 (Nat.le_refl _) _ _ _ _⟩
  · go_wp2_with fail
    refine (part_any k a len cap zs _ _ S1.out).mono ?_
    rintro e w2 ⟨x2, rfl, S2', G2⟩
    have S2 := hid S2'
    have R2 := R1.gk G2 (by omega)
    have H2 := H1.trans G2
    clear S2' G2 R1 H1 S1
    go_wp2_with fail
    refine (part_any k a len cap zs _ _ S2.out).mono ?_
    rintro e w3 ⟨x3, rfl, S3', G3⟩
    have S3 := hid S3'
    have R3 := R2.gk G3 (by omega)
    have H3 := H2.trans G3
    clear S3' G3 R2 H2 S2
    go_wp2_with fail
    refine (part_any k a len cap zs _ _ S3.out).mono ?_
    rintro e w4 ⟨x4, rfl, S4', G4⟩
    have S4 := hid S4'
    have R4 := R3.gk G4 (by omega)
    have H4 := H3.trans G4
    clear S4' G4 R3 H3 S3
    go_wp2_with fail
    refine (part_any k a len cap zs _ _ S4.out).mono ?_
    rintro e w5 ⟨x5, rfl, S5', G5⟩
    have S5 := hid S5'
    have R5 := R4.gk G5 (by omega)
    have H5 := H4.trans G5
    clear S5' G5 R4 H4 S4
    go_wp2_with fail
    refine (part_any k a len cap zs _ _ S5.out).mono ?_
    rintro e w6 ⟨x6, rfl, S6', G6⟩
    have S6 := hid S6'
    have R6 := R5.gk G6 (by omega)
    have H6 := H5.trans G6
    clear S6' G6 R5 H5 S5
    obtain ⟨_, r0, r1, r2, r3, f0, f1, f2, f3⟩ := id R6
    go_wp2_with fail
    refine bodyPost_ret (res_A1 (e := 2) rfl Try.underlying26 (by kernel_rfl) rfl (by (repeat (first | with_reducible assumption | with_reducible exact Arr.box (by assumption) | with_reducible apply Arr.drew | with_reducible apply Arr.drewN | with_reducible refine Arr.store4 ?_ | with_reducible apply Arr.alloc | with_reducible refine Box.drew ?_ | with_reducible refine Box.drewN ?_ _ | with_reducible refine Box.alloc ?_ _ | refine Arr.oth ?_ (by first | (simp; done) | omega | (simp; omega)) _ | refine Box.oth ?_ (by first | (simp; done) | omega | (simp; omega)) _)))) rfl ?_
    exact ⟨_, _, _, _, rfl, S6.out.up4 hl _ _ _ _, H6.up4 (Nat.le_refl _) _ _ _ _⟩
  · go_wp2_with fail
    refine (part_any k a len cap zs _ _ S1.out).mono ?_
    rintro e w2 ⟨x2, rfl, S2', G2⟩
    have S2 := hid S2'
    have R2 := R1.gk G2 (by omega)
    have H2 := H1.trans G2
    clear S2' G2 R1 H1 S1
    go_wp2_with fail
    refine (part_any k a len cap zs _ _ S2.out).mono ?_
    rintro e w3 ⟨x3, rfl, S3', G3⟩
    have S3 := hid S3'
    have R3 := R2.gk G3 (by omega)
    have H3 := H2.trans G3
    clear S3' G3 R2 H2 S2
    go_wp2_with fail
    refine (part_any k a len cap zs _ _ S3.out).mono ?_
    rintro e w4 ⟨x4, rfl, S4', G4⟩
    have S4 := hid S4'
    have R4 := R3.gk G4 (by omega)
    have H4 := H3.trans G4
    clear S4' G4 R3 H3 S3
    go_wp2_with fail
    refine (part_any k a len cap zs _ _ S4.out).mono ?_
    rintro e w5 ⟨x5, rfl, S5', G5⟩
    have S5 := hid S5'
    have R5 := R4.gk G5 (by omega)
    have H5 := H4.trans G5
    clear S5' G5 R4 H4 S4
    obtain ⟨_, r0, r1, r2, r3, f0, f1, f2, f3⟩ := id R5
    go_wp2_with fail
    refine bodyPost_ret (res_A1 (e := 2) rfl Try.underlying26 (by kernel_rfl) rfl (by (repeat (first | with_reducible assumption | with_reducible exact Arr.box (by assumption) | with_reducible apply Arr.drew | with_reducible apply Arr.drewN | with_reducible refine Arr.store4 ?_ | with_reducible apply Arr.alloc | with_reducible refine Box.drew ?_ | with_reducible refine Box.drewN ?_ _ | with_reducible refine Box.alloc ?_ _ | refine Arr.oth ?_ (by first | (simp; done) | omega | (simp; omega)) _ | refine Box.oth ?_ (by first | (simp; done) | omega | (simp; omega)) _)))) rfl ?_
    exact ⟨_, _, _, _, rfl, S5.out.up4 hl _ _ _ _, H5.up4 (Nat.le_refl _) _ _ _ _⟩
  · have n0' : (x1 == 0) = false := by simpa using n0
    have n1' : (x1 == 1) = false := by simpa using n1
    have n2' : (x1 == 2) = false := by simpa using n2
    have n3' : (x1 == 3) = false := by simpa using n3
    have n4' : (x1 == 4) = false := by simpa using n4
    clear n0 n1 n2 n3 n4
    have hwl := R1.lt
    have hL := lit_cells w1 2 [10, 100, 1000]
    have HL := hid hL
    clear hL
    have S2 := hid (S1.out.alloc (.cells #[.int .i64 10, .int .i64 100, .int .i64 1000] 2))
    have R2 := R1.alloc (.cells #[.int .i64 10, .int .i64 100, .int .i64 1000] 2)
    have H2 := H1.alloc (.cells #[.int .i64 10, .int .i64 100, .int .i64 1000] 2)
    clear S1 R1 H1
    go_wp2_with fail
    refine (pick_any k a len cap zs _ 3 _ S2.out (by omega) (by omega) (by simp) (by omega) HL.out).mono ?_
    rintro e w3 ⟨x3, rfl, S3', G3⟩
    have S3 := hid S3'
    have R3 := R2.gk G3 (by omega)
    have H3 := H2.trans G3
    clear S3' G3 R2 H2 S2
    clear HL
    go_wp2_with fail
    refine (drawOf_any k a len cap zs _ _ S3.out).mono ?_
    rintro e w4 ⟨p4, q4, r4, s4, rfl, S4', G4⟩
    have S4 := hid S4'
    have R4 := R3.gk G4 (by omega)
    have H4 := H3.trans G4
    clear S4' G4 R3 H3 S3
    obtain ⟨_, r0, r1, r2, r3, f0, f1, f2, f3⟩ := id R4
    go_wp2_with fail
    refine bodyPost_ret (res_A1 (e := 2) rfl Try.underlying26 (by kernel_rfl) rfl (by (repeat (first | with_reducible assumption | with_reducible exact Arr.box (by assumption) | with_reducible apply Arr.drew | with_reducible apply Arr.drewN | with_reducible refine Arr.store4 ?_ | with_reducible apply Arr.alloc | with_reducible refine Box.drew ?_ | with_reducible refine Box.drewN ?_ _ | with_reducible refine Box.alloc ?_ _ | refine Arr.oth ?_ (by first | (simp; done) | omega | (simp; omega)) _ | refine Box.oth ?_ (by first | (simp; done) | omega | (simp; omega)) _)))) rfl ?_
    exact ⟨_, _, _, _, rfl, S4.out.up4 hl _ _ _ _, H4.up4 (Nat.le_refl _) _ _ _ _⟩


end Go.Proofs.Ytikmjefbjejbkaa

/- Draws: forms and matrices. -/
namespace Go.Proofs.Ytikmjefbjejbkaa
open Go.ChangeShapes Go.WideShapes Go.ChangeAt Go.RowKit

set_option maxRecDepth 100000 in
set_option maxHeartbeats 4000000 in
theorem bad_any (k : Nat) (a : Option Addr) (len cap : Nat) (zs : List Int) (c0 c1 c2 c3 : Int) (w : World) (hS : Src w k a len cap zs) :
    Calls Try.prog 144 #[.pointer (some ⟨k, 0, none⟩), .agg #[.int .i64 c0, .int .i64 c1, .int .i64 c2, .int .i64 c3]] w (FrmPost k a len cap zs w) := by
  have hl := hS.lt
  have X0 := (Arr.new w c0 c1 c2 c3 26).alloc (.cells #[.int .i64 0, .int .i64 0, .int .i64 0, .int .i64 0] 26)
  have R0 := Arr.new (w.alloc (.cells #[.int .i64 c0, .int .i64 c1, .int .i64 c2, .int .i64 c3] 26)) 0 0 0 0 26
  simp only [World.size_alloc] at R0
  have S0 := hid ((hS.alloc (.cells #[.int .i64 c0, .int .i64 c1, .int .i64 c2, .int .i64 c3] 26)).alloc (.cells #[.int .i64 0, .int .i64 0, .int .i64 0, .int .i64 0] 26))
  have H0 := ((Gk.refl k w).alloc (.cells #[.int .i64 c0, .int .i64 c1, .int .i64 c2, .int .i64 c3] 26)).alloc (.cells #[.int .i64 0, .int .i64 0, .int .i64 0, .int .i64 0] 26)
  clear hS
  go_enter Try.func144, Try.ntmps144
  go_wp2_with fail
  refine (next_any k a len cap zs _ _ S0.out).mono ?_
  rintro e w1 ⟨x1, rfl, hx1, hy1, S1', G1⟩
  have S1 := hid S1'
  have X1 := X0.gk G1 (by omega)
  have R1 := R0.gk G1 (by omega)
  have H1 := H0.trans G1
  clear S1' G1 X0 R0 H0 S0
  clear hx1 hy1
  by_cases hx : x1 = 0
  · subst hx
    go_wp2_with fail
    refine (next_any k a len cap zs _ _ S1.out).mono ?_
    rintro e w2 ⟨x2, rfl, hx2, hy2, S2', G2⟩
    have S2 := hid S2'
    have X2 := X1.gk G2 (by omega)
    have R2 := R1.gk G2 (by omega)
    have H2 := H1.trans G2
    clear S2' G2 X1 R1 H1 S1
    have hwl := R2.lt
    have hL := lit_cells w2 2 [1001, -1001, 1099511627776, -4611686018427387904]
    have HL := hid hL
    clear hL
    have S3 := hid (S2.out.alloc (.cells #[.int .i64 1001, .int .i64 (-1001), .int .i64 1099511627776, .int .i64 (-4611686018427387904)] 2))
    have X3 := X2.alloc (.cells #[.int .i64 1001, .int .i64 (-1001), .int .i64 1099511627776, .int .i64 (-4611686018427387904)] 2)
    have R3 := R2.alloc (.cells #[.int .i64 1001, .int .i64 (-1001), .int .i64 1099511627776, .int .i64 (-4611686018427387904)] 2)
    have H3 := H2.alloc (.cells #[.int .i64 1001, .int .i64 (-1001), .int .i64 1099511627776, .int .i64 (-4611686018427387904)] 2)
    clear S2 X2 R2 H2
    go_wp2_with fail
    refine (pick_any k a len cap zs _ 4 _ S3.out (by omega) (by omega) (by simp) (by omega) HL.out).mono ?_
    rintro e w4 ⟨x4, rfl, S4', G4⟩
    have S4 := hid S4'
    have X4 := X3.gk G4 (by omega)
    have R4 := R3.gk G4 (by omega)
    have H4 := H3.trans G4
    clear S4' G4 X3 R3 H3 S3
    clear HL
    have hxs : x2 = 0 ∨ x2 = 1 ∨ x2 = 2 ∨ x2 = 3 := by omega
    clear hx2 hy2
    obtain ⟨_, y0, y1, y2, y3, g0, g1, g2, g3⟩ := id X4
    rcases hxs with rfl | rfl | rfl | rfl
    · have XE := hid (X4.set0 x4)
      have RE := R4.oth (p := ⟨w.heap.size, 0, none⟩) (by simp) (.int .i64 x4)
      have SE := S4.out.up (p := ⟨w.heap.size, 0, none⟩) hl (.int .i64 x4)
      have HE := H4.up (p := ⟨w.heap.size, 0, none⟩) (Nat.le_refl _) (.int .i64 x4)
      obtain ⟨_, r0, r1, r2, r3, f0, f1, f2, f3⟩ := id R4
      go_wp2_with fail
      refine bodyPost_ret (res_A1 (e := 2) rfl Try.underlying26 (by kernel_rfl) rfl (by (repeat (first | with_reducible assumption | with_reducible exact Arr.box (by assumption) | with_reducible apply Arr.drew | with_reducible apply Arr.drewN | with_reducible refine Arr.store4 ?_ | with_reducible apply Arr.alloc | with_reducible refine Box.drew ?_ | with_reducible refine Box.drewN ?_ _ | with_reducible refine Box.alloc ?_ _ | refine Arr.oth ?_ (by first | (simp; done) | omega | (simp; omega)) _ | refine Box.oth ?_ (by first | (simp; done) | omega | (simp; omega)) _)))) rfl ?_
      exact ⟨_, _, _, _, rfl, SE.up4 (by omega) _ _ _ _, HE.up4 (by omega) _ _ _ _⟩
    · have XE := hid (X4.set1 x4)
      have RE := R4.oth (p := ⟨w.heap.size, 1, none⟩) (by simp) (.int .i64 x4)
      have SE := S4.out.up (p := ⟨w.heap.size, 1, none⟩) hl (.int .i64 x4)
      have HE := H4.up (p := ⟨w.heap.size, 1, none⟩) (Nat.le_refl _) (.int .i64 x4)
      obtain ⟨_, r0, r1, r2, r3, f0, f1, f2, f3⟩ := id R4
      go_wp2_with fail
      refine bodyPost_ret (res_A1 (e := 2) rfl Try.underlying26 (by kernel_rfl) rfl (by (repeat (first | with_reducible assumption | with_reducible exact Arr.box (by assumption) | with_reducible apply Arr.drew | with_reducible apply Arr.drewN | with_reducible refine Arr.store4 ?_ | with_reducible apply Arr.alloc | with_reducible refine Box.drew ?_ | with_reducible refine Box.drewN ?_ _ | with_reducible refine Box.alloc ?_ _ | refine Arr.oth ?_ (by first | (simp; done) | omega | (simp; omega)) _ | refine Box.oth ?_ (by first | (simp; done) | omega | (simp; omega)) _)))) rfl ?_
      exact ⟨_, _, _, _, rfl, SE.up4 (by omega) _ _ _ _, HE.up4 (by omega) _ _ _ _⟩
    · have XE := hid (X4.set2 x4)
      have RE := R4.oth (p := ⟨w.heap.size, 2, none⟩) (by simp) (.int .i64 x4)
      have SE := S4.out.up (p := ⟨w.heap.size, 2, none⟩) hl (.int .i64 x4)
      have HE := H4.up (p := ⟨w.heap.size, 2, none⟩) (Nat.le_refl _) (.int .i64 x4)
      obtain ⟨_, r0, r1, r2, r3, f0, f1, f2, f3⟩ := id R4
      go_wp2_with fail
      refine bodyPost_ret (res_A1 (e := 2) rfl Try.underlying26 (by kernel_rfl) rfl (by (repeat (first | with_reducible assumption | with_reducible exact Arr.box (by assumption) | with_reducible apply Arr.drew | with_reducible apply Arr.drewN | with_reducible refine Arr.store4 ?_ | with_reducible apply Arr.alloc | with_reducible refine Box.drew ?_ | with_reducible refine Box.drewN ?_ _ | with_reducible refine Box.alloc ?_ _ | refine Arr.oth ?_ (by first | (simp; done) | omega | (simp; omega)) _ | refine Box.oth ?_ (by first | (simp; done) | omega | (simp; omega)) _)))) rfl ?_
      exact ⟨_, _, _, _, rfl, SE.up4 (by omega) _ _ _ _, HE.up4 (by omega) _ _ _ _⟩
    · have XE := hid (X4.set3 x4)
      have RE := R4.oth (p := ⟨w.heap.size, 3, none⟩) (by simp) (.int .i64 x4)
      have SE := S4.out.up (p := ⟨w.heap.size, 3, none⟩) hl (.int .i64 x4)
      have HE := H4.up (p := ⟨w.heap.size, 3, none⟩) (Nat.le_refl _) (.int .i64 x4)
      obtain ⟨_, r0, r1, r2, r3, f0, f1, f2, f3⟩ := id R4
      go_wp2_with fail
      refine bodyPost_ret (res_A1 (e := 2) rfl Try.underlying26 (by kernel_rfl) rfl (by (repeat (first | with_reducible assumption | with_reducible exact Arr.box (by assumption) | with_reducible apply Arr.drew | with_reducible apply Arr.drewN | with_reducible refine Arr.store4 ?_ | with_reducible apply Arr.alloc | with_reducible refine Box.drew ?_ | with_reducible refine Box.drewN ?_ _ | with_reducible refine Box.alloc ?_ _ | refine Arr.oth ?_ (by first | (simp; done) | omega | (simp; omega)) _ | refine Box.oth ?_ (by first | (simp; done) | omega | (simp; omega)) _)))) rfl ?_
      exact ⟨_, _, _, _, rfl, SE.up4 (by omega) _ _ _ _, HE.up4 (by omega) _ _ _ _⟩
  · have hx' : (x1 == 0) = false := by simpa using hx
    clear hx
    obtain ⟨_, y0, y1, y2, y3, _⟩ := id X1
    obtain ⟨_, r0, r1, r2, r3, f0, f1, f2, f3⟩ := id R1
    go_wp2_with fail
    refine bodyPost_ret (res_A1 (e := 2) rfl Try.underlying26 (by kernel_rfl) rfl (by (repeat (first | with_reducible assumption | with_reducible exact Arr.box (by assumption) | with_reducible apply Arr.drew | with_reducible apply Arr.drewN | with_reducible refine Arr.store4 ?_ | with_reducible apply Arr.alloc | with_reducible refine Box.drew ?_ | with_reducible refine Box.drewN ?_ _ | with_reducible refine Box.alloc ?_ _ | refine Arr.oth ?_ (by first | (simp; done) | omega | (simp; omega)) _ | refine Box.oth ?_ (by first | (simp; done) | omega | (simp; omega)) _)))) rfl ?_
    exact ⟨_, _, _, _, rfl, S1.out.up4 (by omega) _ _ _ _, H1.up4 (by omega) _ _ _ _⟩

set_option maxRecDepth 100000 in
set_option maxHeartbeats 4000000 in
theorem spoil_any (k : Nat) (a : Option Addr) (len cap : Nat) (zs : List Int) (w : World) (hS : Src w k a len cap zs) :
    Calls Try.prog 107 #[.pointer (some ⟨k, 0, none⟩)] w (FrmPost k a len cap zs w) := by
  have hl := hS.lt
  have R0 := Arr.new w 0 0 0 0 26
  have S0 := hid (hS.alloc (.cells #[.int .i64 0, .int .i64 0, .int .i64 0, .int .i64 0] 26))
  have H0 := (Gk.refl k w).alloc (.cells #[.int .i64 0, .int .i64 0, .int .i64 0, .int .i64 0] 26)
  clear hS
  go_enter Try.func107, Try.ntmps107
  go_wp2_with fail
  refine (draw_any k a len cap zs _ S0.out).mono ?_
  rintro e w1 ⟨p1, q1, r1, s1, rfl, S1', G1⟩
  have S1 := hid S1'
  have R1 := R0.gk G1 (by omega)
  have H1 := H0.trans G1
  clear S1' G1 R0 H0 S0
  go_wp2_with fail
  refine (bad_any k a len cap zs _ _ _ _ _ S1.out).mono ?_
  rintro e w2 ⟨p2, q2, r2, s2, rfl, S2', G2⟩
  have S2 := hid S2'
  have R2 := R1.gk G2 (by omega)
  have H2 := H1.trans G2
  clear S2' G2 R1 H1 S1
  obtain ⟨_, r0, r1, r2, r3, f0, f1, f2, f3⟩ := id R2
  go_wp2_with fail
  refine bodyPost_ret (res_A1 (e := 2) rfl Try.underlying26 (by kernel_rfl) rfl (by (repeat (first | with_reducible assumption | with_reducible exact Arr.box (by assumption) | with_reducible apply Arr.drew | with_reducible apply Arr.drewN | with_reducible refine Arr.store4 ?_ | with_reducible apply Arr.alloc | with_reducible refine Box.drew ?_ | with_reducible refine Box.drewN ?_ _ | with_reducible refine Box.alloc ?_ _ | refine Arr.oth ?_ (by first | (simp; done) | omega | (simp; omega)) _ | refine Box.oth ?_ (by first | (simp; done) | omega | (simp; omega)) _)))) rfl ?_
  exact ⟨_, _, _, _, rfl, S2.out.up4 hl _ _ _ _, H2.up4 (Nat.le_refl _) _ _ _ _⟩


end Go.Proofs.Ytikmjefbjejbkaa
