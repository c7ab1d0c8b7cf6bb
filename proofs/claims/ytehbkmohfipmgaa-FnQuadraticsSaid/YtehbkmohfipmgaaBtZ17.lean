/- Several texts in one: XDraw7, XDraw28. -/
import Derived.Test.YtehbkmohfipmgaaBtDraw6
import Derived.StillTailTactics
import Derived.Test.YtehbkmohfipmgaaBtZh
import Derived.Test.YtehbkmohfipmgaaBtTm
import Derived.Deep.DeepCutAuto

/- Draws: a source out of bytes; the draws of chapter 1. -/
namespace Go.Proofs.Ytehbkmohfipmgaa
open Go.ChangeShapes Go.WideShapes Go.ChangeAt Go.RowKit

theorem Src.new {w : World} {k : Nat} {a : Option Addr} {len cap : Nat} {zs : List Int} {h : Int} (hr : IsRow .u8 w a len cap zs) (hk : k = w.heap.size) :
    Src (w.alloc (.cells #[.slice a len cap, .int .i64 0, .int .u64 h] 81)) k a len cap zs := by
  subst hk
  have hb := (Below.refl w.heap.size w).alloc (Nat.le_refl _) (.cells #[.slice a len cap, .int .i64 0, .int .u64 h] 81)
  refine ⟨?_, fun x hx hz => ?_, by simp, by simp [go_sem], ⟨0, by omega, by omega, by simp [go_sem]⟩, ⟨h, by simp [go_sem]⟩, by simp [go_sem], by simp [go_sem], by simp [go_sem]⟩
  · rcases hr with h | ⟨x, h1, h2, h3, h4, h5, h6⟩
    · exact .inl h
    · exact .inr ⟨x, h1, h2, h3, h4, fun i hi => (hb.cell (p := x.add i) (World.block_lt_of_cell? w (x.add i) (h5 i hi))).trans (h5 i hi), h6⟩
  · rcases hr with ⟨h, _⟩ | ⟨y, h1, h2, h3, h4, h5, h6⟩
    · rw [h] at hx; cases hx
    · rw [h1] at hx; cases hx
      have hl : 0 < zs.length := List.length_pos_iff.2 hz
      have := World.block_lt_of_cell? w (x.add 0) (h5 0 hl)
      have hb : (x.add 0).block = x.block := by unfold Addr.add; split <;> rfl
      omega

/-- A source that is new. -/
def FromPost (a : Option Addr) (len cap : Nat) (zs : List Int) (w : World) (e : Ending) (w' : World) : Prop :=
  e = .returned (.pointer (some ⟨w.heap.size, 0, none⟩)) ∧ Src w' w.heap.size a len cap zs ∧ Below w.heap.size w w'

set_option maxRecDepth 100000 in
set_option maxHeartbeats 2000000 in
theorem from_any (a : Option Addr) (len cap : Nat) (zs : List Int) (w : World) (hR : IsRow .u8 w a len cap zs) (hlen : len ≤ 9223372036854775807) :
    Calls Try.prog 34 #[.slice a len cap] w (FromPost a len cap zs w) := by
  have HR := hid hR
  clear hR
  go_enter Try.func34, Try.ntmps34
  go_wp2_with fail
  go_loopw [4] (fun s4 wr => ∃ j : Nat, s4 = .int .i64 j ∧ j ≤ 4096 ∧ Src wr w.heap.size a len cap zs ∧ Below w.heap.size w wr) (fun s4 _ => 4096 - (intOf s4).toNat)
  case atStart => exact ⟨0, rfl, by omega, Src.new HR.out rfl, by (repeat' (first | with_reducible exact Below.refl _ _ | with_reducible assumption | with_reducible refine gr_alloc ?_ _ | with_reducible refine gr_drew ?_ | with_reducible refine gr_drewN ?_ _ | with_reducible refine gr_trans ?_ (by assumption) | with_reducible refine gr_set ?_ ?_ _ | (simp; done) | omega | (simp; omega)))⟩
  case round =>
    obtain ⟨j, rfl, hj, S0, B0⟩ := hrel
    have hl := S0.lt
    by_cases h1 : j < len
    · by_cases h2 : j < 4096
      · rcases S0.row with ⟨_, hl0, _⟩ | ⟨x, rfl, hlc, hcm, hz, hcell, hwz⟩
        · omega
        · have hcj := hcell j (by omega)
          have hbz := byte_bd (zs.getD j 0) (getD_wf hwz j (by omega))
          generalize zs.getD j 0 = z at hcj hbz
          obtain ⟨hz0, hz1⟩ := hbz
          obtain ⟨h, hh⟩ := S0.hash
          have f2 := S0.f2
          have HS := hid S0
          clear hcell hwz hz S0
          unfold maxLen at hcm
          go_upto_region 5 with fail
          go_still_tail 15, (by kernel_rfl)
          go_wp2
          go_roundw
          case rel => exact ⟨j + 1, by go_num, by omega, (HS.out.set2 _).below ((Below.refl _ _).drew), by (repeat' (first | with_reducible exact Below.refl _ _ | with_reducible assumption | with_reducible refine gr_alloc ?_ _ | with_reducible refine gr_drew ?_ | with_reducible refine gr_drewN ?_ _ | with_reducible refine gr_trans ?_ (by assumption) | with_reducible refine gr_set ?_ ?_ _ | (simp; done) | omega | (simp; omega)))⟩
          case measure => simp [intOf]; omega
      · have h2' : decide ((j : Int) < 4096) = false := decide_eq_false (by omega)
        have HS := hid S0
        clear S0
        go_wp2
        go_ret
        exact ⟨rfl, HS.out, B0⟩
    · have HS := hid S0
      clear S0
      go_wp2
      go_ret
      exact ⟨rfl, HS.out, B0⟩

end Go.Proofs.Ytehbkmohfipmgaa

/- Draws of chapter 10: discriminants, forms of a discriminant. -/
namespace Go.Proofs.Ytehbkmohfipmgaa
open Go.ChangeShapes Go.WideShapes Go.ChangeAt Go.RowKit

theorem lit_ex (w : World) (T : TypeId) (xs : List Int) (cs : Array Value) (n : Nat) (hc : cs = (xs.map (Value.int .i64)).toArray) (hn : n = xs.length) : ∀ i, i < n → ∃ x : Int, (w.alloc (.cells cs T)).cell? ⟨w.heap.size, i, none⟩ = some (.int .i64 x) := fun i hi => by
  subst hn; subst hc
  refine ⟨xs.getD i 0, ?_⟩
  simp [go_sem, List.getD, hi]

set_option maxHeartbeats 1000000 in
theorem near_any (k : Nat) (a : Option Addr) (len cap : Nat) (zs : List Int) (n : Int) (w : World) (hS : Src w k a len cap zs) :
    Calls Try.prog 69 #[.pointer (some ⟨k, 0, none⟩), .int .i64 n] w (NumPost k a len cap zs w) := by
  have hl := hS.lt
  go_enter Try.func69, Try.ntmps69
  go_wp2_with fail
  refine (next_any k a len cap zs _ _ hS).mono ?_
  rintro e w1 ⟨x, rfl, _, _, S1', G1⟩
  have S1 := hid S1'
  have hl1 := S1'.lt
  clear hS S1'
  by_cases hx : x = 0
  · have hb : (x == 0) = true := by simpa using hx
    have HL := hid (lit_ex w1 2 [-1, wrap64 (n + 1), 1099511627776, -4611686018427387904] #[.int .i64 (-1), .int .i64 (wrap64 (n + 1)), .int .i64 1099511627776, .int .i64 (-4611686018427387904)] 4 rfl rfl)
    have S2 := hid (S1.out.alloc (.cells #[.int .i64 (-1), .int .i64 (wrap64 (n + 1)), .int .i64 1099511627776, .int .i64 (-4611686018427387904)] 2))
    have G2 := G1.alloc (.cells #[.int .i64 (-1), .int .i64 (wrap64 (n + 1)), .int .i64 1099511627776, .int .i64 (-4611686018427387904)] 2)
    subst hx
    go_wp2_with fail
    refine (pick_any k a len cap zs _ 4 _ S2.out (by omega) (by omega) (by simp) (by omega) HL.out).mono ?_
    rintro e w3 ⟨x3, rfl, S3', G3⟩
    have S3 := hid S3'
    have G3' := G2.trans G3
    clear S3' G3 G2 S2 HL
    go_wp2
    go_ret
    exact ⟨_, rfl, S3.out, G3'⟩
  · have hb : (x == 0) = false := by simpa using hx
    clear hx
    go_wp2_with fail
    refine (next_any k a len cap zs _ _ S1.out).mono ?_
    rintro e w3 ⟨x3, rfl, _, _, S3', G3⟩
    have S3 := hid S3'
    have G3' := G1.trans G3
    clear S3' G3 S1
    go_wp2
    go_ret
    exact ⟨_, rfl, S3.out, G3'⟩

theorem Arr3.gk {k j : Nat} {u v : World} {a b c : Int} (hA : Arr3 u j a b c) (h : Gk k u v) (hk : j ≠ k) : Arr3 v j a b c :=
  ⟨Nat.lt_of_lt_of_le hA.lt h.size, (h.cell (p := ⟨j, 0, none⟩) hA.lt hk).trans hA.c0, (h.cell (p := ⟨j, 1, none⟩) hA.lt hk).trans hA.c1, (h.cell (p := ⟨j, 2, none⟩) hA.lt hk).trans hA.c2,
    (h.frozen (p := ⟨j, 0, none⟩) hA.lt hk).trans hA.f0, (h.frozen (p := ⟨j, 1, none⟩) hA.lt hk).trans hA.f1, (h.frozen (p := ⟨j, 2, none⟩) hA.lt hk).trans hA.f2⟩
theorem Src.up3 {w : World} {k : Nat} {a : Option Addr} {len cap : Nat} {zs : List Int} (h : Src w k a len cap zs) {j : Nat} (hj : k < j) (x y z : Value) : Src (((w.setCell ⟨j, 0, none⟩ x).setCell ⟨j, 1, none⟩ y).setCell ⟨j, 2, none⟩ z) k a len cap zs :=
  ((h.up (p := ⟨j, 0, none⟩) hj x).up (p := ⟨j, 1, none⟩) hj y).up (p := ⟨j, 2, none⟩) hj z
theorem Gk.up3 {k : Nat} {u v : World} (h : Gk k u v) {j : Nat} (hj : u.heap.size ≤ j) (x y z : Value) : Gk k u (((v.setCell ⟨j, 0, none⟩ x).setCell ⟨j, 1, none⟩ y).setCell ⟨j, 2, none⟩ z) :=
  ((h.up (p := ⟨j, 0, none⟩) hj x).up (p := ⟨j, 1, none⟩) hj y).up (p := ⟨j, 2, none⟩) hj z
/-- A quadratic form, whatever it is. -/
def QudPost (k : Nat) (a : Option Addr) (len cap : Nat) (zs : List Int) (w : World) (e : Ending) (w' : World) : Prop :=
  ∃ p q r : Int, e = .returned (.agg #[.int .i64 p, .int .i64 q, .int .i64 r]) ∧ Src w' k a len cap zs ∧ Gk k w w'

set_option maxHeartbeats 2000000 in
theorem disc_any (k : Nat) (a : Option Addr) (len cap : Nat) (zs : List Int) (w : World) (hS : Src w k a len cap zs) :
    Calls Try.prog 35 #[.pointer (some ⟨k, 0, none⟩)] w (NumPost k a len cap zs w) := by
  have hl := hS.lt
  have S0 := hid hS
  have H0 := Gk.refl k w
  clear hS
  go_enter Try.func35, Try.ntmps35
  go_wp2_with fail
  refine (next_any k a len cap zs _ _ S0.out).mono ?_
  rintro e w1 ⟨x1, rfl, hx1, hy1, S1', G1⟩
  have S1 := hid S1'
  have H1 := H0.trans G1
  have hs1 := S1'.lt
  clear S1' G1 H0 S0
  clear hx1 hy1
  by_cases hx : x1 = 0
  · subst hx
    go_wp2_with fail
    refine (near_any k a len cap zs _ _ S1.out).mono ?_
    rintro e w2 ⟨x2, rfl, S2', G2⟩
    have S2 := hid S2'
    have H2 := H1.trans G2
    have hs2 := S2'.lt
    clear S2' G2 H1 S1
    have HL := hid (lit_ex w2 2 [0, -2, -2003, -1, 5, x2] #[.int .i64 0, .int .i64 (-2), .int .i64 (-2003), .int .i64 (-1), .int .i64 5, .int .i64 x2] 6 rfl rfl)
    have S3 := hid (S2.out.alloc (.cells #[.int .i64 0, .int .i64 (-2), .int .i64 (-2003), .int .i64 (-1), .int .i64 5, .int .i64 x2] 2))
    have H3 := H2.alloc (.cells #[.int .i64 0, .int .i64 (-2), .int .i64 (-2003), .int .i64 (-1), .int .i64 5, .int .i64 x2] 2)
    clear H2 S2
    go_wp2_with fail
    refine (pick_any k a len cap zs _ 6 _ S3.out (by omega) (by omega) (by simp) (by omega) HL.out).mono ?_
    rintro e w4 ⟨x4, rfl, S4', G4⟩
    have S4 := hid S4'
    have H4 := H3.trans G4
    clear S4' G4 H3 S3 HL
    go_wp2
    go_ret
    exact ⟨_, rfl, S4.out, H4⟩
  · have hx' : (x1 == 0) = false := by simpa using hx
    clear hx
    go_wp2_with fail
    refine (next_any k a len cap zs _ _ S1.out).mono ?_
    rintro e w2 ⟨x2, rfl, _, _, S2', G2⟩
    have S2 := hid S2'
    have H2 := H1.trans G2
    have hs2 := S2'.lt
    clear S2' G2 H1 S1
    go_wp2_with fail
    refine (next_any k a len cap zs _ _ S2.out).mono ?_
    rintro e w3 ⟨x3, rfl, _, _, S3', G3⟩
    have S3 := hid S3'
    have H3 := H2.trans G3
    have hs3 := S3'.lt
    clear S3' G3 H2 S2
    have HL := hid (lit_ex w3 2 [-23, -31, -44, -59, -83, -108, -87, -199, -3 - 4 * x2, -4 - 4 * x3] #[.int .i64 (-23), .int .i64 (-31), .int .i64 (-44), .int .i64 (-59), .int .i64 (-83), .int .i64 (-108), .int .i64 (-87), .int .i64 (-199), .int .i64 (-3 - 4 * x2), .int .i64 (-4 - 4 * x3)] 10 rfl rfl)
    have S4 := hid (S3.out.alloc (.cells #[.int .i64 (-23), .int .i64 (-31), .int .i64 (-44), .int .i64 (-59), .int .i64 (-83), .int .i64 (-108), .int .i64 (-87), .int .i64 (-199), .int .i64 (-3 - 4 * x2), .int .i64 (-4 - 4 * x3)] 2))
    have H4 := H3.alloc (.cells #[.int .i64 (-23), .int .i64 (-31), .int .i64 (-44), .int .i64 (-59), .int .i64 (-83), .int .i64 (-108), .int .i64 (-87), .int .i64 (-199), .int .i64 (-3 - 4 * x2), .int .i64 (-4 - 4 * x3)] 2)
    clear H3 S3
    go_wp2_with fail
    refine (pick_any k a len cap zs _ 10 _ S4.out (by omega) (by omega) (by simp) (by omega) HL.out).mono ?_
    rintro e w5 ⟨x5, rfl, S5', G5⟩
    have S5 := hid S5'
    have H5 := H4.trans G5
    clear S5' G5 H4 S4 HL
    go_wp2
    go_ret
    exact ⟨_, rfl, S5.out, H5⟩

theorem At3.gk {k b o : Nat} {u v : World} {x y z : Int} (hA : At3 u b o x y z) (h : Gk k u v) (hk : b ≠ k) : At3 v b o x y z :=
  ⟨Nat.lt_of_lt_of_le hA.lt h.size, (h.cell (p := ⟨b, o, none⟩) hA.lt hk).trans hA.c0, (h.cell (p := ⟨b, o + 1, none⟩) hA.lt hk).trans hA.c1, (h.cell (p := ⟨b, o + 2, none⟩) hA.lt hk).trans hA.c2⟩
theorem Arr3.set3d {w : World} {k : Nat} {a b c x y z : Int} (h : Arr3 w k a b c) : Arr3 (((w.setCell ⟨k, 0, none⟩ (.int .i64 x)).setCell ⟨k, 1, none⟩ (.int .i64 y)).setCell ⟨k, 2, none⟩ (.int .i64 z)) k x y z := ((h.set0 x).set1 y).set2 z
theorem cls_some {d : Int} (hd : dcl d = true) : 1 ≤ (cls d).length := by
  obtain ⟨⟨_, d2⟩, d3⟩ := dcl_t hd
  obtain ⟨r, hr⟩ := cls_head (d := d) (by omega) d3
  rw [hr]
  simp

set_option maxRecDepth 100000 in
set_option maxHeartbeats 4000000 in
theorem drawIn_any (k : Nat) (a : Option Addr) (len cap : Nat) (zs : List Int) (d : Int) (w : World) (hS : Src w k a len cap zs) :
    Calls Try.prog 38 #[.pointer (some ⟨k, 0, none⟩), .int .i64 d] w (QudPost k a len cap zs w) := by
  have hl := hS.lt
  have R0 := Arr3.new w 0 0 0 25
  have S0 := hid (hS.alloc (.cells #[.int .i64 0, .int .i64 0, .int .i64 0] 25))
  have H0 := (Gk.refl k w).alloc (.cells #[.int .i64 0, .int .i64 0, .int .i64 0] 25)
  clear hS
  have hC := fun W => l10Discriminant_any d W
  cases hd : dcl d with
  | false =>
    rw [hd] at hC
    have HC := hid hC
    clear hC
    go_enter Try.func38, Try.ntmps38
    go_wp2_with fail
    refine (HC.out _).mono ?_
    rintro e w0 ⟨rfl, rfl⟩
    go_wp2_with fail
    refine (part_any k a len cap zs _ _ S0.out).mono ?_
    rintro e w1 ⟨x1, rfl, S1', G1⟩
    have S1 := hid S1'
    have R1 := R0.gk G1 (by omega)
    have H1 := H0.trans G1
    have hs1 := S1'.lt
    have hR1 := R1.lt
    clear S1' G1 R0 H0 S0
    go_wp2_with fail
    refine (part_any k a len cap zs _ _ S1.out).mono ?_
    rintro e w2 ⟨x2, rfl, S2', G2⟩
    have S2 := hid S2'
    have R2 := R1.gk G2 (by omega)
    have H2 := H1.trans G2
    have hs2 := S2'.lt
    have hR2 := R2.lt
    clear S2' G2 R1 H1 S1
    go_wp2_with fail
    refine (part_any k a len cap zs _ _ S2.out).mono ?_
    rintro e w3 ⟨x3, rfl, S3', G3⟩
    have S3 := hid S3'
    have R3 := R2.gk G3 (by omega)
    have H3 := H2.trans G3
    have hs3 := S3'.lt
    have hR3 := R3.lt
    clear S3' G3 R2 H2 S2
    obtain ⟨_, r0, r1, r2, f0, f1, f2⟩ := id R3
    go_wp2_with fail
    refine bodyPost_ret (res_A31 (e := 2) rfl Try.underlying25 (by kernel_rfl) rfl (by (repeat (first | with_reducible assumption | with_reducible exact Arr.box (by assumption) | with_reducible exact Box.new _ _ _ _ _ _ | with_reducible exact Arr.new _ _ _ _ _ _ | with_reducible refine Arr.drew ?_ | with_reducible refine Arr.drewN ?_ _ | with_reducible refine Arr.store4 ?_ | with_reducible refine Arr.alloc ?_ _ | with_reducible refine Box.drew ?_ | with_reducible refine Box.drewN ?_ _ | with_reducible refine Box.alloc ?_ _ | with_reducible refine Arr.next ?_ (by assumption) | with_reducible refine Box.next ?_ (by assumption) | refine Arr.oth ?_ (by first | (simp; done) | omega | (simp; omega)) _ | refine Box.oth ?_ (by first | (simp; done) | omega | (simp; omega)) _ | with_reducible exact Arr3.box (by assumption) | with_reducible exact Box3.new _ _ _ _ _ | with_reducible exact Arr3.new _ _ _ _ _ | with_reducible refine Arr3.drew ?_ | with_reducible refine Arr3.drewN ?_ _ | with_reducible refine Arr3.store3 ?_ | with_reducible refine Arr3.alloc ?_ _ | with_reducible refine Box3.drew ?_ | with_reducible refine Box3.drewN ?_ _ | with_reducible refine Box3.alloc ?_ _ | with_reducible refine Arr3.next ?_ (by assumption) | with_reducible refine Box3.next ?_ (by assumption) | refine Arr3.oth ?_ (by first | (simp; done) | omega | (simp; omega)) _ | refine Box3.oth ?_ (by first | (simp; done) | omega | (simp; omega)) _)))) rfl ?_
    exact ⟨_, _, _, rfl, S3.out.up3 hl _ _ _, H3.up3 (Nat.le_refl _) _ _ _⟩
  | true =>
    have hS2 := fun W => sClasses_any d W hd
    have hl1 := cls_some hd
    have hl9 : (cls d).length ≤ 1000 := by
      have := cls_le d
      rw [hd] at this
      simpa using this
    rw [hd] at hC
    have hat := fun i c h => at_flat (cls d) i c h
    generalize cls d = L at hS2 hl1 hl9 hat
    have HC := hid hC; have HS2 := hid hS2; have HAT := hid hat
    clear hC hS2 hat
    go_enter Try.func38, Try.ntmps38
    go_wp2_with fail
    refine (HC.out _).mono ?_
    rintro e w0 ⟨rfl, rfl⟩
    go_wp2_with fail
    refine (HS2.out _).mono ?_
    rintro e w1 ⟨v, rfl, hV, hb1⟩
    have S1 := hid (S0.out.below hb1)
    have R1 := R0.next hb1
    have H1 := H0.below hb1
    have hk0 := S0.out.lt
    clear HC HS2 S0 R0 H0 hb1
    rcases hV.out with ⟨_, h0⟩ | ⟨b, cap', rfl, hB, hc1, hc2, hCl⟩
    · exfalso; omega
    clear hV
    have hs1 := S1.out.lt
    unfold maxLen at hc2
    go_wp2_with fail
    refine (next_any k a len cap zs _ _ S1.out).mono ?_
    rintro e w2 ⟨x2, rfl, hx0, hx1, S2', G2⟩
    have S2 := hid S2'
    have R2 := R1.gk G2 (by omega)
    have H2 := H1.trans G2
    have hs2 := S2'.lt
    have hR2 := R2.lt
    have HG2 := hid G2
    clear S2' G2 R1 H1 S1
    obtain ⟨i, rfl⟩ : ∃ i : Nat, x2 = i := ⟨x2.toNat, by omega⟩
    have hlt : i < L.length := by omega
    have hA1 : At3 w1 b (i * 3) ((L.flatMap qi3).getD (i * 3) 0) ((L.flatMap qi3).getD (i * 3 + 1) 0) ((L.flatMap qi3).getD (i * 3 + 2) 0) := ⟨hCl.1, (hCl.2 _ (by omega)).1, (hCl.2 _ (by omega)).1, (hCl.2 _ (by omega)).1⟩
    generalize (L.flatMap qi3).getD (i * 3) 0 = z0 at hA1
    generalize (L.flatMap qi3).getD (i * 3 + 1) 0 = z1 at hA1
    generalize (L.flatMap qi3).getD (i * 3 + 2) 0 = z2 at hA1
    have hA2 := hA1.gk HG2.out (by omega)
    obtain ⟨_, m0, m1, m2⟩ := id hA2
    clear hA1 hCl HG2 hx0 hx1 HAT
    have X3 := Arr3.new w2 z0 z1 z2 25
    have S3 := hid (S2.out.alloc (.cells #[.int .i64 z0, .int .i64 z1, .int .i64 z2] 25))
    have R3 := R2.alloc (.cells #[.int .i64 z0, .int .i64 z1, .int .i64 z2] 25)
    have H3 := H2.alloc (.cells #[.int .i64 z0, .int .i64 z1, .int .i64 z2] 25)
    obtain ⟨j, hj⟩ : ∃ j, j = w2.heap.size := ⟨_, rfl⟩
    rw [← hj] at X3 hs2 hR2
    clear S2 R2 H2 hA2
    have HJ := hid hj
    clear hj
    go_wp2_with fail
    rw [← HJ.out]
    refine (next_any k a len cap zs _ _ S3.out).mono ?_
    rintro e w4 ⟨y, rfl, hy0, hy1, S4', G4⟩
    have S4 := hid S4'
    have X4 := X3.gk G4 (by omega)
    have R4 := R3.gk G4 (by omega)
    have H4 := H3.trans G4
    clear S4' G4 X3 R3 H3 S3 HJ
    have HX4 := hid X4; have HR4 := hid R4; have HH4 := hid H4
    clear X4 R4 H4 m0 m1 m2
    go_wp2_with fail
    go_loopw [7] (fun s wr => ∃ y p q r : Int, s = .int .i64 y ∧ 0 ≤ y ∧ y ≤ 2 ∧ Arr3 wr j p q r ∧ Arr3 wr w.heap.size 0 0 0 ∧ Hid (Src wr k a len cap zs) ∧ Gk k w wr) (fun s _ => (intOf s).toNat)
    case atStart => exact ⟨y, z0, z1, z2, rfl, hy0, by omega, HX4.out, HR4.out, S4, HH4.out⟩
    case round =>
      obtain ⟨y', p, q, r, rfl, hy2, hy3, X5, R5, S5, H5⟩ := hrel
      clear HX4 HR4 HH4 S4 hy0 hy1
      by_cases hy : 0 < y'
      · have hyb : decide (0 < y') = true := by simpa using hy
        have hyw : wrap64 (y' - 1) = y' - 1 := wr_in (by omega)
        obtain ⟨_, a0, a1, a2, _⟩ := id X5
        clear a0 a1 a2
        go_wp2_with fail
        refine (part_any k a len cap zs _ _ S5.out).mono ?_
        rintro e w6 ⟨n, rfl, S6', G6⟩
        have S6 := hid S6'
        have X6 := X5.gk G6 (by omega)
        have R6 := R5.gk G6 (by omega)
        have H6 := H5.trans G6
        have hs6 := S6'.lt
        have hX6 := X6.lt
        have hR6 := R6.lt
        clear S6' G6 X5 R5 H5 S5
        obtain ⟨_, a0, a1, a2, g0, g1, g2⟩ := id X6
        go_wp2_with fail
        refine (next_any k a len cap zs _ _ (S6.out.up3 (j := j) (by omega) _ _ _)).mono ?_
        rintro e w7 ⟨x7, rfl, _, _, S7', G7⟩
        have S7 := hid S7'
        have X7 := (X6.set3d).gk G7 (by omega)
        have R7 := (R6.oth3 (i := j) (by omega)).gk G7 (by omega)
        have H7 := (H6.up3 (j := j) (by omega) _ _ _).trans G7
        clear S7' G7 X6 R6 H6 S6 a0 a1 a2 g0 g1 g2
        revert X7
        generalize wrap64 (q + wrap64 (wrap64 (2 * n) * p)) = q'
        generalize wrap64 (wrap64 (wrap64 (wrap64 (p * n) * n) + wrap64 (q * n)) + r) = r'
        intro X7
        obtain ⟨_, a0, a1, a2, g0, g1, g2⟩ := id X7
        by_cases h7 : x7 = 0
        · subst h7
          have HX := hid X7; have HR := hid R7; have HH := hid H7
          clear X7 R7 H7
          go_wp2_with fail
          go_roundw
          case rel => exact ⟨y' - 1, _, _, _, rfl, by omega, by omega, HX.out.set3d, HR.out.oth3 (i := j) (by omega), hid (S7.out.up3 (j := j) (by omega) _ _ _), HH.out.up3 (j := j) (by omega) _ _ _⟩
          case measure => simp [intOf]; omega
        · have h7' : (x7 == 0) = false := by simpa using h7
          have HX := hid X7; have HR := hid R7; have HH := hid H7
          clear X7 R7 H7 h7
          go_wp2_with fail
          go_roundw
          case rel => exact ⟨y' - 1, _, _, _, rfl, by omega, by omega, HX.out, HR.out, S7, HH.out⟩
          case measure => simp [intOf]; omega
      · have hyb : decide (0 < y') = false := by simpa using hy
        obtain ⟨_, a0, a1, a2, _⟩ := id X5
        obtain ⟨_, r0, r1, r2, f0, f1, f2⟩ := id R5
        go_wp2_with fail
        refine bodyPost_ret (res_A31 (e := 2) rfl Try.underlying25 (by kernel_rfl) rfl (by (repeat (first | with_reducible assumption | with_reducible exact Arr.box (by assumption) | with_reducible exact Box.new _ _ _ _ _ _ | with_reducible exact Arr.new _ _ _ _ _ _ | with_reducible refine Arr.drew ?_ | with_reducible refine Arr.drewN ?_ _ | with_reducible refine Arr.store4 ?_ | with_reducible refine Arr.alloc ?_ _ | with_reducible refine Box.drew ?_ | with_reducible refine Box.drewN ?_ _ | with_reducible refine Box.alloc ?_ _ | with_reducible refine Arr.next ?_ (by assumption) | with_reducible refine Box.next ?_ (by assumption) | refine Arr.oth ?_ (by first | (simp; done) | omega | (simp; omega)) _ | refine Box.oth ?_ (by first | (simp; done) | omega | (simp; omega)) _ | with_reducible exact Arr3.box (by assumption) | with_reducible exact Box3.new _ _ _ _ _ | with_reducible exact Arr3.new _ _ _ _ _ | with_reducible refine Arr3.drew ?_ | with_reducible refine Arr3.drewN ?_ _ | with_reducible refine Arr3.store3 ?_ | with_reducible refine Arr3.alloc ?_ _ | with_reducible refine Box3.drew ?_ | with_reducible refine Box3.drewN ?_ _ | with_reducible refine Box3.alloc ?_ _ | with_reducible refine Arr3.next ?_ (by assumption) | with_reducible refine Box3.next ?_ (by assumption) | refine Arr3.oth ?_ (by first | (simp; done) | omega | (simp; omega)) _ | refine Box3.oth ?_ (by first | (simp; done) | omega | (simp; omega)) _)))) rfl ?_
        exact ⟨_, _, _, rfl, S5.out.up3 hl _ _ _, H5.up3 (Nat.le_refl _) _ _ _⟩

end Go.Proofs.Ytehbkmohfipmgaa
