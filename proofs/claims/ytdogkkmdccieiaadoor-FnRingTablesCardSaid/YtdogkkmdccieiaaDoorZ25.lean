/- Several texts in one: XRw10, XDraw, XDraw2, XC1e, XC1f. -/
import Derived.Test.YtdogkkmdccieiaaDoorZ18
import Derived.Test.YtdogkkmdccieiaaDoorZ19
import Derived.Deep.RegionHeld3
import Derived.Test.YtdogkkmdccieiaaDoorZ1
import Derived.Test.YtdogkkmdccieiaaDoorZ2
import Derived.Deep.DeepCutAuto
import Derived.Test.YtdogkkmdccieiaaDoorZ11

/- Lists of elements that are the same, as FnRingTables compares them. -/
namespace Go.Proofs.YtdogkkmdccieiaaDoor
open Go.RowKit

theorem eq3_self (a b c : Int) : eq3 a b c a b c = true := by simp [eq3]
set_option maxRecDepth 100000 in
set_option maxHeartbeats 2000000 in
theorem elems9_any (u v : Value) (n : Nat) (g : Nat → Int) (w : World) (hu : RdW w u n g) (hv : RdW w v n g) :
    Calls Tryd.prog 18 #[u, v] w fun e w' => e = .returned (.bool true) ∧ Below w.heap.size w w' := by
  rcases hu with ⟨rfl, rfl⟩ | ⟨b, cap, rfl, hc1, hm1, hb1, hcell1⟩
  · obtain ⟨a', cap', rfl⟩ : ∃ a' cap', v = .slice a' 0 cap' := by
      rcases hv with ⟨rfl, _⟩ | ⟨b', cap', rfl, _⟩ <;> exact ⟨_, _, rfl⟩
    go_enter Tryd.func18, Tryd.ntmps18
    go_wp2
    refine wp_loop_rounds 1 ?_
    rw [rounds_succ]; go_wp2
    go_ret
    exact ⟨rfl, Below.refl _ _⟩
  · unfold maxLen at hm1
    obtain ⟨a', cap', rfl⟩ : ∃ a' cap', v = .slice a' n cap' := by
      rcases hv with ⟨rfl, rfl⟩ | ⟨b', cap', rfl, _⟩ <;> exact ⟨_, _, rfl⟩
    have HV := hid hv
    have HC := hid hcell1
    have heq := eqElem_run
    clear hv hcell1
    go_enter Tryd.func18, Tryd.ntmps18
    go_wp2
    go_loopw [5] (fun i wr => ∃ k : Nat, k ≤ n ∧ i = .int .i64 k ∧ Below w.heap.size w wr) (fun i _ => n - (intOf i).toNat)
    case atStart => exact ⟨0, Nat.zero_le _, rfl, Below.refl _ _⟩
    case round =>
      obtain ⟨k, hk, rfl, hB⟩ := hrel
      by_cases hlt : k < n
      · rcases HV.out with ⟨h0, rfl⟩ | ⟨b', cap'', h0, hc2, hm2, hb2, hcell2⟩
        · omega
        · cases h0
          have c0 : wr.cell? ⟨b, k * 3, none⟩ = some (.int .i64 (g (k * 3))) := (hB.cell (p := ⟨b, k * 3, none⟩) hb1).trans (HC.out _ (by omega))
          have c1 : wr.cell? ⟨b, k * 3 + 1, none⟩ = some (.int .i64 (g (k * 3 + 1))) := (hB.cell (p := ⟨b, k * 3 + 1, none⟩) hb1).trans (HC.out _ (by omega))
          have c2 : wr.cell? ⟨b, k * 3 + 2, none⟩ = some (.int .i64 (g (k * 3 + 2))) := (hB.cell (p := ⟨b, k * 3 + 2, none⟩) hb1).trans (HC.out _ (by omega))
          have d0 : wr.cell? ⟨b', k * 3, none⟩ = some (.int .i64 (g (k * 3))) := (hB.cell (p := ⟨b', k * 3, none⟩) hb2).trans (hcell2 _ (by omega))
          have d1 : wr.cell? ⟨b', k * 3 + 1, none⟩ = some (.int .i64 (g (k * 3 + 1))) := (hB.cell (p := ⟨b', k * 3 + 1, none⟩) hb2).trans (hcell2 _ (by omega))
          have d2 : wr.cell? ⟨b', k * 3 + 2, none⟩ = some (.int .i64 (g (k * 3 + 2))) := (hB.cell (p := ⟨b', k * 3 + 2, none⟩) hb2).trans (hcell2 _ (by omega))
          have er := eq3_self (g (k * 3)) (g (k * 3 + 1)) (g (k * 3 + 2))
          generalize g (k * 3) = x0 at c0 d0 er
          generalize g (k * 3 + 1) = x1 at c1 d1 er
          generalize g (k * 3 + 2) = x2 at c2 d2 er
          unfold maxLen at hm2
          clear hcell2
          go_wp2
          go_quiet (fail)
          go_wp2
          go_roundw
          case rel => exact ⟨k + 1, by omega, by go_num, gr_drewN hB _⟩
          case measure => simp [intOf]; omega
      · go_wp2
        go_ret
        exact ⟨rfl, hB⟩

end Go.Proofs.YtdogkkmdccieiaaDoor

/- Draws: the source of numbers. -/
namespace Go.Proofs.YtdogkkmdccieiaaDoor
open Go.ChangeShapes Go.WideShapes Go.ChangeAt Go.RowKit

theorem below_drewN {n : Nat} {w w' : World} (h : Below n w w') (m : Nat) : Below n w (w'.drewN m) := ⟨h.os, h.tape, h.output, h.size, h.block⟩
theorem i64d {n : Int} (h : -1000000000000000000 ≤ n ∧ n ≤ 1000000000000000000) : IntKind.i64.wrap n = n := IntWalk.i64_in n (by omega)
/-- Block k alone may have turned. -/
structure Gk (k : Nat) (w w' : World) : Prop where
  os : w'.os = w.os
  tape : w'.tape = w.tape
  output : w'.output = w.output
  size : w.heap.size ≤ w'.heap.size
  block : ∀ b, b < w.heap.size → b ≠ k → w'.heap[b]? = w.heap[b]?
theorem Gk.refl (k : Nat) (w : World) : Gk k w w := ⟨rfl, rfl, rfl, Nat.le_refl _, fun _ _ _ => rfl⟩
theorem Gk.trans {k : Nat} {u v w : World} (h : Gk k u v) (h' : Gk k v w) : Gk k u w :=
  ⟨h'.os.trans h.os, h'.tape.trans h.tape, h'.output.trans h.output, Nat.le_trans h.size h'.size, fun b hb hk => (h'.block b (Nat.lt_of_lt_of_le hb h.size) hk).trans (h.block b hb hk)⟩
theorem Gk.below {k : Nat} {u v w : World} (h : Gk k u v) (hb : Below v.heap.size v w) : Gk k u w :=
  h.trans ⟨hb.os, hb.tape, hb.output, hb.size, fun b hl _ => hb.block b hl⟩
theorem Gk.set {k : Nat} {u v : World} (h : Gk k u v) {p : Addr} (hp : p.block = k) (x : Value) : Gk k u (v.setCell p x) := by
  refine ⟨h.os, h.tape, h.output, by rw [World.size_setCell]; exact h.size, fun b hb hk => ?_⟩
  rw [← h.block b hb hk]
  have := (Below.refl v.heap.size v)
  exact Below.heap_setCell _ _ _ b (by rw [hp]; exact hk)
theorem Gk.out {k : Nat} {u v w : World} (hb : Below u.heap.size u v) (h : Gk k v w) (hk : u.heap.size ≤ k) : Below u.heap.size u w :=
  ⟨h.os.trans hb.os, h.tape.trans hb.tape, h.output.trans hb.output, Nat.le_trans hb.size h.size, fun b hl => (h.block b (Nat.lt_of_lt_of_le hl hb.size) (by omega)).trans (hb.block b hl)⟩
theorem Gk.cell {k : Nat} {u v : World} (h : Gk k u v) {p : Addr} (hp : p.block < u.heap.size) (hk : p.block ≠ k) : v.cell? p = u.cell? p := World.cell?_of_block (h.block _ hp hk)
theorem Gk.frozen {k : Nat} {u v : World} (h : Gk k u v) {p : Addr} (hp : p.block < u.heap.size) (hk : p.block ≠ k) : v.frozen? p = u.frozen? p := World.frozen?_of_block (h.block _ hp hk)
theorem Arr.gk {k j : Nat} {u v : World} {a b c d : Int} (hA : Arr u j a b c d) (h : Gk k u v) (hk : j ≠ k) : Arr v j a b c d :=
  ⟨Nat.lt_of_lt_of_le hA.lt h.size, (h.cell (p := ⟨j, 0, none⟩) hA.lt hk).trans hA.c0, (h.cell (p := ⟨j, 1, none⟩) hA.lt hk).trans hA.c1, (h.cell (p := ⟨j, 2, none⟩) hA.lt hk).trans hA.c2, (h.cell (p := ⟨j, 3, none⟩) hA.lt hk).trans hA.c3,
    (h.frozen (p := ⟨j, 0, none⟩) hA.lt hk).trans hA.f0, (h.frozen (p := ⟨j, 1, none⟩) hA.lt hk).trans hA.f1, (h.frozen (p := ⟨j, 2, none⟩) hA.lt hk).trans hA.f2, (h.frozen (p := ⟨j, 3, none⟩) hA.lt hk).trans hA.f3⟩

/-- Block k is a source of numbers over bytes. -/
structure Src (w : World) (k : Nat) (a : Option Addr) (len cap : Nat) (zs : List Int) : Prop where
  row : IsRow .u8 w a len cap zs
  apart : ∀ x, a = some x → zs ≠ [] → x.block < k
  lt : k < w.heap.size
  code : w.cell? ⟨k, 0, none⟩ = some (.slice a len cap)
  mark : ∃ n : Int, 0 ≤ n ∧ n ≤ len ∧ w.cell? ⟨k, 1, none⟩ = some (.int .i64 n)
  hash : ∃ n : Int, w.cell? ⟨k, 2, none⟩ = some (.int .u64 n)
  f0 : w.frozen? ⟨k, 0, none⟩ = false
  f1 : w.frozen? ⟨k, 1, none⟩ = false
  f2 : w.frozen? ⟨k, 2, none⟩ = false
theorem row_gk {k : Nat} {w w' : World} {a : Option Addr} {len cap : Nat} {zs : List Int} (h : IsRow .u8 w a len cap zs) (ha : ∀ x, a = some x → zs ≠ [] → x.block < k) (hg : Gk k w w') : IsRow .u8 w' a len cap zs := by
  rcases h with h | ⟨x, h1, h2, h3, h4, h5, h6⟩
  · exact .inl h
  · refine .inr ⟨x, h1, h2, h3, h4, fun i hi => ?_, h6⟩
    have hb : (x.add i).block = x.block := by unfold Addr.add; split <;> rfl
    refine (hg.cell (World.block_lt_of_cell? w _ (h5 i hi)) ?_).trans (h5 i hi)
    have := ha x h1 (by rintro rfl; simp at hi)
    omega
theorem Src.below {w w' : World} {k : Nat} {a : Option Addr} {len cap : Nat} {zs : List Int} (h : Src w k a len cap zs) (hb : Below w.heap.size w w') : Src w' k a len cap zs := by
  have hg : ∀ o, w'.cell? ⟨k, o, none⟩ = w.cell? ⟨k, o, none⟩ := fun o => hb.cell (p := ⟨k, o, none⟩) h.lt
  have hf : ∀ o, w'.frozen? ⟨k, o, none⟩ = w.frozen? ⟨k, o, none⟩ := fun o => hb.frozen (p := ⟨k, o, none⟩) h.lt
  exact ⟨row_gk h.row h.apart ((Gk.refl k w).below hb), h.apart, Nat.lt_of_lt_of_le h.lt hb.size, (hg 0).trans h.code,
    by obtain ⟨n, h0, h1, h2⟩ := h.mark; exact ⟨n, h0, h1, (hg 1).trans h2⟩, by obtain ⟨n, h0⟩ := h.hash; exact ⟨n, (hg 2).trans h0⟩, (hf 0).trans h.f0, (hf 1).trans h.f1, (hf 2).trans h.f2⟩
theorem Src.set1 {w : World} {k : Nat} {a : Option Addr} {len cap : Nat} {zs : List Int} (h : Src w k a len cap zs) (n : Int) (h0 : 0 ≤ n) (h1 : n ≤ len) : Src (w.setCell ⟨k, 1, none⟩ (.int .i64 n)) k a len cap zs := by
  have hg : Gk k w (w.setCell ⟨k, 1, none⟩ (.int .i64 n)) := (Gk.refl k w).set rfl _
  obtain ⟨m, _, _, hm⟩ := h.mark
  obtain ⟨q, hq⟩ := h.hash
  exact ⟨row_gk h.row h.apart hg, h.apart, Nat.lt_of_lt_of_le h.lt hg.size, (World.cell?_setCell_other _ _ _ _ (ne_off (by decide))).trans h.code,
    ⟨n, h0, h1, World.cell?_setCell_same' _ _ _ (by rw [hm]; rfl)⟩, ⟨q, (World.cell?_setCell_other _ _ _ _ (ne_off (by decide))).trans hq⟩, (World.frozen?_setCell _ _ _ _).trans h.f0, (World.frozen?_setCell _ _ _ _).trans h.f1, (World.frozen?_setCell _ _ _ _).trans h.f2⟩
theorem Src.set2 {w : World} {k : Nat} {a : Option Addr} {len cap : Nat} {zs : List Int} (h : Src w k a len cap zs) (n : Int) : Src (w.setCell ⟨k, 2, none⟩ (.int .u64 n)) k a len cap zs := by
  have hg : Gk k w (w.setCell ⟨k, 2, none⟩ (.int .u64 n)) := (Gk.refl k w).set rfl _
  obtain ⟨m, h0, h1, hm⟩ := h.mark
  obtain ⟨q, hq⟩ := h.hash
  exact ⟨row_gk h.row h.apart hg, h.apart, Nat.lt_of_lt_of_le h.lt hg.size, (World.cell?_setCell_other _ _ _ _ (ne_off (by decide))).trans h.code,
    ⟨m, h0, h1, (World.cell?_setCell_other _ _ _ _ (ne_off (by decide))).trans hm⟩, ⟨n, World.cell?_setCell_same' _ _ _ (by rw [hq]; rfl)⟩, (World.frozen?_setCell _ _ _ _).trans h.f0, (World.frozen?_setCell _ _ _ _).trans h.f1, (World.frozen?_setCell _ _ _ _).trans h.f2⟩

theorem wrapu_bd (n : Int) : 0 ≤ IntKind.u64.wrap n ∧ IntKind.u64.wrap n ≤ 18446744073709551615 := by
  rw [IntKind.wrap_u64]; omega
theorem and24 (E : Int) (h : 0 ≤ E ∧ E ≤ 18446744073709551615) : 0 ≤ bits BinOp.and IntKind.u64 E 16777215 ∧ bits BinOp.and IntKind.u64 E 16777215 ≤ 16777215 := by
  have h1 := bits_and_u64_nat E.toNat 16777215 (by omega) (by omega)
  rw [Int.toNat_of_nonneg h.1] at h1
  have h2 : E.toNat &&& 16777215 ≤ 16777215 := Nat.and_le_right
  have h3 : bits BinOp.and IntKind.u64 E 16777215 = ((E.toNat &&& 16777215 : Nat) : Int) := h1
  omega
theorem byte_bd (z : Int) (h : (Lit.int .u8 z).wf = true) : 0 ≤ z ∧ z ≤ 255 := by
  have h0 : IntKind.u8.min = 0 := rfl
  have h1 : IntKind.u8.max = 255 := rfl
  simp only [Lit.wf, h0, h1, Bool.and_eq_true, decide_eq_true_eq] at h
  exact h
theorem getD_wf {zs : List Int} (h : ∀ n ∈ zs, (Lit.int .u8 n).wf = true) (i : Nat) (hi : i < zs.length) : (Lit.int .u8 (zs.getD i 0)).wf = true := by
  refine h _ ?_
  simp [hi]
/-- What a draw of a number from 0 to n - 1 leaves. -/
def NextPost (k : Nat) (a : Option Addr) (len cap : Nat) (zs : List Int) (n : Int) (w : World) (e : Ending) (w' : World) : Prop :=
  ∃ x : Int, e = .returned (.int .i64 x) ∧ 0 ≤ x ∧ (x < n ∨ x = 0) ∧ Src w' k a len cap zs ∧ Gk k w w'

set_option maxRecDepth 100000 in
set_option maxHeartbeats 1000000 in
theorem next_any (k : Nat) (a : Option Addr) (len cap : Nat) (zs : List Int) (n : Int) (w : World) (hS : Src w k a len cap zs) :
    Calls Tryd.prog 44 #[.pointer (some ⟨k, 0, none⟩), .int .i64 n] w (NextPost k a len cap zs n w) := by
  have HS := hid hS
  by_cases hn : n < 1
  · clear hS
    go_enter Tryd.func44, Tryd.ntmps44
    go_wp2
    go_ret
    exact ⟨0, rfl, Int.le_refl _, .inr rfl, HS.out, Gk.refl _ _⟩
  · have hl := hS.lt
    obtain ⟨h, hh⟩ := hS.hash
    obtain ⟨m, hm0, hm1, hm⟩ := hS.mark
    have hc := hS.code
    have f1 := hS.f1
    have f2 := hS.f2
    clear hS
    have hn' : 1 ≤ n := by omega
    go_enter Tryd.func44, Tryd.ntmps44
    go_upto_region 5 with fail
    generalize hH : IntKind.u64.wrap (IntKind.u64.wrap (h * 6364136223846793005) + 1442695040888963407) = H
    have hX := and24 (H / 8589934592) (by have := wrapu_bd (IntKind.u64.wrap (h * 6364136223846793005) + 1442695040888963407); rw [hH] at this; omega)
    generalize bits BinOp.and IntKind.u64 (H / 8589934592) 16777215 = X at hX ⊢
    have S1 := HS.out.set2 H
    have G1 := (Gk.refl k w).set (p := ⟨k, 2, none⟩) rfl (.int .u64 H)
    clear hH hh hm hc f1 f2 HS hl
    generalize w.setCell ⟨k, 2, none⟩ (.int .u64 H) = W1 at S1 G1 ⊢
    obtain ⟨hX0, hX1⟩ := hX
    rw [wr_in (x := X) (by omega)]
    have hl := S1.lt
    obtain ⟨m', hm0', hm1', hm⟩ := S1.mark
    have hc := S1.code
    have f1 := S1.f1
    clear hm0 hm1 m
    have HS := hid S1
    have hrow := S1.row
    have hap := S1.apart
    clear S1
    by_cases hlt : m' < len
    · rcases hrow with ⟨_, hl0, _⟩ | ⟨x, rfl, hlc, hcm, hz, hcell, hwz⟩
      · omega
      · obtain ⟨j, rfl⟩ : ∃ j : Nat, m' = j := ⟨m'.toNat, by omega⟩
        have hcj := hcell j (by omega)
        have hbz := byte_bd (zs.getD j 0) (getD_wf hwz j (by omega))
        generalize zs.getD j 0 = z at hcj hbz
        obtain ⟨hz0, hz1⟩ := hbz
        have hxb := hap x rfl (by rintro rfl; simp at hz; omega)
        have HA := hid hap
        have HW := hid hwz
        clear hcell hwz hap hz
        unfold maxLen at hcm
        go_quiet (fail)
        have S2 := hid (HS.out.below (below_drewN (Below.refl _ W1) nq))
        have G2 := G1.below (below_drewN (Below.refl _ W1) nq)
        have hm2 : (W1.drewN nq).cell? ⟨k, 1, none⟩ = some (.int .i64 j) := hm
        have hc2 : (W1.drewN nq).cell? ⟨k, 0, none⟩ = some (.slice (some x) len cap) := hc
        have hcj2 : (W1.drewN nq).cell? (x.add j) = some (.int .u8 z) := hcj
        clear hm hc hcj f1 HS hl G1
        generalize W1.drewN nq = W2 at S2 G2 hm2 hc2 hcj2 ⊢
        have wq1 : IntKind.i64.wrap (X + z) = X + z := i64d (by omega)
        go_wp2_with fail
        go_quiet (fail)
        clear wq1
        have S3 := S2.out.below (below_drewN (Below.refl _ W2) nq)
        have G3 := G2.below (below_drewN (Below.refl _ W2) nq)
        have hm3 : (W2.drewN nq).cell? ⟨k, 1, none⟩ = some (.int .i64 j) := hm2
        clear hm2 hc2 hcj2 S2 G2
        generalize W2.drewN nq = W3 at S3 G3 hm3 ⊢
        have f3 := S3.f1
        have hl3 := S3.lt
        have S4 := hid (S3.set1 (j + 1) (by omega) (by omega))
        have G4 := G3.set (p := ⟨k, 1, none⟩) rfl (.int .i64 (j + 1))
        have e0 := Int.emod_nonneg (X + z) (show n ≠ 0 by omega)
        have e1 := Int.emod_lt_of_pos (X + z) (show 0 < n by omega)
        go_wp2
        go_ret
        exact ⟨(X + z) % n, rfl, e0, .inl e1, S4.out, G4⟩
    · go_quiet (fail)
      have S2 := hid (HS.out.below (below_drewN (Below.refl _ W1) nq))
      have G2 := G1.below (below_drewN (Below.refl _ W1) nq)
      clear hm hc f1 HS hl G1 hrow hap
      generalize W1.drewN nq = W2 at S2 G2 ⊢
      have e0 := Int.emod_nonneg X (show n ≠ 0 by omega)
      have e1 := Int.emod_lt_of_pos X (show 0 < n by omega)
      go_wp2
      go_ret
      exact ⟨X % n, rfl, e0, .inl e1, S2.out, G2⟩

end Go.Proofs.YtdogkkmdccieiaaDoor

/- Draws: numbers and forms. -/
namespace Go.Proofs.YtdogkkmdccieiaaDoor
open Go.ChangeShapes Go.WideShapes Go.ChangeAt Go.RowKit

theorem Src.alloc {w : World} {k : Nat} {a : Option Addr} {len cap : Nat} {zs : List Int} (h : Src w k a len cap zs) (o : Obj) : Src (w.alloc o) k a len cap zs := h.below ((Below.refl _ w).alloc (Nat.le_refl _) o)
theorem Src.up {w : World} {k : Nat} {a : Option Addr} {len cap : Nat} {zs : List Int} (h : Src w k a len cap zs) {p : Addr} (hp : k < p.block) (v : Value) : Src (w.setCell p v) k a len cap zs := by
  have ne : ∀ o, p ≠ (⟨k, o, none⟩ : Addr) := fun o e => by rw [e] at hp; exact Nat.lt_irrefl _ hp
  refine ⟨?_, h.apart, by rw [World.size_setCell]; exact h.lt, (World.cell?_setCell_other _ _ _ _ (ne 0)).trans h.code,
    by obtain ⟨n, h0, h1, h2⟩ := h.mark; exact ⟨n, h0, h1, (World.cell?_setCell_other _ _ _ _ (ne 1)).trans h2⟩, by obtain ⟨n, h0⟩ := h.hash; exact ⟨n, (World.cell?_setCell_other _ _ _ _ (ne 2)).trans h0⟩,
    (World.frozen?_setCell _ _ _ _).trans h.f0, (World.frozen?_setCell _ _ _ _).trans h.f1, (World.frozen?_setCell _ _ _ _).trans h.f2⟩
  rcases h.row with h' | ⟨x, h1, h2, h3, h4, h5, h6⟩
  · exact .inl h'
  · refine .inr ⟨x, h1, h2, h3, h4, fun i hi => ?_, h6⟩
    have hb : (x.add i).block = x.block := by unfold Addr.add; split <;> rfl
    refine (World.cell?_setCell_other _ _ _ _ fun e => ?_).trans (h5 i hi)
    have := h.apart x h1 (by rintro rfl; simp at hi)
    rw [e, hb] at hp
    omega
theorem Gk.alloc {k : Nat} {u v : World} (h : Gk k u v) (o : Obj) : Gk k u (v.alloc o) := h.below ((Below.refl _ v).alloc (Nat.le_refl _) o)
theorem Gk.up {k : Nat} {u v : World} (h : Gk k u v) {p : Addr} (hp : u.heap.size ≤ p.block) (x : Value) : Gk k u (v.setCell p x) :=
  ⟨h.os, h.tape, h.output, by rw [World.size_setCell]; exact h.size, fun b hb hk => by rw [← h.block b hb hk]; exact Below.heap_setCell _ _ _ b (by omega)⟩

/-- A number, a form: whatever they are. -/
def NumPost (k : Nat) (a : Option Addr) (len cap : Nat) (zs : List Int) (w : World) (e : Ending) (w' : World) : Prop :=
  ∃ x : Int, e = .returned (.int .i64 x) ∧ Src w' k a len cap zs ∧ Gk k w w'
def FrmPost (k : Nat) (a : Option Addr) (len cap : Nat) (zs : List Int) (w : World) (e : Ending) (w' : World) : Prop :=
  ∃ p q r s : Int, e = .returned (.agg #[.int .i64 p, .int .i64 q, .int .i64 r, .int .i64 s]) ∧ Src w' k a len cap zs ∧ Gk k w w'

set_option maxHeartbeats 400000 in
theorem pick_any (k : Nat) (a : Option Addr) (len cap : Nat) (zs : List Int) (b m : Nat) (w : World) (hS : Src w k a len cap zs) (hm1 : 1 ≤ m) (hm2 : m ≤ 1000) (hb : b < w.heap.size) (hk : b ≠ k) (hL : ∀ i, i < m → ∃ x : Int, w.cell? ⟨b, i, none⟩ = some (.int .i64 x)) :
    Calls Tryd.prog 46 #[.pointer (some ⟨k, 0, none⟩), .slice (some ⟨b, 0, none⟩) m m] w (NumPost k a len cap zs w) := by
  have HL := hid hL
  clear hL
  go_enter Tryd.func46, Tryd.ntmps46
  go_wp2_with fail
  refine (next_any k a len cap zs _ _ hS).mono ?_
  rintro e w1 ⟨x, rfl, h0, h1, S1, G1⟩
  obtain ⟨j, rfl⟩ : ∃ j : Nat, x = j := ⟨x.toNat, by omega⟩
  have hj : j < m := by omega
  obtain ⟨y, hy⟩ := HL.out j hj
  have hy1 : w1.cell? ⟨b, j, none⟩ = some (.int .i64 y) := (G1.cell (p := ⟨b, j, none⟩) hb hk).trans hy
  have HS := hid S1
  clear hy h1 S1 hS
  go_wp2
  go_ret
  exact ⟨y, rfl, HS.out, G1⟩

set_option maxHeartbeats 400000 in
theorem part_any (k : Nat) (a : Option Addr) (len cap : Nat) (zs : List Int) (n : Int) (w : World) (hS : Src w k a len cap zs) :
    Calls Tryd.prog 102 #[.pointer (some ⟨k, 0, none⟩), .int .i64 n] w (NumPost k a len cap zs w) := by
  go_enter Tryd.func102, Tryd.ntmps102
  go_wp2_with fail
  refine (next_any k a len cap zs _ _ hS).mono ?_
  rintro e w1 ⟨x, rfl, _, _, S1, G1⟩
  have HS := hid S1
  clear S1 hS
  go_wp2
  go_ret
  exact ⟨_, rfl, HS.out, G1⟩

set_option maxHeartbeats 1000000 in
theorem drawOf_any (k : Nat) (a : Option Addr) (len cap : Nat) (zs : List Int) (n : Int) (w : World) (hS : Src w k a len cap zs) :
    Calls Tryd.prog 91 #[.pointer (some ⟨k, 0, none⟩), .int .i64 n] w (FrmPost k a len cap zs w) := by
  have hl := hS.lt
  have R0 := Arr.new w 0 0 0 0 25
  have S0 := hid (hS.alloc (.cells #[.int .i64 0, .int .i64 0, .int .i64 0, .int .i64 0] 25))
  have G0 := (Gk.refl k w).alloc (.cells #[.int .i64 0, .int .i64 0, .int .i64 0, .int .i64 0] 25)
  clear hS
  go_enter Tryd.func91, Tryd.ntmps91
  go_wp2_with fail
  refine (part_any k a len cap zs _ _ S0.out).mono ?_
  rintro e w1 ⟨x1, rfl, S1', G1⟩
  have S1 := hid S1'
  have R1 := R0.gk G1 (by omega)
  have H1 := G0.trans G1
  clear S1' G1 R0 G0 S0
  go_wp2_with fail
  refine (part_any k a len cap zs _ _ S1.out).mono ?_
  rintro e w2 ⟨x2, rfl, S2', G2⟩
  have S2 := hid S2'
  have R2 := R1.gk G2 (by omega)
  have H2 := H1.trans G2
  clear S2' G2 R1 H1 S1
  go_wp2_with fail
  refine (part_any k a len cap zs _ _ S2.out).mono ?_
  rintro e w3 ⟨x3, rfl, S3', G3⟩
  have S3 := hid S3'
  have R3 := R2.gk G3 (by omega)
  have H3 := H2.trans G3
  clear S3' G3 R2 H2 S2
  go_wp2_with fail
  refine (part_any k a len cap zs _ _ S3.out).mono ?_
  rintro e w4 ⟨x4, rfl, S4', G4⟩
  have S4 := hid S4'
  have R4 := R3.gk G4 (by omega)
  have H4 := H3.trans G4
  clear S4' G4 R3 H3 S3
  obtain ⟨_, r0, r1, r2, r3, f0, f1, f2, f3⟩ := id R4
  go_wp2_with fail
  refine bodyPost_ret (res_A1 (e := 2) rfl Tryd.underlying25 (by kernel_rfl) rfl (by (repeat (first | with_reducible assumption | with_reducible exact Arr.box (by assumption) | with_reducible apply Arr.drew | with_reducible apply Arr.drewN | with_reducible refine Arr.store4 ?_ | with_reducible apply Arr.alloc | with_reducible refine Box.drew ?_ | with_reducible refine Box.drewN ?_ _ | with_reducible refine Box.alloc ?_ _ | refine Arr.oth ?_ (by first | (simp; done) | omega | (simp; omega)) _ | refine Box.oth ?_ (by first | (simp; done) | omega | (simp; omega)) _)))) rfl ?_
  exact ⟨_, _, _, _, rfl, (((S4.out.up (by simpa using hl) _).up (by simpa using hl) _).up (by simpa using hl) _).up (by simpa using hl) _, (((H4.up (by simp) _).up (by simp) _).up (by simp) _).up (by simp) _⟩

end Go.Proofs.YtdogkkmdccieiaaDoor

/- Chapter 1: reversed forms, products, sums. -/
namespace Go.Proofs.YtdogkkmdccieiaaDoor
open Go.RowKit



end Go.Proofs.YtdogkkmdccieiaaDoor

/- Chapter 1: products of matrices. -/
namespace Go.Proofs.YtdogkkmdccieiaaDoor
open Go.RowKit









end Go.Proofs.YtdogkkmdccieiaaDoor
