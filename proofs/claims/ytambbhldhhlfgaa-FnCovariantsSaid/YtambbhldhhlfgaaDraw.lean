/- Draws: the source of numbers. -/
import Derived.Test.YtambbhldhhlfgaaOpen
import Derived.Test.YtambbhldhhlfgaaMath
import Derived.Deep.DeepCutAuto
namespace Go.Proofs.Ytambbhldhhlfgaa
open Go.ChangeShapes Go.WideShapes Go.ChangeAt Go.RowKit

theorem below_drewN {n : Nat} {w w' : World} (h : Below n w w') (m : Nat) : Below n w (w'.drewN m) := ⟨h.os, h.tape, h.output, h.size, h.block⟩
theorem i64d {n : Int} (h : -1000000000000000000 ≤ n ∧ n ≤ 1000000000000000000) : IntKind.i64.wrap n = n := IntWalk.i64_in n (by omega)
/-- Block k alone may have turned. -/
structure Gk (k : Nat) (w w' : World) : Prop where
  os : w'.os = w.os
  tape : w'.tape = w.tape
  output : w'.output = w.output
  size : w.heap.size ≤ w'.heap.size
  block : ∀ b, b < w.heap.size → b ≠ k → w'.heap[b]? = w.heap[b]?
theorem Gk.refl (k : Nat) (w : World) : Gk k w w := ⟨rfl, rfl, rfl, Nat.le_refl _, fun _ _ _ => rfl⟩
theorem Gk.trans {k : Nat} {u v w : World} (h : Gk k u v) (h' : Gk k v w) : Gk k u w :=
  ⟨h'.os.trans h.os, h'.tape.trans h.tape, h'.output.trans h.output, Nat.le_trans h.size h'.size, fun b hb hk => (h'.block b (Nat.lt_of_lt_of_le hb h.size) hk).trans (h.block b hb hk)⟩
theorem Gk.below {k : Nat} {u v w : World} (h : Gk k u v) (hb : Below v.heap.size v w) : Gk k u w :=
  h.trans ⟨hb.os, hb.tape, hb.output, hb.size, fun b hl _ => hb.block b hl⟩
theorem Gk.set {k : Nat} {u v : World} (h : Gk k u v) {p : Addr} (hp : p.block = k) (x : Value) : Gk k u (v.setCell p x) := by
  refine ⟨h.os, h.tape, h.output, by rw [World.size_setCell]; exact h.size, fun b hb hk => ?_⟩
  rw [← h.block b hb hk]
  have := (Below.refl v.heap.size v)
  exact Below.heap_setCell _ _ _ b (by rw [hp]; exact hk)
theorem Gk.out {k : Nat} {u v w : World} (hb : Below u.heap.size u v) (h : Gk k v w) (hk : u.heap.size ≤ k) : Below u.heap.size u w :=
  ⟨h.os.trans hb.os, h.tape.trans hb.tape, h.output.trans hb.output, Nat.le_trans hb.size h.size, fun b hl => (h.block b (Nat.lt_of_lt_of_le hl hb.size) (by omega)).trans (hb.block b hl)⟩
theorem Gk.cell {k : Nat} {u v : World} (h : Gk k u v) {p : Addr} (hp : p.block < u.heap.size) (hk : p.block ≠ k) : v.cell? p = u.cell? p := World.cell?_of_block (h.block _ hp hk)
theorem Gk.frozen {k : Nat} {u v : World} (h : Gk k u v) {p : Addr} (hp : p.block < u.heap.size) (hk : p.block ≠ k) : v.frozen? p = u.frozen? p := World.frozen?_of_block (h.block _ hp hk)
theorem Arr.gk {k j : Nat} {u v : World} {a b c d : Int} (hA : Arr u j a b c d) (h : Gk k u v) (hk : j ≠ k) : Arr v j a b c d :=
  ⟨Nat.lt_of_lt_of_le hA.lt h.size, (h.cell (p := ⟨j, 0, none⟩) hA.lt hk).trans hA.c0, (h.cell (p := ⟨j, 1, none⟩) hA.lt hk).trans hA.c1, (h.cell (p := ⟨j, 2, none⟩) hA.lt hk).trans hA.c2, (h.cell (p := ⟨j, 3, none⟩) hA.lt hk).trans hA.c3,
    (h.frozen (p := ⟨j, 0, none⟩) hA.lt hk).trans hA.f0, (h.frozen (p := ⟨j, 1, none⟩) hA.lt hk).trans hA.f1, (h.frozen (p := ⟨j, 2, none⟩) hA.lt hk).trans hA.f2, (h.frozen (p := ⟨j, 3, none⟩) hA.lt hk).trans hA.f3⟩

/-- Block k is a source of numbers over bytes. -/
structure Src (w : World) (k : Nat) (a : Option Addr) (len cap : Nat) (zs : List Int) : Prop where
  row : IsRow .u8 w a len cap zs
  apart : ∀ x, a = some x → zs ≠ [] → x.block < k
  lt : k < w.heap.size
  code : w.cell? ⟨k, 0, none⟩ = some (.slice a len cap)
  mark : ∃ n : Int, 0 ≤ n ∧ n ≤ len ∧ w.cell? ⟨k, 1, none⟩ = some (.int .i64 n)
  hash : ∃ n : Int, w.cell? ⟨k, 2, none⟩ = some (.int .u64 n)
  f0 : w.frozen? ⟨k, 0, none⟩ = false
  f1 : w.frozen? ⟨k, 1, none⟩ = false
  f2 : w.frozen? ⟨k, 2, none⟩ = false
theorem row_gk {k : Nat} {w w' : World} {a : Option Addr} {len cap : Nat} {zs : List Int} (h : IsRow .u8 w a len cap zs) (ha : ∀ x, a = some x → zs ≠ [] → x.block < k) (hg : Gk k w w') : IsRow .u8 w' a len cap zs := by
  rcases h with h | ⟨x, h1, h2, h3, h4, h5, h6⟩
  · exact .inl h
  · refine .inr ⟨x, h1, h2, h3, h4, fun i hi => ?_, h6⟩
    have hb : (x.add i).block = x.block := by unfold Addr.add; split <;> rfl
    refine (hg.cell (World.block_lt_of_cell? w _ (h5 i hi)) ?_).trans (h5 i hi)
    have := ha x h1 (by rintro rfl; simp at hi)
    omega
theorem Src.below {w w' : World} {k : Nat} {a : Option Addr} {len cap : Nat} {zs : List Int} (h : Src w k a len cap zs) (hb : Below w.heap.size w w') : Src w' k a len cap zs := by
  have hg : ∀ o, w'.cell? ⟨k, o, none⟩ = w.cell? ⟨k, o, none⟩ := fun o => hb.cell (p := ⟨k, o, none⟩) h.lt
  have hf : ∀ o, w'.frozen? ⟨k, o, none⟩ = w.frozen? ⟨k, o, none⟩ := fun o => hb.frozen (p := ⟨k, o, none⟩) h.lt
  exact ⟨row_gk h.row h.apart ((Gk.refl k w).below hb), h.apart, Nat.lt_of_lt_of_le h.lt hb.size, (hg 0).trans h.code,
    by obtain ⟨n, h0, h1, h2⟩ := h.mark; exact ⟨n, h0, h1, (hg 1).trans h2⟩, by obtain ⟨n, h0⟩ := h.hash; exact ⟨n, (hg 2).trans h0⟩, (hf 0).trans h.f0, (hf 1).trans h.f1, (hf 2).trans h.f2⟩
theorem Src.set1 {w : World} {k : Nat} {a : Option Addr} {len cap : Nat} {zs : List Int} (h : Src w k a len cap zs) (n : Int) (h0 : 0 ≤ n) (h1 : n ≤ len) : Src (w.setCell ⟨k, 1, none⟩ (.int .i64 n)) k a len cap zs := by
  have hg : Gk k w (w.setCell ⟨k, 1, none⟩ (.int .i64 n)) := (Gk.refl k w).set rfl _
  obtain ⟨m, _, _, hm⟩ := h.mark
  obtain ⟨q, hq⟩ := h.hash
  exact ⟨row_gk h.row h.apart hg, h.apart, Nat.lt_of_lt_of_le h.lt hg.size, (World.cell?_setCell_other _ _ _ _ (ne_off (by decide))).trans h.code,
    ⟨n, h0, h1, World.cell?_setCell_same' _ _ _ (by rw [hm]; rfl)⟩, ⟨q, (World.cell?_setCell_other _ _ _ _ (ne_off (by decide))).trans hq⟩, (World.frozen?_setCell _ _ _ _).trans h.f0, (World.frozen?_setCell _ _ _ _).trans h.f1, (World.frozen?_setCell _ _ _ _).trans h.f2⟩
theorem Src.set2 {w : World} {k : Nat} {a : Option Addr} {len cap : Nat} {zs : List Int} (h : Src w k a len cap zs) (n : Int) : Src (w.setCell ⟨k, 2, none⟩ (.int .u64 n)) k a len cap zs := by
  have hg : Gk k w (w.setCell ⟨k, 2, none⟩ (.int .u64 n)) := (Gk.refl k w).set rfl _
  obtain ⟨m, h0, h1, hm⟩ := h.mark
  obtain ⟨q, hq⟩ := h.hash
  exact ⟨row_gk h.row h.apart hg, h.apart, Nat.lt_of_lt_of_le h.lt hg.size, (World.cell?_setCell_other _ _ _ _ (ne_off (by decide))).trans h.code,
    ⟨m, h0, h1, (World.cell?_setCell_other _ _ _ _ (ne_off (by decide))).trans hm⟩, ⟨n, World.cell?_setCell_same' _ _ _ (by rw [hq]; rfl)⟩, (World.frozen?_setCell _ _ _ _).trans h.f0, (World.frozen?_setCell _ _ _ _).trans h.f1, (World.frozen?_setCell _ _ _ _).trans h.f2⟩

theorem wrapu_bd (n : Int) : 0 ≤ IntKind.u64.wrap n ∧ IntKind.u64.wrap n ≤ 18446744073709551615 := by
  rw [IntKind.wrap_u64]; omega
theorem and24 (E : Int) (h : 0 ≤ E ∧ E ≤ 18446744073709551615) : 0 ≤ bits BinOp.and IntKind.u64 E 16777215 ∧ bits BinOp.and IntKind.u64 E 16777215 ≤ 16777215 := by
  have h1 := bits_and_u64_nat E.toNat 16777215 (by omega) (by omega)
  rw [Int.toNat_of_nonneg h.1] at h1
  have h2 : E.toNat &&& 16777215 ≤ 16777215 := Nat.and_le_right
  have h3 : bits BinOp.and IntKind.u64 E 16777215 = ((E.toNat &&& 16777215 : Nat) : Int) := h1
  omega
theorem byte_bd (z : Int) (h : (Lit.int .u8 z).wf = true) : 0 ≤ z ∧ z ≤ 255 := by
  have h0 : IntKind.u8.min = 0 := rfl
  have h1 : IntKind.u8.max = 255 := rfl
  simp only [Lit.wf, h0, h1, Bool.and_eq_true, decide_eq_true_eq] at h
  exact h
theorem getD_wf {zs : List Int} (h : ∀ n ∈ zs, (Lit.int .u8 n).wf = true) (i : Nat) (hi : i < zs.length) : (Lit.int .u8 (zs.getD i 0)).wf = true := by
  refine h _ ?_
  simp [hi]
/-- What a draw of a number from 0 to n - 1 leaves. -/
def NextPost (k : Nat) (a : Option Addr) (len cap : Nat) (zs : List Int) (n : Int) (w : World) (e : Ending) (w' : World) : Prop :=
  ∃ x : Int, e = .returned (.int .i64 x) ∧ 0 ≤ x ∧ (x < n ∨ x = 0) ∧ Src w' k a len cap zs ∧ Gk k w w'

set_option maxRecDepth 100000 in
set_option maxHeartbeats 1000000 in
theorem next_any (k : Nat) (a : Option Addr) (len cap : Nat) (zs : List Int) (n : Int) (w : World) (hS : Src w k a len cap zs) :
    Calls Try.prog 47 #[.pointer (some ⟨k, 0, none⟩), .int .i64 n] w (NextPost k a len cap zs n w) := by
  have HS := hid hS
  by_cases hn : n < 1
  · clear hS
    go_enter Try.func47, Try.ntmps47
    go_wp2
    go_ret
    exact ⟨0, rfl, Int.le_refl _, .inr rfl, HS.out, Gk.refl _ _⟩
  · have hl := hS.lt
    obtain ⟨h, hh⟩ := hS.hash
    obtain ⟨m, hm0, hm1, hm⟩ := hS.mark
    have hc := hS.code
    have f1 := hS.f1
    have f2 := hS.f2
    clear hS
    have hn' : 1 ≤ n := by omega
    go_enter Try.func47, Try.ntmps47
    go_upto_region 5 with fail
    generalize hH : IntKind.u64.wrap (IntKind.u64.wrap (h * 6364136223846793005) + 1442695040888963407) = H
    have hX := and24 (H / 8589934592) (by have := wrapu_bd (IntKind.u64.wrap (h * 6364136223846793005) + 1442695040888963407); rw [hH] at this; omega)
    generalize bits BinOp.and IntKind.u64 (H / 8589934592) 16777215 = X at hX ⊢
    have S1 := HS.out.set2 H
    have G1 := (Gk.refl k w).set (p := ⟨k, 2, none⟩) rfl (.int .u64 H)
    clear hH hh hm hc f1 f2 HS hl
    generalize w.setCell ⟨k, 2, none⟩ (.int .u64 H) = W1 at S1 G1 ⊢
    obtain ⟨hX0, hX1⟩ := hX
    rw [wr_in (x := X) (by omega)]
    have hl := S1.lt
    obtain ⟨m', hm0', hm1', hm⟩ := S1.mark
    have hc := S1.code
    have f1 := S1.f1
    clear hm0 hm1 m
    have HS := hid S1
    have hrow := S1.row
    have hap := S1.apart
    clear S1
    by_cases hlt : m' < len
    · rcases hrow with ⟨_, hl0, _⟩ | ⟨x, rfl, hlc, hcm, hz, hcell, hwz⟩
      · omega
      · obtain ⟨j, rfl⟩ : ∃ j : Nat, m' = j := ⟨m'.toNat, by omega⟩
        have hcj := hcell j (by omega)
        have hbz := byte_bd (zs.getD j 0) (getD_wf hwz j (by omega))
        generalize zs.getD j 0 = z at hcj hbz
        obtain ⟨hz0, hz1⟩ := hbz
        have hxb := hap x rfl (by rintro rfl; simp at hz; omega)
        have HA := hid hap
        have HW := hid hwz
        clear hcell hwz hap hz
        unfold maxLen at hcm
        go_quiet (fail)
        have S2 := hid (HS.out.below (below_drewN (Below.refl _ W1) nq))
        have G2 := G1.below (below_drewN (Below.refl _ W1) nq)
        have hm2 : (W1.drewN nq).cell? ⟨k, 1, none⟩ = some (.int .i64 j) := hm
        have hc2 : (W1.drewN nq).cell? ⟨k, 0, none⟩ = some (.slice (some x) len cap) := hc
        have hcj2 : (W1.drewN nq).cell? (x.add j) = some (.int .u8 z) := hcj
        clear hm hc hcj f1 HS hl G1
        generalize W1.drewN nq = W2 at S2 G2 hm2 hc2 hcj2 ⊢
        have wq1 : IntKind.i64.wrap (X + z) = X + z := i64d (by omega)
        go_wp2_with fail
        go_quiet (fail)
        clear wq1
        have S3 := S2.out.below (below_drewN (Below.refl _ W2) nq)
        have G3 := G2.below (below_drewN (Below.refl _ W2) nq)
        have hm3 : (W2.drewN nq).cell? ⟨k, 1, none⟩ = some (.int .i64 j) := hm2
        clear hm2 hc2 hcj2 S2 G2
        generalize W2.drewN nq = W3 at S3 G3 hm3 ⊢
        have f3 := S3.f1
        have hl3 := S3.lt
        have S4 := hid (S3.set1 (j + 1) (by omega) (by omega))
        have G4 := G3.set (p := ⟨k, 1, none⟩) rfl (.int .i64 (j + 1))
        have e0 := Int.emod_nonneg (X + z) (show n ≠ 0 by omega)
        have e1 := Int.emod_lt_of_pos (X + z) (show 0 < n by omega)
        go_wp2
        go_ret
        exact ⟨(X + z) % n, rfl, e0, .inl e1, S4.out, G4⟩
    · go_quiet (fail)
      have S2 := hid (HS.out.below (below_drewN (Below.refl _ W1) nq))
      have G2 := G1.below (below_drewN (Below.refl _ W1) nq)
      clear hm hc f1 HS hl G1 hrow hap
      generalize W1.drewN nq = W2 at S2 G2 ⊢
      have e0 := Int.emod_nonneg X (show n ≠ 0 by omega)
      have e1 := Int.emod_lt_of_pos X (show 0 < n by omega)
      go_wp2
      go_ret
      exact ⟨X % n, rfl, e0, .inl e1, S2.out, G2⟩

end Go.Proofs.Ytambbhldhhlfgaa
