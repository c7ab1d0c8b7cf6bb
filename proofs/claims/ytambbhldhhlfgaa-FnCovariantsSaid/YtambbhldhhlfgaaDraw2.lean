/- Draws: numbers and forms. -/
import Derived.Test.YtambbhldhhlfgaaDraw
namespace Go.Proofs.Ytambbhldhhlfgaa
open Go.ChangeShapes Go.WideShapes Go.ChangeAt Go.RowKit

theorem Src.alloc {w : World} {k : Nat} {a : Option Addr} {len cap : Nat} {zs : List Int} (h : Src w k a len cap zs) (o : Obj) : Src (w.alloc o) k a len cap zs := h.below ((Below.refl _ w).alloc (Nat.le_refl _) o)
theorem Src.up {w : World} {k : Nat} {a : Option Addr} {len cap : Nat} {zs : List Int} (h : Src w k a len cap zs) {p : Addr} (hp : k < p.block) (v : Value) : Src (w.setCell p v) k a len cap zs := by
  have ne : ∀ o, p ≠ (⟨k, o, none⟩ : Addr) := fun o e => by rw [e] at hp; exact Nat.lt_irrefl _ hp
  refine ⟨?_, h.apart, by rw [World.size_setCell]; exact h.lt, (World.cell?_setCell_other _ _ _ _ (ne 0)).trans h.code,
    by obtain ⟨n, h0, h1, h2⟩ := h.mark; exact ⟨n, h0, h1, (World.cell?_setCell_other _ _ _ _ (ne 1)).trans h2⟩, by obtain ⟨n, h0⟩ := h.hash; exact ⟨n, (World.cell?_setCell_other _ _ _ _ (ne 2)).trans h0⟩,
    (World.frozen?_setCell _ _ _ _).trans h.f0, (World.frozen?_setCell _ _ _ _).trans h.f1, (World.frozen?_setCell _ _ _ _).trans h.f2⟩
  rcases h.row with h' | ⟨x, h1, h2, h3, h4, h5, h6⟩
  · exact .inl h'
  · refine .inr ⟨x, h1, h2, h3, h4, fun i hi => ?_, h6⟩
    have hb : (x.add i).block = x.block := by unfold Addr.add; split <;> rfl
    refine (World.cell?_setCell_other _ _ _ _ fun e => ?_).trans (h5 i hi)
    have := h.apart x h1 (by rintro rfl; simp at hi)
    rw [e, hb] at hp
    omega
theorem Gk.alloc {k : Nat} {u v : World} (h : Gk k u v) (o : Obj) : Gk k u (v.alloc o) := h.below ((Below.refl _ v).alloc (Nat.le_refl _) o)
theorem Gk.up {k : Nat} {u v : World} (h : Gk k u v) {p : Addr} (hp : u.heap.size ≤ p.block) (x : Value) : Gk k u (v.setCell p x) :=
  ⟨h.os, h.tape, h.output, by rw [World.size_setCell]; exact h.size, fun b hb hk => by rw [← h.block b hb hk]; exact Below.heap_setCell _ _ _ b (by omega)⟩

/-- A number, a form: whatever they are. -/
def NumPost (k : Nat) (a : Option Addr) (len cap : Nat) (zs : List Int) (w : World) (e : Ending) (w' : World) : Prop :=
  ∃ x : Int, e = .returned (.int .i64 x) ∧ Src w' k a len cap zs ∧ Gk k w w'
def FrmPost (k : Nat) (a : Option Addr) (len cap : Nat) (zs : List Int) (w : World) (e : Ending) (w' : World) : Prop :=
  ∃ p q r s : Int, e = .returned (.agg #[.int .i64 p, .int .i64 q, .int .i64 r, .int .i64 s]) ∧ Src w' k a len cap zs ∧ Gk k w w'

set_option maxHeartbeats 400000 in
theorem pick_any (k : Nat) (a : Option Addr) (len cap : Nat) (zs : List Int) (b m : Nat) (w : World) (hS : Src w k a len cap zs) (hm1 : 1 ≤ m) (hm2 : m ≤ 1000) (hb : b < w.heap.size) (hk : b ≠ k) (hL : ∀ i, i < m → ∃ x : Int, w.cell? ⟨b, i, none⟩ = some (.int .i64 x)) :
    Calls Try.prog 62 #[.pointer (some ⟨k, 0, none⟩), .slice (some ⟨b, 0, none⟩) m m] w (NumPost k a len cap zs w) := by
  have HL := hid hL
  clear hL
  go_enter Try.func62, Try.ntmps62
  go_wp2_with fail
  refine (next_any k a len cap zs _ _ hS).mono ?_
  rintro e w1 ⟨x, rfl, h0, h1, S1, G1⟩
  obtain ⟨j, rfl⟩ : ∃ j : Nat, x = j := ⟨x.toNat, by omega⟩
  have hj : j < m := by omega
  obtain ⟨y, hy⟩ := HL.out j hj
  have hy1 : w1.cell? ⟨b, j, none⟩ = some (.int .i64 y) := (G1.cell (p := ⟨b, j, none⟩) hb hk).trans hy
  have HS := hid S1
  clear hy h1 S1 hS
  go_wp2
  go_ret
  exact ⟨y, rfl, HS.out, G1⟩

set_option maxHeartbeats 400000 in
theorem part_any (k : Nat) (a : Option Addr) (len cap : Nat) (zs : List Int) (n : Int) (w : World) (hS : Src w k a len cap zs) :
    Calls Try.prog 92 #[.pointer (some ⟨k, 0, none⟩), .int .i64 n] w (NumPost k a len cap zs w) := by
  go_enter Try.func92, Try.ntmps92
  go_wp2_with fail
  refine (next_any k a len cap zs _ _ hS).mono ?_
  rintro e w1 ⟨x, rfl, _, _, S1, G1⟩
  have HS := hid S1
  clear S1 hS
  go_wp2
  go_ret
  exact ⟨_, rfl, HS.out, G1⟩

set_option maxHeartbeats 1000000 in
theorem drawOf_any (k : Nat) (a : Option Addr) (len cap : Nat) (zs : List Int) (n : Int) (w : World) (hS : Src w k a len cap zs) :
    Calls Try.prog 99 #[.pointer (some ⟨k, 0, none⟩), .int .i64 n] w (FrmPost k a len cap zs w) := by
  have hl := hS.lt
  have R0 := Arr.new w 0 0 0 0 25
  have S0 := hid (hS.alloc (.cells #[.int .i64 0, .int .i64 0, .int .i64 0, .int .i64 0] 25))
  have G0 := (Gk.refl k w).alloc (.cells #[.int .i64 0, .int .i64 0, .int .i64 0, .int .i64 0] 25)
  clear hS
  go_enter Try.func99, Try.ntmps99
  go_wp2_with fail
  refine (part_any k a len cap zs _ _ S0.out).mono ?_
  rintro e w1 ⟨x1, rfl, S1', G1⟩
  have S1 := hid S1'
  have R1 := R0.gk G1 (by omega)
  have H1 := G0.trans G1
  clear S1' G1 R0 G0 S0
  go_wp2_with fail
  refine (part_any k a len cap zs _ _ S1.out).mono ?_
  rintro e w2 ⟨x2, rfl, S2', G2⟩
  have S2 := hid S2'
  have R2 := R1.gk G2 (by omega)
  have H2 := H1.trans G2
  clear S2' G2 R1 H1 S1
  go_wp2_with fail
  refine (part_any k a len cap zs _ _ S2.out).mono ?_
  rintro e w3 ⟨x3, rfl, S3', G3⟩
  have S3 := hid S3'
  have R3 := R2.gk G3 (by omega)
  have H3 := H2.trans G3
  clear S3' G3 R2 H2 S2
  go_wp2_with fail
  refine (part_any k a len cap zs _ _ S3.out).mono ?_
  rintro e w4 ⟨x4, rfl, S4', G4⟩
  have S4 := hid S4'
  have R4 := R3.gk G4 (by omega)
  have H4 := H3.trans G4
  clear S4' G4 R3 H3 S3
  obtain ⟨_, r0, r1, r2, r3, f0, f1, f2, f3⟩ := id R4
  go_wp2_with fail
  refine bodyPost_ret (res_A1 (e := 2) rfl Try.underlying25 (by kernel_rfl) rfl (by (repeat (first | with_reducible assumption | with_reducible exact Arr.box (by assumption) | with_reducible apply Arr.drew | with_reducible apply Arr.drewN | with_reducible refine Arr.store4 ?_ | with_reducible apply Arr.alloc | with_reducible refine Box.drew ?_ | with_reducible refine Box.drewN ?_ _ | with_reducible refine Box.alloc ?_ _ | refine Arr.oth ?_ (by first | (simp; done) | omega | (simp; omega)) _ | refine Box.oth ?_ (by first | (simp; done) | omega | (simp; omega)) _)))) rfl ?_
  exact ⟨_, _, _, _, rfl, (((S4.out.up (by simpa using hl) _).up (by simpa using hl) _).up (by simpa using hl) _).up (by simpa using hl) _, (((H4.up (by simp) _).up (by simp) _).up (by simp) _).up (by simp) _⟩

end Go.Proofs.Ytambbhldhhlfgaa
