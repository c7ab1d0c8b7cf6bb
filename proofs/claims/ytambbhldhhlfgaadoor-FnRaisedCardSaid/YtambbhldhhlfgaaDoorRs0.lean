/- FnRaised: what is known at each cut; the code behind an 'if'; lists compared. -/
import Derived.Test.YtambbhldhhlfgaaDoorZ8
import Derived.Test.YtambbhldhhlfgaaDoorZ16
import Derived.Test.YtambbhldhhlfgaaDoorZ20
import Derived.Test.YtambbhldhhlfgaaDoorZ11
import Derived.Test.YtambbhldhhlfgaaDoorZ5
import Derived.Deep.DeepCutAuto
namespace Go.Proofs.YtambbhldhhlfgaaDoor
open Go.ChangeShapes Go.WideShapes Go.ChangeAt Go.RowKit

/-- The boxes of a form and of what a function made of it. -/
structure RaB (w : World) (jf jr : Nat) (a b c d P0 P1 P2 P3 : Int) : Prop where
  F : Arr w jf a b c d
  R : Arr w jr P0 P1 P2 P3
theorem RaB.next {w w' : World} {jf jr : Nat} {a b c d P0 P1 P2 P3 : Int} (h : RaB w jf jr a b c d P0 P1 P2 P3) (hb : Below w.heap.size w w') : RaB w' jf jr a b c d P0 P1 P2 P3 := ⟨h.F.next hb, h.R.next hb⟩
def RaQ (a b c d p r K P0 P1 P2 P3 : Int) : Prop := K = rfc a b c d p r ∧ P0 = if0 K (raA a b c d p r) ∧ P1 = if0 K (raB a b c d p r) ∧ P2 = if0 K (raC a b c d p r) ∧ P3 = if0 K (raD a b c d p r)
def LoQ (a b c d p r K P0 P1 P2 P3 : Int) : Prop := K = lfc a b c d p r ∧ P0 = if0 K (loA a b c d p r) ∧ P1 = if0 K (loB a b c d p r) ∧ P2 = if0 K (loC a b c d p r) ∧ P3 = if0 K (loD a b c d p r)
def DvQ (a b c d p K P0 P1 P2 P3 : Int) : Prop := K = dfc a b c d p ∧ P0 = if0 K (a.tdiv p) ∧ P1 = if0 K (b.tdiv p) ∧ P2 = if0 K (c.tdiv p) ∧ P3 = if0 K (d.tdiv p)
theorem RaQ.i {a b c d p r K P0 P1 P2 P3 : Int} (h : RaQ a b c d p r K P0 P1 P2 P3) (W : World) :
    Calls Tryd.prog 9 #[.agg #[.int .i64 a, .int .i64 b, .int .i64 c, .int .i64 d], .int .i64 p, .int .i64 r] W fun e w' => e = .returned (.tuple #[.agg #[.int .i64 P0, .int .i64 P1, .int .i64 P2, .int .i64 P3], .int .i64 K]) ∧ Below W.heap.size W w' := by
  obtain ⟨h1, h2, h3, h4, h5⟩ := h
  have := iRaiseForm_any a b c d p r W
  rw [← h1, ← h2, ← h3, ← h4, ← h5] at this
  exact this
theorem RaQ.s {a b c d p r K P0 P1 P2 P3 : Int} (h : RaQ a b c d p r K P0 P1 P2 P3) (W : World) :
    Calls Tryd.prog 10 #[.agg #[.int .i64 a, .int .i64 b, .int .i64 c, .int .i64 d], .int .i64 p, .int .i64 r] W fun e w' => e = .returned (.tuple #[.agg #[.int .i64 P0, .int .i64 P1, .int .i64 P2, .int .i64 P3], .int .i64 K]) ∧ Below W.heap.size W w' := by
  obtain ⟨h1, h2, h3, h4, h5⟩ := h
  have := sRaiseForm_any a b c d p r W
  rw [← h1, ← h2, ← h3, ← h4, ← h5] at this
  exact this
theorem LoQ.i {a b c d p r K P0 P1 P2 P3 : Int} (h : LoQ a b c d p r K P0 P1 P2 P3) (W : World) :
    Calls Tryd.prog 12 #[.agg #[.int .i64 a, .int .i64 b, .int .i64 c, .int .i64 d], .int .i64 p, .int .i64 r] W fun e w' => e = .returned (.tuple #[.agg #[.int .i64 P0, .int .i64 P1, .int .i64 P2, .int .i64 P3], .int .i64 K]) ∧ Below W.heap.size W w' := by
  obtain ⟨h1, h2, h3, h4, h5⟩ := h
  have := iLowerForm_any a b c d p r W
  rw [← h1, ← h2, ← h3, ← h4, ← h5] at this
  exact this
theorem LoQ.s {a b c d p r K P0 P1 P2 P3 : Int} (h : LoQ a b c d p r K P0 P1 P2 P3) (W : World) :
    Calls Tryd.prog 13 #[.agg #[.int .i64 a, .int .i64 b, .int .i64 c, .int .i64 d], .int .i64 p, .int .i64 r] W fun e w' => e = .returned (.tuple #[.agg #[.int .i64 P0, .int .i64 P1, .int .i64 P2, .int .i64 P3], .int .i64 K]) ∧ Below W.heap.size W w' := by
  obtain ⟨h1, h2, h3, h4, h5⟩ := h
  have := sLowerForm_any a b c d p r W
  rw [← h1, ← h2, ← h3, ← h4, ← h5] at this
  exact this
theorem DvQ.i {a b c d p K P0 P1 P2 P3 : Int} (h : DvQ a b c d p K P0 P1 P2 P3) (W : World) :
    Calls Tryd.prog 15 #[.agg #[.int .i64 a, .int .i64 b, .int .i64 c, .int .i64 d], .int .i64 p] W fun e w' => e = .returned (.tuple #[.agg #[.int .i64 P0, .int .i64 P1, .int .i64 P2, .int .i64 P3], .int .i64 K]) ∧ Below W.heap.size W w' := by
  obtain ⟨h1, h2, h3, h4, h5⟩ := h
  have := iDivideForm_any a b c d p W
  rw [← h1, ← h2, ← h3, ← h4, ← h5] at this
  exact this
theorem DvQ.s {a b c d p K P0 P1 P2 P3 : Int} (h : DvQ a b c d p K P0 P1 P2 P3) (W : World) :
    Calls Tryd.prog 16 #[.agg #[.int .i64 a, .int .i64 b, .int .i64 c, .int .i64 d], .int .i64 p] W fun e w' => e = .returned (.tuple #[.agg #[.int .i64 P0, .int .i64 P1, .int .i64 P2, .int .i64 P3], .int .i64 K]) ∧ Below W.heap.size W w' := by
  obtain ⟨h1, h2, h3, h4, h5⟩ := h
  have := sDivideForm_any a b c d p W
  rw [← h1, ← h2, ← h3, ← h4, ← h5] at this
  exact this
theorem RaQ.bad {a b c d p r K P0 P1 P2 P3 : Int} (h : RaQ a b c d p r K P0 P1 P2 P3) (hk : ¬ K = 0) : P0 = 0 ∧ P1 = 0 ∧ P2 = 0 ∧ P3 = 0 := by
  obtain ⟨_, h2, h3, h4, h5⟩ := h
  exact ⟨by rw [h2]; simp [if0, hk], by rw [h3]; simp [if0, hk], by rw [h4]; simp [if0, hk], by rw [h5]; simp [if0, hk]⟩
theorem RaQ.ok {a b c d p r K P0 P1 P2 P3 : Int} (h : RaQ a b c d p r K P0 P1 P2 P3) (hk : K = 0) : isF a b c d = true ∧ isF P0 P1 P2 P3 = true ∧ dsc a b c d = wrap64 (wrap64 (dsc P0 P1 P2 P3 * p) * p) := by
  obtain ⟨h1, h2, h3, h4, h5⟩ := h
  subst hk
  simp only [if0, if_true] at h2 h3 h4 h5
  rw [h2, h3, h4, h5]; exact ra_law h1.symm
theorem LoQ.ok {a b c d p r K P0 P1 P2 P3 : Int} (h : LoQ a b c d p r K P0 P1 P2 P3) (hk : K = 0) : isF a b c d = true ∧ isF P0 P1 P2 P3 = true ∧ dsc P0 P1 P2 P3 = wrap64 (wrap64 (dsc a b c d * p) * p) ∧ fpc P0 P1 P2 P3 p = 0 ∧ 2 ≤ p ∧ p ≤ 97 ∧ p ∈ prp P0 P1 P2 P3 p := by
  obtain ⟨h1, h2, h3, h4, h5⟩ := h
  subst hk
  simp only [if0, if_true] at h2 h3 h4 h5
  rw [h2, h3, h4, h5]; exact lo_law h1.symm
theorem DvQ.ok {a b c d p K P0 P1 P2 P3 : Int} (h : DvQ a b c d p K P0 P1 P2 P3) (hk : K = 0) : (P0 * p = a ∧ P1 * p = b ∧ P2 * p = c ∧ P3 * p = d) ∧ isF a b c d = true := by
  obtain ⟨h1, h2, h3, h4, h5⟩ := h
  subst hk
  simp only [if0, if_true] at h2 h3 h4 h5
  rw [h2, h3, h4, h5]
  refine ⟨dv_law h1.symm, ?_⟩
  have hf : fpc a b c d p = 0 := by
    have h := h1.symm
    unfold dfc at h
    split at h
    · assumption
    · exact h
  exact (fpc_0.1 hf).1
theorem fbc_0 {a b c d p : Int} (h : fbc a b c d p = 0) : fpc a b c d p = 0 := by
  unfold fbc at h
  split at h
  · assumption
  · exact h
theorem wr_isF {a b c d : Int} (h : isF a b c d = true) : wrap64 a = a ∧ wrap64 b = b ∧ wrap64 c = c ∧ wrap64 d = d := by
  obtain ⟨ha, hb, hc, hd⟩ := isF_t h
  exact ⟨wr_in (by omega), wr_in (by omega), wr_in (by omega), wr_in (by omega)⟩
/-- The code behind the 'if' whose test lies in slot t. -/
def rhas (t : Nat) : Code → Bool
  | .cond (.tmp k) _ _ => k == t
  | .seq a b => rhas t a || rhas t b
  | .block _ c => rhas t c
  | _ => false
def rafter (t : Nat) : Code → Code
  | .seq a b => if rhas t a then b else rafter t b
  | .scope c => rafter t c
  | _ => .skip
noncomputable def rseg (t : Nat) : Code := rafter t (Tryd.f3.body.getD .skip)
theorem eqF_rf (a b c d : Int) : (a == a && b == b && c == c && d == d) = true := by simp

set_option maxRecDepth 100000 in
set_option maxHeartbeats 1000000 in
theorem forms9_any (u v : Value) (n : Nat) (g : Nat → Int) (w : World) (hu : RdX w u n g) (hv : RdX w v n g) :
    Calls Tryd.prog 24 #[u, v] w fun e w' => e = .returned (.bool true) ∧ Below w.heap.size w w' := by
  have heq := eqForm_run
  have hlen : (∃ a c, u = .slice a n c) ∧ ∃ a' c', v = .slice a' n c' := by
    refine ⟨?_, ?_⟩
    · rcases hu with ⟨rfl, rfl⟩ | ⟨b', cap', rfl, _⟩
      · exact ⟨_, _, rfl⟩
      · exact ⟨_, _, rfl⟩
    · rcases hv with ⟨rfl, rfl⟩ | ⟨b', cap', rfl, _⟩
      · exact ⟨_, _, rfl⟩
      · exact ⟨_, _, rfl⟩
  obtain ⟨⟨au, cu, rfl⟩, av, cv, rfl⟩ := hlen
  have HU := hid hu
  have HV := hid hv
  clear hu hv
  go_enter Tryd.func24, Tryd.ntmps24
  go_wp2
  go_loopw [5] (fun i wr => ∃ k : Nat, k ≤ n ∧ i = .int .i64 k ∧ Below w.heap.size w wr) (fun i _ => n - (intOf i).toNat)
  case atStart => exact ⟨0, Nat.zero_le _, rfl, Below.refl _ _⟩
  case round =>
    obtain ⟨k, hk, rfl, hB⟩ := hrel
    by_cases hlt : k < n
    · rcases HU.out with ⟨h0, rfl⟩ | ⟨b, cap, h0, hc1, hm1, hb1, hcell1⟩
      · omega
      rcases HV.out with ⟨h0', rfl⟩ | ⟨b', cap', h0', hc2, hm2, hb2, hcell2⟩
      · omega
      cases h0; cases h0'
      have C := (RdX.at4 hb1 hcell1 hlt).next hB hb1
      have D := (RdX.at4 hb2 hcell2 hlt).next hB hb2
      clear hcell1 hcell2
      unfold maxLen at hm1 hm2
      generalize g (k * 4) = x at C D
      generalize g (k * 4 + 1) = y at C D
      generalize g (k * 4 + 2) = z at C D
      generalize g (k * 4 + 3) = t at C D
      obtain ⟨_, c0, c1, c2, c3⟩ := id C
      obtain ⟨_, d0, d1, d2, d3⟩ := id D
      have er := eqF_rf x y z t
      go_wp2_with fail
      go_quiet (fail)
      go_wp2_with fail
      go_roundw
      case rel => exact ⟨k + 1, by omega, by go_num, by (repeat' (first | with_reducible exact Below.refl _ _ | with_reducible assumption | with_reducible refine gr_alloc ?_ _ | with_reducible refine gr_drew ?_ | with_reducible refine gr_drewN ?_ _ | with_reducible refine gr_trans ?_ (by assumption) | with_reducible refine gr_set ?_ ?_ _ | (simp; done) | omega | (simp; omega)))⟩
      case measure => simp [intOf]; omega
    · go_wp2
      go_ret
      exact ⟨rfl, hB⟩

set_option maxRecDepth 100000 in
set_option maxHeartbeats 1000000 in
theorem hasInt_any (u : Value) (n i : Nat) (g : Nat → Int) (x : Int) (w : World) (hu : Rd w u n g) (hi : i < n) (hx : g i = x) :
    Calls Tryd.prog 27 #[u, .int .i64 x] w fun e w' => e = .returned (.bool true) ∧ Below w.heap.size w w' := by
  rcases hu with ⟨_, hn⟩ | ⟨b, cap, rfl, hc1, hm1, hb1, hcell1⟩
  · omega
  unfold maxLen at hm1
  have HC := hid hcell1
  clear hcell1
  go_enter Tryd.func27, Tryd.ntmps27
  go_wp2
  go_loopw [5] (fun s wr => ∃ k : Nat, k ≤ i ∧ s = .int .i64 k ∧ Below w.heap.size w wr) (fun s _ => n - (intOf s).toNat)
  case atStart => exact ⟨0, Nat.zero_le _, rfl, Below.refl _ _⟩
  case round =>
    obtain ⟨k, hk, rfl, hB⟩ := hrel
    have hlt : k < n := by omega
    have c1 : wr.cell? ⟨b, k, none⟩ = some (.int .i64 (g k)) := (hB.cell (p := ⟨b, k, none⟩) hb1).trans (HC.out k hlt)
    by_cases hg : g k = x
    · have hgt : (g k == x) = true := by simpa using hg
      go_wp2_with fail
      go_ret
      exact ⟨rfl, by (repeat' (first | with_reducible exact Below.refl _ _ | with_reducible assumption | with_reducible refine gr_alloc ?_ _ | with_reducible refine gr_drew ?_ | with_reducible refine gr_drewN ?_ _ | with_reducible refine gr_trans ?_ (by assumption) | with_reducible refine gr_set ?_ ?_ _ | (simp; done) | omega | (simp; omega)))⟩
    · have hgt : (g k == x) = false := by simpa using hg
      have hki : k < i := by
        by_cases e : k = i
        · subst e; exact absurd hx hg
        · omega
      go_wp2_with fail
      go_roundw
      case rel => exact ⟨k + 1, by omega, by go_num, by (repeat' (first | with_reducible exact Below.refl _ _ | with_reducible assumption | with_reducible refine gr_alloc ?_ _ | with_reducible refine gr_drew ?_ | with_reducible refine gr_drewN ?_ _ | with_reducible refine gr_trans ?_ (by assumption) | with_reducible refine gr_set ?_ ?_ _ | (simp; done) | omega | (simp; omega)))⟩
      case measure => simp [intOf]; omega

end Go.Proofs.YtambbhldhhlfgaaDoor
