/- Signed numbers read by the model. -/
import Derived.Test.YtfibeifkmfnehaaDoorPn
namespace Go.Proofs.YtfibeifkmfnehaaDoor
open Go.RowKit

theorem num_bd (l : List UInt8) : -1 ≤ num l ∧ num l ≤ 1000000000 := by
  unfold num
  split
  · omega
  · rename_i h
    split
    · rename_i hd
      have h1 := nval_lt l hd
      have h2 : l.length ≤ 9 := by
        rcases Nat.lt_or_ge 9 l.length with h3 | h3
        · exact absurd (.inr (.inl h3)) h
        · exact h3
      have h3 := Nat.pow_le_pow_right (n := 10) (by decide) h2
      have e : (10 : Nat) ^ 9 = 1000000000 := by decide
      rw [e] at h3
      omega
    · omega
set_option maxRecDepth 100000 in
set_option maxHeartbeats 2000000 in
theorem sSigned_any (l : List UInt8) (w : World) (hl : l.length ≤ 1000000000000) :
    Calls Tryd.prog 27 #[.string ⟨l.toArray⟩] w fun e w' => e = .returned (.tuple #[.int .i64 ((sgn l).1), .bool (sgn l).2]) ∧ Below w.heap.size w w' := by
  by_cases h0 : l = []
  · subst h0
    have hc := fun W => sNum_any [] W (by simp)
    have e : sgn [] = (-1, false) := rfl
    have e2 : num [] = -1 := rfl
    rw [e2] at hc
    rw [e]
    have HC := hid hc
    clear hc e e2
    go_enter Tryd.func27, Tryd.ntmps27
    go_wp2_with fail
    refine (HC.out _).mono ?_
    rintro e w1 ⟨rfl, hb1⟩
    go_wp2_with fail
    go_ret2
    exact ⟨rfl, by (repeat' (first | with_reducible exact Below.refl _ _ | with_reducible assumption | with_reducible refine gr_alloc ?_ _ | with_reducible refine gr_drew ?_ | with_reducible refine gr_drewN ?_ _ | with_reducible refine gr_trans ?_ (by assumption) | with_reducible refine gr_set ?_ ?_ _ | (simp; done) | omega | (simp; omega)))⟩
  have hp : 0 < l.length := List.length_pos_iff.2 h0
  have hp' : decide (0 < (l.length : Int)) = true := by simp; omega
  have i0 : ∀ W : World, (Instr.index 9 (.string ⟨l.toArray⟩) (.int .i64 0)).run Tryd.prog W = .ok (.int .u8 (bt l 0)) W := fun W => idx_str l 0 hp W
  have hh : l.head? = some (l.getD 0 0) := by rw [List.head?_eq_getElem?]; exact bt_at hp
  by_cases h45 : l.head? = some 45
  · have e1 : (bt l 0 == 45) = true := by
      rw [hh] at h45
      have : l.getD 0 0 = 45 := by simpa using h45
      unfold bt; rw [this]; rfl
    have hs : sgn l = (-(num l.tail), decide (0 < num l.tail)) := by unfold sgn; rw [if_pos h45]
    have hc := fun W => sNum_any l.tail W (by simp; omega)
    obtain ⟨b1, b2⟩ := num_bd l.tail
    have hsl : ByteArray.extract ⟨l.toArray⟩ 1 l.length = ⟨l.tail.toArray⟩ := by
      apply ByteArray.ext
      simp [ByteArray.data_extract]
      exact List.take_of_length_le (by simp)
    rw [hs]
    generalize num l.tail = m at hc b1 b2 ⊢
    have m1 : IntKind.i64.wrap (-m) = -m := by rw [IntWalk.i64_left]; exact wr_in (by omega)
    have m2 : wrap64 (-m) = -m := wr_in (by omega)
    generalize l.tail = t at hc hsl
    have HC := hid hc
    clear hc hs h45 hh
    go_enter Tryd.func27, Tryd.ntmps27
    go_wp2_with fail
    refine (HC.out _).mono ?_
    rintro e w1 ⟨rfl, hb1⟩
    go_wp2_with fail
    go_ret2
    exact ⟨rfl, by (repeat' (first | with_reducible exact Below.refl _ _ | with_reducible assumption | with_reducible refine gr_alloc ?_ _ | with_reducible refine gr_drew ?_ | with_reducible refine gr_drewN ?_ _ | with_reducible refine gr_trans ?_ (by assumption) | with_reducible refine gr_set ?_ ?_ _ | (simp; done) | omega | (simp; omega)))⟩
  · have e1 : (bt l 0 == 45) = false := by
      have : ¬ l.getD 0 0 = 45 := fun e => h45 (by rw [hh, e])
      have : ¬ bt l 0 = 45 := fun e => this (by
        unfold bt at e
        have := congrArg UInt8.ofNat (show (l.getD 0 0).toNat = 45 by omega)
        simpa using this)
      simp [this]
    have hs : sgn l = (num l, decide (0 ≤ num l)) := by unfold sgn; rw [if_neg h45]
    have hc := fun W => sNum_any l W hl
    rw [hs]
    generalize num l = m at hc ⊢
    have HC := hid hc
    clear hc hs h45 hh
    go_enter Tryd.func27, Tryd.ntmps27
    go_wp2_with fail
    refine (HC.out _).mono ?_
    rintro e w1 ⟨rfl, hb1⟩
    go_wp2_with fail
    go_ret2
    exact ⟨rfl, by (repeat' (first | with_reducible exact Below.refl _ _ | with_reducible assumption | with_reducible refine gr_alloc ?_ _ | with_reducible refine gr_drew ?_ | with_reducible refine gr_drewN ?_ _ | with_reducible refine gr_trans ?_ (by assumption) | with_reducible refine gr_set ?_ ?_ _ | (simp; done) | omega | (simp; omega)))⟩

end Go.Proofs.YtfibeifkmfnehaaDoor
