/- Several texts in one: XRu1, XRu2. -/
import Derived.Test.YtikmjefbjejbkaaBbZ15
import Derived.Test.YtikmjefbjejbkaaBbZ13
import Derived.Test.YtikmjefbjejbkaaBbZ5
import Derived.Deep.LoopGhost
import Derived.Test.YtikmjefbjejbkaaBbC1r

/- Small units, in the model. -/
namespace Go.Proofs.Ytikmjefbjejbkaa
open Go.RowKit
namespace Rd
/-- The digits of k as a matrix. -/
def dg (k : Int) : Red.F4 := (k / 27 - 1, k / 9 % 3 - 1, k / 3 % 3 - 1, k % 3 - 1)
def iu (m : Red.F4) : Bool := isUnit m.1 m.2.1 m.2.2.1 m.2.2.2
/-- The units among the first n. -/
def uni : Nat → List Red.F4
  | 0 => []
  | n + 1 => if iu (dg n) then uni n ++ [dg n] else uni n
theorem uni_len : ∀ n, (uni n).length ≤ n
  | 0 => by simp [uni]
  | n + 1 => by
    have := uni_len n
    unfold uni
    split <;> simp <;> omega
end Rd
def UnOut (w : World) (e : Ending) (w' : World) : Prop := ∃ v, e = .returned v ∧ RowM w.heap.size w' v (Rd.uni 81) ∧ Below w.heap.size w w'
set_option maxRecDepth 100000 in
set_option maxHeartbeats 4000000 in
theorem sUnits_any (w : World) : Calls Try.prog 116 #[] w (UnOut w) := by
  have HR0 := hid (RowM.empty w.heap.size w (Nat.le_refl _))
  have HU0 := hid (gr_alloc (Below.refl w.heap.size w) (.cells #[] 44))
  unfold UnOut
  go_enter Try.func116, Try.ntmps116
  go_wp2_with fail
  go_loopg [1, 2] 81 (fun g s1 s2 wr => ∃ k : Nat, s2 = .int .i64 ((k : Int)) ∧ k + g = 81 ∧ RowM w.heap.size wr s1 (Rd.uni k) ∧ Below w.heap.size w wr)
  case atStart => exact ⟨0, rfl, rfl, HR0.out, HU0.out⟩
  case round =>
    obtain ⟨k, rfl, hk, hR, hU⟩ := hrel
    obtain ⟨av, cv, rfl⟩ := hR.val
    by_cases h81 : k < 81
    · have e81 : decide ((k : Int) < 81) = true := by simp; omega
      have hk0 : (0 : Int) ≤ k := by omega
      have hk1 : (k : Int) ≤ 80 := by omega
      go_upto_region 6 with fail
      obtain ⟨g, rfl⟩ : ∃ g, gk = g + 1 := ⟨gk - 1, by omega⟩
      obtain ⟨A, hA⟩ : ∃ A, A = (k : Int) / 27 - 1 := ⟨_, rfl⟩
      obtain ⟨B, hB⟩ : ∃ B, B = (k : Int) / 9 % 3 - 1 := ⟨_, rfl⟩
      obtain ⟨C, hC⟩ : ∃ C, C = (k : Int) / 3 % 3 - 1 := ⟨_, rfl⟩
      obtain ⟨D, hD⟩ : ∃ D, D = (k : Int) % 3 - 1 := ⟨_, rfl⟩
      have HD : Hid (Rd.dg k = (A, B, C, D)) := hid (by rw [hA, hB, hC, hD]; rfl)
      rw [← hA, ← hB, ← hC, ← hD]
      clear hA hB hC hD
      have A1 := Arr.new wr A B C D 44
      have R1 := RowM.next hR (gr_alloc (Below.refl wr.heap.size wr) (.cells #[.int .i64 A, .int .i64 B, .int .i64 C, .int .i64 D] 44))
      have U1 := gr_alloc hU (.cells #[.int .i64 A, .int .i64 B, .int .i64 C, .int .i64 D] 44)
      have hlen := Rd.uni_len k
      generalize hj : wr.heap.size = j at *
      generalize wr.alloc (.cells #[.int .i64 A, .int .i64 B, .int .i64 C, .int .i64 D] 44) = W1 at A1 R1 U1 ⊢
      clear hj
      obtain ⟨_, a0, a1, a2, a3, _⟩ := id A1
      go_wp2_with fail
      refine (sUnit_any A B C D _).mono ?_
      rintro e w2 ⟨rfl, hb2⟩
      have A2 := A1.next hb2; have R2 := RowM.next R1 hb2; have U2 := gr_trans U1 hb2
      clear a0 a1 a2 a3 A1 R1 U1 hb2 hR hU
      have hs2 := U2.size
      have HR2 := hid R2; have HU2 := hid U2
      clear R2 U2
      have HK := hid hk; have HL := hid hlen
      clear hk hlen
      cases hz : isUnit A B C D with
      | false =>
        have hun : Rd.uni (k + 1) = Rd.uni k := by rw [Rd.uni, if_neg]; rw [HD.out]; show ¬ isUnit A B C D = true; rw [hz]; exact Bool.noConfusion
        go_wp2_with fail
        go_roundg g
        case measure => have := HK.out; omega
        case rel => exact ⟨k + 1, by rw [show ((k : Int) + 1) = ((k + 1 : Nat) : Int) by push_cast; rfl], by have := HK.out; omega, by rw [hun]; exact HR2.out, HU2.out⟩
      | true =>
        have hun : Rd.uni (k + 1) = Rd.uni k ++ [(A, B, C, D)] := by rw [Rd.uni, if_pos]; rw [HD.out]; rw [HD.out]; exact hz
        obtain ⟨_, a0, a1, a2, a3, _⟩ := id A2
        go_wp2_with (at_builtin; refine app_m rfl _ _ rfl w.heap.size rfl HR2.out rfl (by have := HL.out; omega) hs2 ?_)
        intro v' w6 hrow hgrow
        have hU6 := RowM.grown (W := w) (RowM.next HR2.out (gr_alloc (Below.refl _ _) _)) (gr_alloc HU2.out _) hgrow (Nat.le_refl _)
        go_wp2_with fail
        go_roundg g
        case measure => have := HK.out; omega
        case rel => exact ⟨k + 1, by rw [show ((k : Int) + 1) = ((k + 1 : Nat) : Int) by push_cast; rfl], by have := HK.out; omega, by rw [hun]; exact hrow, hU6⟩
    · have e81 : decide ((k : Int) < 81) = false := by simp; omega
      have hk' : k = 81 := by omega
      subst hk'
      go_wp2_with fail
      go_ret
      exact ⟨_, rfl, hR, hU⟩

end Go.Proofs.Ytikmjefbjejbkaa

/- Small units, in the program. -/
namespace Go.Proofs.Ytikmjefbjejbkaa
open Go.RowKit

set_option maxRecDepth 100000 in
set_option maxHeartbeats 4000000 in
theorem iUnits_any (w : World) : Calls Try.prog 115 #[] w (UnOut w) := by
  have HR0 := hid (RowM.nil w.heap.size w)
  have HU0 := hid (Below.refl w.heap.size w)
  unfold UnOut
  go_enter Try.func115, Try.ntmps115
  go_wp2_with fail
  go_loopg [1, 6] 81 (fun g s1 s2 wr => ∃ k : Nat, s2 = .int .i64 ((k : Int)) ∧ k + g = 81 ∧ RowM w.heap.size wr s1 (Rd.uni k) ∧ Below w.heap.size w wr)
  case atStart => exact ⟨0, rfl, rfl, HR0.out, HU0.out⟩
  case round =>
    obtain ⟨k, rfl, hk, hR, hU⟩ := hrel
    obtain ⟨av, cv, rfl⟩ := hR.val
    by_cases h81 : k < 81
    · have e81 : decide ((k : Int) < 81) = true := by simp; omega
      have hk0 : (0 : Int) ≤ k := by omega
      have hk1 : (k : Int) ≤ 80 := by omega
      go_upto_region 6 with fail
      obtain ⟨g, rfl⟩ : ∃ g, gk = g + 1 := ⟨gk - 1, by omega⟩
      obtain ⟨A, hA⟩ : ∃ A, A = (k : Int) / 27 - 1 := ⟨_, rfl⟩
      obtain ⟨B, hB⟩ : ∃ B, B = (k : Int) / 9 % 3 - 1 := ⟨_, rfl⟩
      obtain ⟨C, hC⟩ : ∃ C, C = (k : Int) / 3 % 3 - 1 := ⟨_, rfl⟩
      obtain ⟨D, hD⟩ : ∃ D, D = (k : Int) % 3 - 1 := ⟨_, rfl⟩
      have HD : Hid (Rd.dg k = (A, B, C, D)) := hid (by rw [hA, hB, hC, hD]; rfl)
      rw [← hA, ← hB, ← hC, ← hD]
      have qA : -1000 ≤ A ∧ A ≤ 1000 := by omega
      have qB : -1000 ≤ B ∧ B ≤ 1000 := by omega
      have qC : -1000 ≤ C ∧ C ≤ 1000 := by omega
      have qD : -1000 ≤ D ∧ D ≤ 1000 := by omega
      have HI := hid (fun W => iInvU_any A B C D W qA qB qC qD)
      clear hA hB hC hD qA qB qC qD
      have A1 := Arr.new wr A B C D 44
      have R1 := RowM.next hR (gr_alloc (Below.refl wr.heap.size wr) (.cells #[.int .i64 A, .int .i64 B, .int .i64 C, .int .i64 D] 44))
      have U1 := gr_alloc hU (.cells #[.int .i64 A, .int .i64 B, .int .i64 C, .int .i64 D] 44)
      have hlen := Rd.uni_len k
      generalize hj : wr.heap.size = j at *
      generalize wr.alloc (.cells #[.int .i64 A, .int .i64 B, .int .i64 C, .int .i64 D] 44) = W1 at A1 R1 U1 ⊢
      clear hj
      obtain ⟨_, a0, a1, a2, a3, _⟩ := id A1
      go_wp2_with fail
      generalize ifB (isUnit A B C D) (det A B C D * D) = i0 at HI
      generalize ifB (isUnit A B C D) (-(det A B C D * B)) = i1 at HI
      generalize ifB (isUnit A B C D) (-(det A B C D * C)) = i2 at HI
      generalize ifB (isUnit A B C D) (det A B C D * A) = i3 at HI
      refine (HI.out _).mono ?_
      rintro e w2 ⟨rfl, hb2⟩
      have A2 := (A1.next hb2).alloc (.cells #[.int .i64 i0, .int .i64 i1, .int .i64 i2, .int .i64 i3] 44); have R2 := RowM.next (RowM.next R1 hb2) (gr_alloc (Below.refl _ _) (.cells #[.int .i64 i0, .int .i64 i1, .int .i64 i2, .int .i64 i3] 44)); have U2 := gr_alloc (gr_trans U1 hb2) (.cells #[.int .i64 i0, .int .i64 i1, .int .i64 i2, .int .i64 i3] 44)
      go_upto_region 7 with fail
      generalize w2.alloc (.cells #[.int .i64 i0, .int .i64 i1, .int .i64 i2, .int .i64 i3] 44) = W2 at A2 R2 U2 ⊢
      clear a0 a1 a2 a3 A1 R1 U1 hb2 hR hU
      have hs2 := U2.size
      have HR2 := hid R2; have HU2 := hid U2
      clear R2 U2
      have HK := hid hk; have HL := hid hlen
      clear hk hlen
      cases hz : isUnit A B C D with
      | false =>
        have hun : Rd.uni (k + 1) = Rd.uni k := by rw [Rd.uni, if_neg]; rw [HD.out]; show ¬ isUnit A B C D = true; rw [hz]; exact Bool.noConfusion
        go_wp2_with fail
        go_roundg g
        case measure => have := HK.out; omega
        case rel => exact ⟨k + 1, by rw [show ((k : Int) + 1) = ((k + 1 : Nat) : Int) by push_cast; rfl], by have := HK.out; omega, by rw [hun]; exact HR2.out, HU2.out⟩
      | true =>
        have hun : Rd.uni (k + 1) = Rd.uni k ++ [(A, B, C, D)] := by rw [Rd.uni, if_pos]; rw [HD.out]; rw [HD.out]; exact hz
        obtain ⟨_, a0, a1, a2, a3, _⟩ := id A2
        go_wp2_with (at_builtin; refine app_m rfl _ _ rfl w.heap.size rfl HR2.out rfl (by have := HL.out; omega) hs2 ?_)
        intro v' w6 hrow hgrow
        have hU6 := RowM.grown (W := w) (RowM.next HR2.out (gr_alloc (Below.refl _ _) _)) (gr_alloc HU2.out _) hgrow (Nat.le_refl _)
        go_wp2_with fail
        go_roundg g
        case measure => have := HK.out; omega
        case rel => exact ⟨k + 1, by rw [show ((k : Int) + 1) = ((k + 1 : Nat) : Int) by push_cast; rfl], by have := HK.out; omega, by rw [hun]; exact hrow, hU6⟩
    · have e81 : decide ((k : Int) < 81) = false := by simp; omega
      have hk' : k = 81 := by omega
      subst hk'
      go_wp2_with fail
      go_ret
      exact ⟨_, rfl, hR, hU⟩

end Go.Proofs.Ytikmjefbjejbkaa
