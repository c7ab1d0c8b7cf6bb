/- Chapter 6: roots and forms below, the model's. -/
import Derived.Test.YtambbhldhhlfgaaDoorOk
import Derived.Deep.RegionHeld3
namespace Go.Proofs.YtambbhldhhlfgaaDoor
open Go.RowKit

set_option maxRecDepth 100000 in
set_option maxHeartbeats 4000000 in
theorem l06Roots_any (a b c d p : Int) (w : World) (ha : -1000 ≤ a ∧ a ≤ 1000) (hb : -1000 ≤ b ∧ b ≤ 1000) (hc : -1000 ≤ c ∧ c ≤ 1000) (hd : -1000 ≤ d ∧ d ≤ 1000) (h2 : 2 ≤ p) (h97 : p ≤ 97) :
    Calls Tryd.prog 92 #[.agg #[.int .i64 a, .int .i64 b, .int .i64 c, .int .i64 d], .int .i64 p] w (LstV (ptK (lOk a b c d p) (p.toNat + 1)).length (fun i => (ptK (lOk a b c d p) (p.toNat + 1)).getD i 0) w) := by
  have hR : ∀ r, 0 ≤ r → r ≤ p → ∀ W, Calls Tryd.prog 81 #[.agg #[.int .i64 a, .int .i64 b, .int .i64 c, .int .i64 d], .int .i64 p, .int .i64 r] W fun e w' => e = .returned (.int .i64 (tlD a b c d p r)) ∧ Below W.heap.size W w' := fun r h0 hr W => l06At_any a b c d p r W ha hb hc hd h0 (by omega)
  have hO : ∀ r, lOk a b c d p r = decide ((tlD a b c d p r).tmod p = 0) := fun r => by unfold lOk; rw [mul0_p h2]
  generalize lOk a b c d p = ok at hO ⊢
  generalize tlD a b c d p = tl at hR hO
  have HR := hid hR; have HO := hid hO
  clear hR hO ha hb hc hd
  have A0 := (Arr.new w a b c d 25).alloc (.cells #[] 2)
  have U0 := gr_alloc (gr_alloc (Below.refl w.heap.size w) (.cells #[.int .i64 a, .int .i64 b, .int .i64 c, .int .i64 d] 25)) (.cells #[] 2)
  have O0 := owns_empty (w.alloc (.cells #[.int .i64 a, .int .i64 b, .int .i64 c, .int .i64 d] 25)) (w.heap.size + 1) 2 1 (by simp)
  simp only [World.size_alloc] at O0
  have hz4 : ¬ p = 0 := by omega
  go_enter Tryd.func92, Tryd.ntmps92
  go_wp2_with fail
  go_loopw [5, 6] (fun s5 s6 wr => ∃ k : Nat, (k : Int) ≤ p + 1 ∧ s6 = .int .i64 k ∧ wr.ownsRow (w.heap.size + 1) 2 1 s5 (ptK ok k).length ((ptK ok k).map (Value.int .i64)) ∧ Arr wr w.heap.size a b c d ∧ Below w.heap.size w wr ∧ w.heap.size + 1 ≤ wr.heap.size) (fun _ s6 _ => (p + 1 - intOf s6).toNat)
  case atStart => exact ⟨0, by omega, rfl, O0, A0, U0, by simp⟩
  case round =>
    obtain ⟨k, hk, rfl, hO, hA, hU, hzr⟩ := hrel
    have HO1 := hid hO; have HU := hid hU; have HA := hid hA
    have hl := ptK_len ok k
    clear hO hU O0 U0 A0
    by_cases hle : (k : Int) ≤ p
    · obtain ⟨_, a0, a1, a2, a3, _⟩ := id hA
      have HR1 := hid (HR.out k (by omega) hle)
      obtain ⟨t1, t2⟩ := tmod_6 (tl k) p (by omega) (by omega)
      have HT := hid (HO.out k)
      generalize tl (k : Int) = t at HR1 t1 t2 HT
      by_cases ht : t.tmod p = 0
      · have ht' : (t.tmod p == 0) = true := by simpa using ht
        have HP := hid (show ok k = true by rw [HT.out]; simpa using ht)
        clear hA ht
        go_wp2_with fail
        refine (HR1.out _).mono ?_
        rintro e w2 ⟨rfl, hb2⟩
        have HA2 := hid (HA.out.next hb2)
        have HU2 := hid (gr_trans HU.out hb2)
        have HO2 := hid (row_next HO1.out hb2)
        have hz2 := hb2.size
        clear a0 a1 a2 a3 hb2
        go_wp2_with (at_builtin; refine app_i64 rfl _ _ rfl (w.heap.size + 1) rfl HO2.out rfl (by omega) (by omega) ?_)
        intro y1 W1 O1 hg1
        have HO3 := hid (pt_app HP.out O1)
        have HU1 := hid (gr_own (gr_alloc HU2.out _) hg1 (fun j hj => by have := (HO2.out.lt j hj).1; omega))
        have HA1 := hid (arr_append HO2.out (by omega) HA2.out hg1)
        have hz4 := hg1.size
        simp only [World.size_alloc] at hz4
        clear O1 hg1
        go_wp2
        go_roundw
        case rel => exact ⟨k + 1, by omega, by go_num, HO3.out, HA1.out, HU1.out, by omega⟩
        case measure => simp [intOf]; omega
      · have ht' : (t.tmod p == 0) = false := by simpa using ht
        have HP := hid (ptK_f (show ok k = false by rw [HT.out]; simpa using ht))
        clear hA ht
        go_wp2_with fail
        refine (HR1.out _).mono ?_
        rintro e w2 ⟨rfl, hb2⟩
        have HA2 := hid (HA.out.next hb2)
        have HU2 := hid (gr_trans HU.out hb2)
        have HO2 := hid (row_next HO1.out hb2)
        have hz2 := hb2.size
        clear a0 a1 a2 a3
        go_wp2_with fail
        go_roundw
        case rel => exact ⟨k + 1, by omega, by go_num, by rw [HP.out]; exact HO2.out, HA2.out, HU2.out, by omega⟩
        case measure => simp [intOf]; omega
    · have e : k = p.toNat + 1 := by omega
      subst e
      have HV := hid ((OwnV.of_owns HO1.out).base (show w.heap.size ≤ w.heap.size + 1 by omega))
      clear hA
      go_wp2
      go_ret
      exact ⟨_, rfl, HV.out, HU.out⟩

end Go.Proofs.YtambbhldhhlfgaaDoor
