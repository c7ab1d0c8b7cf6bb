/- Chapter 5: CountKind, the program's. -/
import Derived.Test.YtambbhldhhlfgaaDoorFkPk2
namespace Go.Proofs.YtambbhldhhlfgaaDoor
open Go.RowKit

theorem num0_any (w : World) : Calls Tryd.prog 211 #[.agg #[]] w fun e w' => e = .returned (.int .i64 0) ∧ Below w.heap.size w w' := zkNumber_any w

theorem cnt0_any (p : Int) (w : World)  : Calls Tryd.prog 210 #[.agg #[], .int .i64 p] w fun e w' => e = .returned (.int .i64 (ckv p 0)) ∧ Below w.heap.size w w' := zkCount_any p w

theorem num1_any (w : World) : Calls Tryd.prog 215 #[.agg #[.int .i64 3]] w fun e w' => e = .returned (.int .i64 1) ∧ Below w.heap.size w w' := (skNumber_any 3 w).mono fun _ _ h => by simpa using h

theorem cnt1_any (p : Int) (w : World) (h2 : 2 ≤ p) (h97 : p ≤ 97) : Calls Tryd.prog 214 #[.agg #[.int .i64 3], .int .i64 p] w fun e w' => e = .returned (.int .i64 (ckv p 1)) ∧ Below w.heap.size w w' := (skCount_any 3 p w h2 h97 (by omega)).mono fun _ _ h => by simpa using h

theorem num2_any (w : World) : Calls Tryd.prog 215 #[.agg #[.int .i64 1]] w fun e w' => e = .returned (.int .i64 2) ∧ Below w.heap.size w w' := (skNumber_any 1 w).mono fun _ _ h => by simpa using h

theorem cnt2_any (p : Int) (w : World) (h2 : 2 ≤ p) (h97 : p ≤ 97) : Calls Tryd.prog 214 #[.agg #[.int .i64 1], .int .i64 p] w fun e w' => e = .returned (.int .i64 (ckv p 2)) ∧ Below w.heap.size w w' := (skCount_any 1 p w h2 h97 (by omega)).mono fun _ _ h => by simpa using h

theorem num3_any (w : World) : Calls Tryd.prog 215 #[.agg #[.int .i64 0]] w fun e w' => e = .returned (.int .i64 3) ∧ Below w.heap.size w w' := (skNumber_any 0 w).mono fun _ _ h => by simpa using h

theorem cnt3_any (p : Int) (w : World) (h2 : 2 ≤ p) (h97 : p ≤ 97) : Calls Tryd.prog 214 #[.agg #[.int .i64 0], .int .i64 p] w fun e w' => e = .returned (.int .i64 (ckv p 3)) ∧ Below w.heap.size w w' := (skCount_any 0 p w h2 h97 (by omega)).mono fun _ _ h => by simpa using h

theorem num4_any (w : World) : Calls Tryd.prog 213 #[.agg #[.int .i64 2]] w fun e w' => e = .returned (.int .i64 4) ∧ Below w.heap.size w w' := (rkNumber_any 2 w).mono fun _ _ h => by simpa using h

theorem cnt4_any (p : Int) (w : World) (h2 : 2 ≤ p) (h97 : p ≤ 97) : Calls Tryd.prog 212 #[.agg #[.int .i64 2], .int .i64 p] w fun e w' => e = .returned (.int .i64 (ckv p 4)) ∧ Below w.heap.size w w' := (rkCount_any 2 p w h2 h97 (by omega)).mono fun _ _ h => by simpa using h

theorem num5_any (w : World) : Calls Tryd.prog 213 #[.agg #[.int .i64 3]] w fun e w' => e = .returned (.int .i64 5) ∧ Below w.heap.size w w' := (rkNumber_any 3 w).mono fun _ _ h => by simpa using h

theorem cnt5_any (p : Int) (w : World) (h2 : 2 ≤ p) (h97 : p ≤ 97) : Calls Tryd.prog 212 #[.agg #[.int .i64 3], .int .i64 p] w fun e w' => e = .returned (.int .i64 (ckv p 5)) ∧ Below w.heap.size w w' := (rkCount_any 3 p w h2 h97 (by omega)).mono fun _ _ h => by simpa using h

set_option maxRecDepth 100000 in
set_option maxHeartbeats 2000000 in
theorem iCountKind_any (p k : Int) (w : World) : Calls Tryd.prog 62 #[.int .i64 p, .int .i64 k] w fun e w' => e = .returned (.tuple #[.int .i64 (ck0 p k), .int .i64 (ckc p k)]) ∧ Below w.heap.size w w' := by
  cases hp : prm p with
  | false =>
    have H := hid (show ck0 p k = 0 ∧ ckc p k = 2 by simp [ck0, ckc, hp])
    go_enter Tryd.func62, Tryd.ntmps62
    go_wp2_with (go_at_call 144; refine (isPrime_any _ _).mono ?_; rintro e w' ⟨rfl, rfl⟩)
    go_ret2
    rw [H.out.1, H.out.2]
    exact ⟨rfl, Below.refl _ _⟩
  | true =>
    obtain ⟨h2, h97⟩ := prm_rng hp
    have HP := hid hp
    go_enter Tryd.func62, Tryd.ntmps62
    go_wp2_with (go_at_call 144; refine (isPrime_any _ _).mono ?_; rintro e w' ⟨rfl, rfl⟩)
    refine (allKinds_any _).mono ?_
    rintro e w1 ⟨rfl, hB1, hU1⟩
    clear hp
    go_wp2_with fail
    go_loopw [13] (fun i wr => ∃ n : Int, 0 ≤ n ∧ n ≤ 6 ∧ i = .int .i64 n ∧ Bx wr w.heap.size #[.iface 173 (.agg #[]), .iface 177 (.agg #[.int .i64 3]), .iface 177 (.agg #[.int .i64 1]), .iface 177 (.agg #[.int .i64 0]), .iface 175 (.agg #[.int .i64 2]), .iface 175 (.agg #[.int .i64 3])] 132 ∧ Below w.heap.size w wr ∧ Hid (rng 0 5 k = true → n ≤ k)) (fun i _ => (6 - intOf i).toNat)
    case atStart => exact ⟨0, by omega, by omega, rfl, hB1, hU1, hid fun h => (rng_t h).1⟩
    case round =>
      obtain ⟨n, hn0, hn6, rfl, hB, hU, HJ⟩ := hrel
      have HU := hid hU
      clear hU hB1 hU1
      have hn : n = 0 ∨ n = 1 ∨ n = 2 ∨ n = 3 ∨ n = 4 ∨ n = 5 ∨ n = 6 := by omega
      rcases hn with rfl | rfl | rfl | rfl | rfl | rfl | rfl
      · by_cases hk : k = 0
        · subst hk
          have HE := hid (show ck0 p 0 = ckv p 0 ∧ ckc p 0 = 0 by simp [ck0, ckc, HP.out, rng])
          have hkk : ((0 : Int) == 0) = true := rfl
          have hc := hB.cell 0
          go_wp2_with fail
          refine (num0_any _).mono ?_
          rintro e w2 ⟨rfl, hb2⟩
          go_wp2_with fail
          refine (cnt0_any p _).mono ?_
          rintro e w3 ⟨rfl, hb3⟩
          go_wp2_with fail
          go_ret2
          rw [HE.out.1, HE.out.2]
          exact ⟨rfl, gr_trans (gr_trans HU.out hb2) hb3⟩
        · have hk' : ((0 : Int) == k) = false := by simpa using fun e => hk e.symm
          have HI := hid (fun h => by have := HJ.out h; omega : rng 0 5 k = true → (1 : Int) ≤ k)
          have hc := hB.cell 0
          clear hk HJ
          go_wp2_with fail
          refine (num0_any _).mono ?_
          rintro e w2 ⟨rfl, hb2⟩
          have HB2 := hid (hB.next hb2)
          clear hc hB
          go_wp2_with fail
          go_roundw
          case rel => exact ⟨1, by omega, by omega, rfl, HB2.out, gr_trans HU.out hb2, HI⟩
          case measure => simp [intOf]
      · by_cases hk : k = 1
        · subst hk
          have HE := hid (show ck0 p 1 = ckv p 1 ∧ ckc p 1 = 0 by simp [ck0, ckc, HP.out, rng])
          have hkk : ((1 : Int) == 1) = true := rfl
          have hc := hB.cell 1
          go_wp2_with fail
          refine (num1_any _).mono ?_
          rintro e w2 ⟨rfl, hb2⟩
          go_wp2_with fail
          refine (cnt1_any p _ h2 h97).mono ?_
          rintro e w3 ⟨rfl, hb3⟩
          go_wp2_with fail
          go_ret2
          rw [HE.out.1, HE.out.2]
          exact ⟨rfl, gr_trans (gr_trans HU.out hb2) hb3⟩
        · have hk' : ((1 : Int) == k) = false := by simpa using fun e => hk e.symm
          have HI := hid (fun h => by have := HJ.out h; omega : rng 0 5 k = true → (2 : Int) ≤ k)
          have hc := hB.cell 1
          clear hk HJ
          go_wp2_with fail
          refine (num1_any _).mono ?_
          rintro e w2 ⟨rfl, hb2⟩
          have HB2 := hid (hB.next hb2)
          clear hc hB
          go_wp2_with fail
          go_roundw
          case rel => exact ⟨2, by omega, by omega, rfl, HB2.out, gr_trans HU.out hb2, HI⟩
          case measure => simp [intOf]
      · by_cases hk : k = 2
        · subst hk
          have HE := hid (show ck0 p 2 = ckv p 2 ∧ ckc p 2 = 0 by simp [ck0, ckc, HP.out, rng])
          have hkk : ((2 : Int) == 2) = true := rfl
          have hc := hB.cell 2
          go_wp2_with fail
          refine (num2_any _).mono ?_
          rintro e w2 ⟨rfl, hb2⟩
          go_wp2_with fail
          refine (cnt2_any p _ h2 h97).mono ?_
          rintro e w3 ⟨rfl, hb3⟩
          go_wp2_with fail
          go_ret2
          rw [HE.out.1, HE.out.2]
          exact ⟨rfl, gr_trans (gr_trans HU.out hb2) hb3⟩
        · have hk' : ((2 : Int) == k) = false := by simpa using fun e => hk e.symm
          have HI := hid (fun h => by have := HJ.out h; omega : rng 0 5 k = true → (3 : Int) ≤ k)
          have hc := hB.cell 2
          clear hk HJ
          go_wp2_with fail
          refine (num2_any _).mono ?_
          rintro e w2 ⟨rfl, hb2⟩
          have HB2 := hid (hB.next hb2)
          clear hc hB
          go_wp2_with fail
          go_roundw
          case rel => exact ⟨3, by omega, by omega, rfl, HB2.out, gr_trans HU.out hb2, HI⟩
          case measure => simp [intOf]
      · by_cases hk : k = 3
        · subst hk
          have HE := hid (show ck0 p 3 = ckv p 3 ∧ ckc p 3 = 0 by simp [ck0, ckc, HP.out, rng])
          have hkk : ((3 : Int) == 3) = true := rfl
          have hc := hB.cell 3
          go_wp2_with fail
          refine (num3_any _).mono ?_
          rintro e w2 ⟨rfl, hb2⟩
          go_wp2_with fail
          refine (cnt3_any p _ h2 h97).mono ?_
          rintro e w3 ⟨rfl, hb3⟩
          go_wp2_with fail
          go_ret2
          rw [HE.out.1, HE.out.2]
          exact ⟨rfl, gr_trans (gr_trans HU.out hb2) hb3⟩
        · have hk' : ((3 : Int) == k) = false := by simpa using fun e => hk e.symm
          have HI := hid (fun h => by have := HJ.out h; omega : rng 0 5 k = true → (4 : Int) ≤ k)
          have hc := hB.cell 3
          clear hk HJ
          go_wp2_with fail
          refine (num3_any _).mono ?_
          rintro e w2 ⟨rfl, hb2⟩
          have HB2 := hid (hB.next hb2)
          clear hc hB
          go_wp2_with fail
          go_roundw
          case rel => exact ⟨4, by omega, by omega, rfl, HB2.out, gr_trans HU.out hb2, HI⟩
          case measure => simp [intOf]
      · by_cases hk : k = 4
        · subst hk
          have HE := hid (show ck0 p 4 = ckv p 4 ∧ ckc p 4 = 0 by simp [ck0, ckc, HP.out, rng])
          have hkk : ((4 : Int) == 4) = true := rfl
          have hc := hB.cell 4
          go_wp2_with fail
          refine (num4_any _).mono ?_
          rintro e w2 ⟨rfl, hb2⟩
          go_wp2_with fail
          refine (cnt4_any p _ h2 h97).mono ?_
          rintro e w3 ⟨rfl, hb3⟩
          go_wp2_with fail
          go_ret2
          rw [HE.out.1, HE.out.2]
          exact ⟨rfl, gr_trans (gr_trans HU.out hb2) hb3⟩
        · have hk' : ((4 : Int) == k) = false := by simpa using fun e => hk e.symm
          have HI := hid (fun h => by have := HJ.out h; omega : rng 0 5 k = true → (5 : Int) ≤ k)
          have hc := hB.cell 4
          clear hk HJ
          go_wp2_with fail
          refine (num4_any _).mono ?_
          rintro e w2 ⟨rfl, hb2⟩
          have HB2 := hid (hB.next hb2)
          clear hc hB
          go_wp2_with fail
          go_roundw
          case rel => exact ⟨5, by omega, by omega, rfl, HB2.out, gr_trans HU.out hb2, HI⟩
          case measure => simp [intOf]
      · by_cases hk : k = 5
        · subst hk
          have HE := hid (show ck0 p 5 = ckv p 5 ∧ ckc p 5 = 0 by simp [ck0, ckc, HP.out, rng])
          have hkk : ((5 : Int) == 5) = true := rfl
          have hc := hB.cell 5
          go_wp2_with fail
          refine (num5_any _).mono ?_
          rintro e w2 ⟨rfl, hb2⟩
          go_wp2_with fail
          refine (cnt5_any p _ h2 h97).mono ?_
          rintro e w3 ⟨rfl, hb3⟩
          go_wp2_with fail
          go_ret2
          rw [HE.out.1, HE.out.2]
          exact ⟨rfl, gr_trans (gr_trans HU.out hb2) hb3⟩
        · have hk' : ((5 : Int) == k) = false := by simpa using fun e => hk e.symm
          have HI := hid (fun h => by have := HJ.out h; omega : rng 0 5 k = true → (6 : Int) ≤ k)
          have hc := hB.cell 5
          clear hk HJ
          go_wp2_with fail
          refine (num5_any _).mono ?_
          rintro e w2 ⟨rfl, hb2⟩
          have HB2 := hid (hB.next hb2)
          clear hc hB
          go_wp2_with fail
          go_roundw
          case rel => exact ⟨6, by omega, by omega, rfl, HB2.out, gr_trans HU.out hb2, HI⟩
          case measure => simp [intOf]
      · have HE := hid (show ck0 p k = 0 ∧ ckc p k = 2 by
          have hr : rng 0 5 k = false := by
            cases hr : rng 0 5 k with
            | false => rfl
            | true => have := HJ.out hr; have := rng_t hr; omega
          simp [ck0, ckc, hr])
        clear HJ
        go_wp2_with fail
        go_ret2
        rw [HE.out.1, HE.out.2]
        exact ⟨rfl, HU.out⟩


end Go.Proofs.YtambbhldhhlfgaaDoor
