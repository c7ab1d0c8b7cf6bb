/- Chapter 10: the code of two definite forms, the program's. -/
import Derived.Test.YtehbkmohfipmgaaBtZ13
namespace Go.Proofs.Ytehbkmohfipmgaa
open Go.RowKit

set_option maxRecDepth 100000 in
set_option maxHeartbeats 4000000 in
theorem iCode2_any (k : Nat) (a b c x y z : Int) (w : World) (hA : At3c w k 0 a b c) (hX : At3c w k 3 x y z) : Calls Try.prog 39 #[.slice (some ⟨k, 0, none⟩) 2 2] w fun e w' => e = .returned (.int .i64 (dc2 a b c x y z)) ∧ Below w.heap.size w w' := by
  have qA := fun W => iIsQ_any a b c W
  have fA := fun W => isDef0_any a b c W
  have dA := fun W => iQd_any a b c W
  have qX := fun W => iIsQ_any x y z W
  have fX := fun W => isDef0_any x y z W
  have dX := fun W => iQd_any x y z W
  have hr : dc2 a b c x y z = if isQ a b c && isQ x y z then (if df10 a b c && (df10 x y z && (dq x y z == dq a b c)) then 0 else 2) else 1 := rfl
  generalize dc2 a b c x y z = R at hr ⊢
  generalize isQ a b c = pA at qA hr
  generalize df10 a b c = gA at fA hr
  generalize dq a b c = DA at dA hr
  generalize isQ x y z = pX at qX hr
  generalize df10 x y z = gX at fX hr
  generalize dq x y z = DX at dX hr
  have QA := hid qA; have FA := hid fA; have EA := hid dA
  have QX := hid qX; have FX := hid fX; have EX := hid dX
  have HR := hid hr
  clear hr qA fA dA qX fX dX
  go_enter Try.func39, Try.ntmps39
  go_wp2_with fail
  refine wp_loop_rounds 3 ?_
  have hU := Below.refl w.heap.size w
  obtain ⟨_, c0, c1, c2⟩ := id hA
  rw [rounds_succ]; go_wp2_with fail
  refine (QA.out _).mono ?_
  rintro e w1 ⟨rfl, hb1⟩
  have hA1 := (hA.alloc (.cells #[.int .i64 a, .int .i64 b, .int .i64 c] 25)).nx hb1
  have hX1 := (hX.alloc (.cells #[.int .i64 a, .int .i64 b, .int .i64 c] 25)).nx hb1
  have hU1 := gr_trans (gr_alloc hU (.cells #[.int .i64 a, .int .i64 b, .int .i64 c] 25)) hb1
  clear c0 c1 c2
  cases pA with
  | false =>
    go_wp2_with fail
    go_ret
    exact ⟨ret_int (by rw [HR.out]; simp), hU1⟩
  | true =>
    go_wp2_with fail
    obtain ⟨_, c0, c1, c2⟩ := id hX1
    rw [rounds_succ]; go_wp2_with fail
    refine (QX.out _).mono ?_
    rintro e w2 ⟨rfl, hb2⟩
    have hA2 := (hA1.alloc (.cells #[.int .i64 x, .int .i64 y, .int .i64 z] 25)).nx hb2
    have hX2 := (hX1.alloc (.cells #[.int .i64 x, .int .i64 y, .int .i64 z] 25)).nx hb2
    have hU2 := gr_trans (gr_alloc hU1 (.cells #[.int .i64 x, .int .i64 y, .int .i64 z] 25)) hb2
    clear c0 c1 c2
    cases pX with
    | false =>
      go_wp2_with fail
      go_ret
      exact ⟨ret_int (by rw [HR.out]; simp), hU2⟩
    | true =>
      go_wp2_with fail
      rw [rounds_succ]; go_wp2_with fail
      refine wp_loop_rounds 3 ?_
      obtain ⟨_, c0, c1, c2⟩ := id hA2
      rw [rounds_succ]; go_upto_region 10 with fail
      have K := (Arr3.new w2 a b c 25).at
      have kA := hA2.alloc (.cells #[.int .i64 a, .int .i64 b, .int .i64 c] 25)
      have kX := hX2.alloc (.cells #[.int .i64 a, .int .i64 b, .int .i64 c] 25)
      have hV := gr_alloc hU2 (.cells #[.int .i64 a, .int .i64 b, .int .i64 c] 25)
      clear c0 c1 c2
      generalize hW : w2.alloc (.cells #[.int .i64 a, .int .i64 b, .int .i64 c] 25) = W at K kA kX hV ⊢
      generalize hkk : w2.heap.size = kk at K ⊢
      clear hW hkk
      cases gA with
      | false =>
        refine wp_region_held_drew (S := (fun W => W.cell? ⟨kk, 0, none⟩ = some (.int .i64 a) ∧ W.cell? ⟨kk, 1, none⟩ = some (.int .i64 b) ∧ W.cell? ⟨kk, 2, none⟩ = some (.int .i64 c) ∧ W.cell? ⟨k, 0, none⟩ = some (.int .i64 a) ∧ W.cell? ⟨k, 1, none⟩ = some (.int .i64 b) ∧ W.cell? ⟨k, 2, none⟩ = some (.int .i64 c))) (by kernel_rfl) (by refine cells33 (o := 0) (o' := 0) ?_ ?_ <;> (repeat (first | with_reducible assumption | with_reducible refine At3c.drew ?_ | with_reducible refine At3c.alloc ?_ _ | with_reducible refine At3c.nx ?_ (by assumption)))) (fun hHeld => ?_)
        (refine wpAnyH_take (i := 0) (v := ?_) rfl (by kernel_rfl) (by kernel_rfl) (by kernel_rfl) (fun _ _ _ h => h) (Or.inl ⟨by rfl, ?_⟩) (by assumption) ?_; rotate_left 1; (focus (intro w hSw; (try dsimp only at hSw); go_simp; (first | done | with_reducible rfl))); ((try simp only [Act.put]); (try simp only [List.setIfInBounds_toArray]); (try simp only [List.set_cons_succ]); (try simp only [List.set_cons_zero])))
        (refine wpAnyH_ready (rs := [1]) (by kernel_rfl) (by simp) ?_; refine AllReadyH.cons (o := _) rfl (fun K hK => ?_) AllReadyH.nil; go_simp)
        refine (FA.out _).mono ?_
        rintro e v1 ⟨rfl, hv1⟩
        go_wp2_with fail
        refine hK.out _ _ (by refine cells33 (o := 0) (o' := 0) ?_ ?_ <;> (repeat (first | with_reducible assumption | with_reducible refine At3c.drew ?_ | with_reducible refine At3c.alloc ?_ _ | with_reducible refine At3c.nx ?_ (by assumption)))) (fun hHeld => ?_)
        clear hK K
        ((try simp only [Act.put]); (try simp only [List.setIfInBounds_toArray]); (try simp only [List.set_cons_succ]); (try simp only [List.set_cons_zero]))
        (refine wpAnyH_take (i := 2) (v := ?_) rfl (by kernel_rfl) (by kernel_rfl) (by kernel_rfl) (fun _ _ _ h => h) (Or.inl ⟨by rfl, ?_⟩) (by assumption) ?_; rotate_left 1; (focus (intro w hSw; (try dsimp only at hSw); go_simp; (first | done | with_reducible rfl))); ((try simp only [Act.put]); (try simp only [List.setIfInBounds_toArray]); (try simp only [List.set_cons_succ]); (try simp only [List.set_cons_zero]))); (refine wpAnyH_take (i := 3) (v := ?_) rfl (by kernel_rfl) (by kernel_rfl) (by kernel_rfl) (fun _ _ _ h => h) (Or.inl ⟨by rfl, ?_⟩) (by assumption) ?_; rotate_left 1; (focus (intro w hSw; (try dsimp only at hSw); go_simp; (first | done | with_reducible rfl))); ((try simp only [Act.put]); (try simp only [List.setIfInBounds_toArray]); (try simp only [List.set_cons_succ]); (try simp only [List.set_cons_zero])))
        (refine wpAnyH_take (i := 4) (v := undef) rfl (by kernel_rfl) (by kernel_rfl) (by kernel_rfl) (fun _ _ _ h => h) (Or.inr ⟨by kernel_rfl, rfl⟩) (by assumption) ?_; ((try simp only [Act.put]); (try simp only [List.setIfInBounds_toArray]); (try simp only [List.set_cons_succ]); (try simp only [List.set_cons_zero]))); (refine wpAnyH_take (i := 5) (v := undef) rfl (by kernel_rfl) (by kernel_rfl) (by kernel_rfl) (fun _ _ _ h => h) (Or.inr ⟨by kernel_rfl, rfl⟩) (by assumption) ?_; ((try simp only [Act.put]); (try simp only [List.setIfInBounds_toArray]); (try simp only [List.set_cons_succ]); (try simp only [List.set_cons_zero]))); (refine wpAnyH_take (i := 6) (v := undef) rfl (by kernel_rfl) (by kernel_rfl) (by kernel_rfl) (fun _ _ _ h => h) (Or.inr ⟨by kernel_rfl, rfl⟩) (by assumption) ?_; ((try simp only [Act.put]); (try simp only [List.setIfInBounds_toArray]); (try simp only [List.set_cons_succ]); (try simp only [List.set_cons_zero]))); (refine wpAnyH_take (i := 7) (v := undef) rfl (by kernel_rfl) (by kernel_rfl) (by kernel_rfl) (fun _ _ _ h => h) (Or.inr ⟨by kernel_rfl, rfl⟩) (by assumption) ?_; ((try simp only [Act.put]); (try simp only [List.setIfInBounds_toArray]); (try simp only [List.set_cons_succ]); (try simp only [List.set_cons_zero]))); (refine wpAnyH_take (i := 8) (v := undef) rfl (by kernel_rfl) (by kernel_rfl) (by kernel_rfl) (fun _ _ _ h => h) (Or.inr ⟨by kernel_rfl, rfl⟩) (by assumption) ?_; ((try simp only [Act.put]); (try simp only [List.setIfInBounds_toArray]); (try simp only [List.set_cons_succ]); (try simp only [List.set_cons_zero]))); (refine wpAnyH_take (i := 9) (v := undef) rfl (by kernel_rfl) (by kernel_rfl) (by kernel_rfl) (fun _ _ _ h => h) (Or.inr ⟨by kernel_rfl, rfl⟩) (by assumption) ?_; ((try simp only [Act.put]); (try simp only [List.setIfInBounds_toArray]); (try simp only [List.set_cons_succ]); (try simp only [List.set_cons_zero]))); (refine wpAnyH_take (i := 10) (v := undef) rfl (by kernel_rfl) (by kernel_rfl) (by kernel_rfl) (fun _ _ _ h => h) (Or.inr ⟨by kernel_rfl, rfl⟩) (by assumption) ?_; ((try simp only [Act.put]); (try simp only [List.setIfInBounds_toArray]); (try simp only [List.set_cons_succ]); (try simp only [List.set_cons_zero])))
        (refine wpAnyH_ready (rs := [11]) (by kernel_rfl) (by simp) ?_; refine AllReadyH.cons (o := _) rfl (fun K hK => ?_) AllReadyH.nil; go_simp)
        refine hK.out _ _ (by refine cells33 (o := 0) (o' := 0) ?_ ?_ <;> (repeat (first | with_reducible assumption | with_reducible refine At3c.drew ?_ | with_reducible refine At3c.alloc ?_ _ | with_reducible refine At3c.nx ?_ (by assumption)))) (fun hHeld => ?_)
        clear hK K
        ((try simp only [Act.put]); (try simp only [List.setIfInBounds_toArray]); (try simp only [List.set_cons_succ]); (try simp only [List.set_cons_zero]))
        refine wpAnyH_done (by kernel_rfl) ?_ _
        go_wp2_with fail
        go_ret
        exact ⟨ret_int (by rw [HR.out]; simp), gr_trans (gr_drew hV) hv1⟩
      | true =>
        go_cut [34] (fun s34 wx => s34 = .bool (false) ∧ At3c wx k 0 a b c ∧ At3c wx k 3 x y z ∧ Below w.heap.size w wx)
        case first =>
          go_region_held3 (fun W => W.cell? ⟨kk, 0, none⟩ = some (.int .i64 a) ∧ W.cell? ⟨kk, 1, none⟩ = some (.int .i64 b) ∧ W.cell? ⟨kk, 2, none⟩ = some (.int .i64 c) ∧ W.cell? ⟨k, 0, none⟩ = some (.int .i64 a) ∧ W.cell? ⟨k, 1, none⟩ = some (.int .i64 b) ∧ W.cell? ⟨k, 2, none⟩ = some (.int .i64 c)) (refine cells33 (o := 0) (o' := 0) ?_ ?_ <;> (repeat (first | with_reducible assumption | with_reducible refine At3c.drew ?_ | with_reducible refine At3c.alloc ?_ _ | with_reducible refine At3c.nx ?_ (by assumption)))) (first | (go_at_call 46; refine (FA.out _).mono ?_; rintro e v1 ⟨rfl, hv1⟩) | (go_at_call 51; refine (EA.out _).mono ?_; rintro e v2 ⟨rfl, hv2⟩))
          all_goals (go_wp2_with fail; go_meet; exact ⟨by simp, by (repeat (first | with_reducible assumption | with_reducible refine At3c.drew ?_ | with_reducible refine At3c.alloc ?_ _ | with_reducible refine At3c.nx ?_ (by assumption))), by (repeat (first | with_reducible assumption | with_reducible refine At3c.drew ?_ | with_reducible refine At3c.alloc ?_ _ | with_reducible refine At3c.nx ?_ (by assumption))), by (repeat' (first | with_reducible exact Below.refl _ _ | with_reducible assumption | with_reducible refine gr_alloc ?_ _ | with_reducible refine gr_drew ?_ | with_reducible refine gr_drewN ?_ _ | with_reducible refine gr_trans ?_ (by assumption) | with_reducible refine gr_set ?_ ?_ _ | (simp; done) | omega | (simp; omega)))⟩)
        case rest =>
          obtain ⟨rfl, hA3, hX3, hU3⟩ := hcut
          clear hV K kA kX
          generalize hww : wc = w3 at *
          clear hww
          go_wp2_with fail
          obtain ⟨_, c0, c1, c2⟩ := id hX3
          rw [rounds_succ]; go_upto_region 10 with fail
          have K := (Arr3.new w3 x y z 25).at
          have kA := hA3.alloc (.cells #[.int .i64 x, .int .i64 y, .int .i64 z] 25)
          have kX := hX3.alloc (.cells #[.int .i64 x, .int .i64 y, .int .i64 z] 25)
          have hV := gr_alloc hU3 (.cells #[.int .i64 x, .int .i64 y, .int .i64 z] 25)
          clear c0 c1 c2
          generalize hW : w3.alloc (.cells #[.int .i64 x, .int .i64 y, .int .i64 z] 25) = W at K kA kX hV ⊢
          generalize hkk : w3.heap.size = kk at K ⊢
          clear hW hkk
          cases gX with
          | false =>
            refine wp_region_held_drew (S := (fun W => W.cell? ⟨kk, 0, none⟩ = some (.int .i64 x) ∧ W.cell? ⟨kk, 1, none⟩ = some (.int .i64 y) ∧ W.cell? ⟨kk, 2, none⟩ = some (.int .i64 z) ∧ W.cell? ⟨k, 0, none⟩ = some (.int .i64 a) ∧ W.cell? ⟨k, 1, none⟩ = some (.int .i64 b) ∧ W.cell? ⟨k, 2, none⟩ = some (.int .i64 c))) (by kernel_rfl) (by refine cells33 (o := 0) (o' := 0) ?_ ?_ <;> (repeat (first | with_reducible assumption | with_reducible refine At3c.drew ?_ | with_reducible refine At3c.alloc ?_ _ | with_reducible refine At3c.nx ?_ (by assumption)))) (fun hHeld => ?_)
            (refine wpAnyH_take (i := 0) (v := ?_) rfl (by kernel_rfl) (by kernel_rfl) (by kernel_rfl) (fun _ _ _ h => h) (Or.inl ⟨by rfl, ?_⟩) (by assumption) ?_; rotate_left 1; (focus (intro w hSw; (try dsimp only at hSw); go_simp; (first | done | with_reducible rfl))); ((try simp only [Act.put]); (try simp only [List.setIfInBounds_toArray]); (try simp only [List.set_cons_succ]); (try simp only [List.set_cons_zero])))
            (refine wpAnyH_ready (rs := [1]) (by kernel_rfl) (by simp) ?_; refine AllReadyH.cons (o := _) rfl (fun K hK => ?_) AllReadyH.nil; go_simp)
            refine (FX.out _).mono ?_
            rintro e v1 ⟨rfl, hv1⟩
            go_wp2_with fail
            refine hK.out _ _ (by refine cells33 (o := 0) (o' := 0) ?_ ?_ <;> (repeat (first | with_reducible assumption | with_reducible refine At3c.drew ?_ | with_reducible refine At3c.alloc ?_ _ | with_reducible refine At3c.nx ?_ (by assumption)))) (fun hHeld => ?_)
            clear hK K
            ((try simp only [Act.put]); (try simp only [List.setIfInBounds_toArray]); (try simp only [List.set_cons_succ]); (try simp only [List.set_cons_zero]))
            (refine wpAnyH_take (i := 2) (v := ?_) rfl (by kernel_rfl) (by kernel_rfl) (by kernel_rfl) (fun _ _ _ h => h) (Or.inl ⟨by rfl, ?_⟩) (by assumption) ?_; rotate_left 1; (focus (intro w hSw; (try dsimp only at hSw); go_simp; (first | done | with_reducible rfl))); ((try simp only [Act.put]); (try simp only [List.setIfInBounds_toArray]); (try simp only [List.set_cons_succ]); (try simp only [List.set_cons_zero]))); (refine wpAnyH_take (i := 3) (v := ?_) rfl (by kernel_rfl) (by kernel_rfl) (by kernel_rfl) (fun _ _ _ h => h) (Or.inl ⟨by rfl, ?_⟩) (by assumption) ?_; rotate_left 1; (focus (intro w hSw; (try dsimp only at hSw); go_simp; (first | done | with_reducible rfl))); ((try simp only [Act.put]); (try simp only [List.setIfInBounds_toArray]); (try simp only [List.set_cons_succ]); (try simp only [List.set_cons_zero])))
            (refine wpAnyH_take (i := 4) (v := undef) rfl (by kernel_rfl) (by kernel_rfl) (by kernel_rfl) (fun _ _ _ h => h) (Or.inr ⟨by kernel_rfl, rfl⟩) (by assumption) ?_; ((try simp only [Act.put]); (try simp only [List.setIfInBounds_toArray]); (try simp only [List.set_cons_succ]); (try simp only [List.set_cons_zero]))); (refine wpAnyH_take (i := 5) (v := undef) rfl (by kernel_rfl) (by kernel_rfl) (by kernel_rfl) (fun _ _ _ h => h) (Or.inr ⟨by kernel_rfl, rfl⟩) (by assumption) ?_; ((try simp only [Act.put]); (try simp only [List.setIfInBounds_toArray]); (try simp only [List.set_cons_succ]); (try simp only [List.set_cons_zero]))); (refine wpAnyH_take (i := 6) (v := undef) rfl (by kernel_rfl) (by kernel_rfl) (by kernel_rfl) (fun _ _ _ h => h) (Or.inr ⟨by kernel_rfl, rfl⟩) (by assumption) ?_; ((try simp only [Act.put]); (try simp only [List.setIfInBounds_toArray]); (try simp only [List.set_cons_succ]); (try simp only [List.set_cons_zero]))); (refine wpAnyH_take (i := 7) (v := undef) rfl (by kernel_rfl) (by kernel_rfl) (by kernel_rfl) (fun _ _ _ h => h) (Or.inr ⟨by kernel_rfl, rfl⟩) (by assumption) ?_; ((try simp only [Act.put]); (try simp only [List.setIfInBounds_toArray]); (try simp only [List.set_cons_succ]); (try simp only [List.set_cons_zero]))); (refine wpAnyH_take (i := 8) (v := undef) rfl (by kernel_rfl) (by kernel_rfl) (by kernel_rfl) (fun _ _ _ h => h) (Or.inr ⟨by kernel_rfl, rfl⟩) (by assumption) ?_; ((try simp only [Act.put]); (try simp only [List.setIfInBounds_toArray]); (try simp only [List.set_cons_succ]); (try simp only [List.set_cons_zero]))); (refine wpAnyH_take (i := 9) (v := undef) rfl (by kernel_rfl) (by kernel_rfl) (by kernel_rfl) (fun _ _ _ h => h) (Or.inr ⟨by kernel_rfl, rfl⟩) (by assumption) ?_; ((try simp only [Act.put]); (try simp only [List.setIfInBounds_toArray]); (try simp only [List.set_cons_succ]); (try simp only [List.set_cons_zero]))); (refine wpAnyH_take (i := 10) (v := undef) rfl (by kernel_rfl) (by kernel_rfl) (by kernel_rfl) (fun _ _ _ h => h) (Or.inr ⟨by kernel_rfl, rfl⟩) (by assumption) ?_; ((try simp only [Act.put]); (try simp only [List.setIfInBounds_toArray]); (try simp only [List.set_cons_succ]); (try simp only [List.set_cons_zero])))
            (refine wpAnyH_ready (rs := [11]) (by kernel_rfl) (by simp) ?_; refine AllReadyH.cons (o := _) rfl (fun K hK => ?_) AllReadyH.nil; go_simp)
            refine hK.out _ _ (by refine cells33 (o := 0) (o' := 0) ?_ ?_ <;> (repeat (first | with_reducible assumption | with_reducible refine At3c.drew ?_ | with_reducible refine At3c.alloc ?_ _ | with_reducible refine At3c.nx ?_ (by assumption)))) (fun hHeld => ?_)
            clear hK K
            ((try simp only [Act.put]); (try simp only [List.setIfInBounds_toArray]); (try simp only [List.set_cons_succ]); (try simp only [List.set_cons_zero]))
            refine wpAnyH_done (by kernel_rfl) ?_ _
            go_wp2_with fail
            go_ret
            exact ⟨ret_int (by rw [HR.out]; simp), gr_trans (gr_drew hV) hv1⟩
          | true =>
            go_cut [34] (fun s34 wx => s34 = .bool (!(DX == DA)) ∧ At3c wx k 0 a b c ∧ At3c wx k 3 x y z ∧ Below w.heap.size w wx)
            case first =>
              go_region_held3 (fun W => W.cell? ⟨kk, 0, none⟩ = some (.int .i64 x) ∧ W.cell? ⟨kk, 1, none⟩ = some (.int .i64 y) ∧ W.cell? ⟨kk, 2, none⟩ = some (.int .i64 z) ∧ W.cell? ⟨k, 0, none⟩ = some (.int .i64 a) ∧ W.cell? ⟨k, 1, none⟩ = some (.int .i64 b) ∧ W.cell? ⟨k, 2, none⟩ = some (.int .i64 c)) (refine cells33 (o := 0) (o' := 0) ?_ ?_ <;> (repeat (first | with_reducible assumption | with_reducible refine At3c.drew ?_ | with_reducible refine At3c.alloc ?_ _ | with_reducible refine At3c.nx ?_ (by assumption)))) (first | (go_at_call 46; refine (FX.out _).mono ?_; rintro e v1 ⟨rfl, hv1⟩) | (go_at_call_of 51 (Value.int .i64 x); refine (EX.out _).mono ?_; rintro e v2 ⟨rfl, hv2⟩) | (go_at_call_of 51 (Value.int .i64 a); refine (EA.out _).mono ?_; rintro e v3 ⟨rfl, hv3⟩))
              all_goals (go_wp2_with fail; go_meet; exact ⟨by simp [bne], by (repeat (first | with_reducible assumption | with_reducible refine At3c.drew ?_ | with_reducible refine At3c.alloc ?_ _ | with_reducible refine At3c.nx ?_ (by assumption))), by (repeat (first | with_reducible assumption | with_reducible refine At3c.drew ?_ | with_reducible refine At3c.alloc ?_ _ | with_reducible refine At3c.nx ?_ (by assumption))), by (repeat' (first | with_reducible exact Below.refl _ _ | with_reducible assumption | with_reducible refine gr_alloc ?_ _ | with_reducible refine gr_drew ?_ | with_reducible refine gr_drewN ?_ _ | with_reducible refine gr_trans ?_ (by assumption) | with_reducible refine gr_set ?_ ?_ _ | (simp; done) | omega | (simp; omega)))⟩)
            case rest =>
              obtain ⟨rfl, hA4, hX4, hU4⟩ := hcut
              clear hV K kA kX
              generalize hww : wc = w4 at *
              clear hww
              cases hD : (DX == DA) with
              | false =>
                go_wp2_with fail
                go_ret
                exact ⟨ret_int (by rw [HR.out]; simp [hD]), hU4⟩
              | true =>
                go_wp2_with fail
                rw [rounds_succ]; go_wp2_with fail
                go_ret
                exact ⟨ret_int (by rw [HR.out]; simp [hD]), hU4⟩


end Go.Proofs.Ytehbkmohfipmgaa
