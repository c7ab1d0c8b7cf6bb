/- Chapter 10: the code of one definite form, of two, the model's. -/
import Derived.Test.YtehbkmohfipmgaaBtZ13
namespace Go.Proofs.Ytehbkmohfipmgaa
open Go.RowKit

theorem cells30 {W : World} {k o : Nat} {a b c : Int} (K : At3c W k o a b c) : W.cell? ⟨k, o, none⟩ = some (.int .i64 a) ∧ W.cell? ⟨k, o + 1, none⟩ = some (.int .i64 b) ∧ W.cell? ⟨k, o + 2, none⟩ = some (.int .i64 c) := ⟨K.c0, K.c1, K.c2⟩

set_option maxRecDepth 100000 in
set_option maxHeartbeats 4000000 in
theorem sCode1_any (k : Nat) (a b c : Int) (w : World) (hA : At3c w k 0 a b c) : Calls Try.prog 42 #[.slice (some ⟨k, 0, none⟩) 1 1] w fun e w' => e = .returned (.int .i64 (dc1 a b c)) ∧ Below w.heap.size w w' := by
  have qA := fun W => sIsQ0_any a b c W
  have fA := fun W => sDef0_any a b c W
  have dA := fun W => sQd_any a b c W
  have hr : dc1 a b c = if isQ a b c then (if df10 a b c then 0 else 2) else 1 := rfl
  generalize dc1 a b c = R at hr ⊢
  generalize isQ a b c = pA at qA hr
  generalize df10 a b c = gA at fA hr
  generalize dq a b c = DA at dA
  have QA := hid qA; have FA := hid fA; have EA := hid dA
  have HR := hid hr
  clear hr qA fA dA
  go_enter Try.func42, Try.ntmps42
  go_wp2_with fail
  refine wp_loop_rounds 2 ?_
  have hU := Below.refl w.heap.size w
  obtain ⟨_, c0, c1, c2⟩ := id hA
  rw [rounds_succ]; go_wp2_with fail
  refine (QA.out _).mono ?_
  rintro e w1 ⟨rfl, hb1⟩
  have hA1 := hA.nx hb1
  have hU1 := gr_trans hU hb1
  clear c0 c1 c2
  cases pA with
  | false =>
    go_wp2_with fail
    go_ret
    exact ⟨ret_int (by rw [HR.out]; simp), hU1⟩
  | true =>
    go_wp2_with fail
    rw [rounds_succ]; go_wp2_with fail
    refine wp_loop_rounds 2 ?_
    obtain ⟨_, c0, c1, c2⟩ := id hA1
    rw [rounds_succ]; go_upto_region 9 with fail
    have kA := hA1
    have hV := hU1
    clear c0 c1 c2
    cases gA with
    | false =>
      refine wp_region_held_drew (S := (fun W => W.cell? ⟨k, 0, none⟩ = some (.int .i64 a) ∧ W.cell? ⟨k, 1, none⟩ = some (.int .i64 b) ∧ W.cell? ⟨k, 2, none⟩ = some (.int .i64 c))) (by kernel_rfl) (by refine cells30 (o := 0) ?_ <;> (repeat (first | with_reducible assumption | with_reducible refine At3c.drew ?_ | with_reducible refine At3c.alloc ?_ _ | with_reducible refine At3c.nx ?_ (by assumption)))) (fun hHeld => ?_)
      (refine wpAnyH_take (i := 0) (v := ?_) rfl (by kernel_rfl) (by kernel_rfl) (by kernel_rfl) (fun _ _ _ h => h) (Or.inl ⟨by rfl, ?_⟩) (by assumption) ?_; rotate_left 1; (focus (intro w hSw; (try dsimp only at hSw); go_simp; (first | done | with_reducible rfl))); ((try simp only [Act.put]); (try simp only [List.setIfInBounds_toArray]); (try simp only [List.set_cons_succ]); (try simp only [List.set_cons_zero]))); (refine wpAnyH_take (i := 1) (v := ?_) rfl (by kernel_rfl) (by kernel_rfl) (by kernel_rfl) (fun _ _ _ h => h) (Or.inl ⟨by rfl, ?_⟩) (by assumption) ?_; rotate_left 1; (focus (intro w hSw; (try dsimp only at hSw); go_simp; (first | done | with_reducible rfl))); ((try simp only [Act.put]); (try simp only [List.setIfInBounds_toArray]); (try simp only [List.set_cons_succ]); (try simp only [List.set_cons_zero]))); (refine wpAnyH_take (i := 2) (v := ?_) rfl (by kernel_rfl) (by kernel_rfl) (by kernel_rfl) (fun _ _ _ h => h) (Or.inl ⟨by rfl, ?_⟩) (by assumption) ?_; rotate_left 1; (focus (intro w hSw; (try dsimp only at hSw); go_simp; (first | done | with_reducible rfl))); ((try simp only [Act.put]); (try simp only [List.setIfInBounds_toArray]); (try simp only [List.set_cons_succ]); (try simp only [List.set_cons_zero]))); (refine wpAnyH_take (i := 3) (v := ?_) rfl (by kernel_rfl) (by kernel_rfl) (by kernel_rfl) (fun _ _ _ h => h) (Or.inl ⟨by rfl, ?_⟩) (by assumption) ?_; rotate_left 1; (focus (intro w hSw; (try dsimp only at hSw); go_simp; (first | done | with_reducible rfl))); ((try simp only [Act.put]); (try simp only [List.setIfInBounds_toArray]); (try simp only [List.set_cons_succ]); (try simp only [List.set_cons_zero])))
      (refine wpAnyH_ready (rs := [4]) (by kernel_rfl) (by simp) ?_; refine AllReadyH.cons (o := _) rfl (fun K hK => ?_) AllReadyH.nil; go_simp)
      refine (FA.out _).mono ?_
      rintro e v1 ⟨rfl, hv1⟩
      go_wp2_with fail
      refine hK.out _ _ (by refine cells30 (o := 0) ?_ <;> (repeat (first | with_reducible assumption | with_reducible refine At3c.drew ?_ | with_reducible refine At3c.alloc ?_ _ | with_reducible refine At3c.nx ?_ (by assumption)))) (fun hHeld => ?_)
      clear hK K
      ((try simp only [Act.put]); (try simp only [List.setIfInBounds_toArray]); (try simp only [List.set_cons_succ]); (try simp only [List.set_cons_zero]))
      (refine wpAnyH_take (i := 5) (v := ?_) rfl (by kernel_rfl) (by kernel_rfl) (by kernel_rfl) (fun _ _ _ h => h) (Or.inl ⟨by rfl, ?_⟩) (by assumption) ?_; rotate_left 1; (focus (intro w hSw; (try dsimp only at hSw); go_simp; (first | done | with_reducible rfl))); ((try simp only [Act.put]); (try simp only [List.setIfInBounds_toArray]); (try simp only [List.set_cons_succ]); (try simp only [List.set_cons_zero]))); (refine wpAnyH_take (i := 6) (v := ?_) rfl (by kernel_rfl) (by kernel_rfl) (by kernel_rfl) (fun _ _ _ h => h) (Or.inl ⟨by rfl, ?_⟩) (by assumption) ?_; rotate_left 1; (focus (intro w hSw; (try dsimp only at hSw); go_simp; (first | done | with_reducible rfl))); ((try simp only [Act.put]); (try simp only [List.setIfInBounds_toArray]); (try simp only [List.set_cons_succ]); (try simp only [List.set_cons_zero])))
      (refine wpAnyH_take (i := 7) (v := undef) rfl (by kernel_rfl) (by kernel_rfl) (by kernel_rfl) (fun _ _ _ h => h) (Or.inr ⟨by kernel_rfl, rfl⟩) (by assumption) ?_; ((try simp only [Act.put]); (try simp only [List.setIfInBounds_toArray]); (try simp only [List.set_cons_succ]); (try simp only [List.set_cons_zero]))); (refine wpAnyH_take (i := 8) (v := undef) rfl (by kernel_rfl) (by kernel_rfl) (by kernel_rfl) (fun _ _ _ h => h) (Or.inr ⟨by kernel_rfl, rfl⟩) (by assumption) ?_; ((try simp only [Act.put]); (try simp only [List.setIfInBounds_toArray]); (try simp only [List.set_cons_succ]); (try simp only [List.set_cons_zero]))); (refine wpAnyH_take (i := 9) (v := undef) rfl (by kernel_rfl) (by kernel_rfl) (by kernel_rfl) (fun _ _ _ h => h) (Or.inr ⟨by kernel_rfl, rfl⟩) (by assumption) ?_; ((try simp only [Act.put]); (try simp only [List.setIfInBounds_toArray]); (try simp only [List.set_cons_succ]); (try simp only [List.set_cons_zero]))); (refine wpAnyH_take (i := 10) (v := undef) rfl (by kernel_rfl) (by kernel_rfl) (by kernel_rfl) (fun _ _ _ h => h) (Or.inr ⟨by kernel_rfl, rfl⟩) (by assumption) ?_; ((try simp only [Act.put]); (try simp only [List.setIfInBounds_toArray]); (try simp only [List.set_cons_succ]); (try simp only [List.set_cons_zero]))); (refine wpAnyH_take (i := 11) (v := undef) rfl (by kernel_rfl) (by kernel_rfl) (by kernel_rfl) (fun _ _ _ h => h) (Or.inr ⟨by kernel_rfl, rfl⟩) (by assumption) ?_; ((try simp only [Act.put]); (try simp only [List.setIfInBounds_toArray]); (try simp only [List.set_cons_succ]); (try simp only [List.set_cons_zero]))); (refine wpAnyH_take (i := 12) (v := undef) rfl (by kernel_rfl) (by kernel_rfl) (by kernel_rfl) (fun _ _ _ h => h) (Or.inr ⟨by kernel_rfl, rfl⟩) (by assumption) ?_; ((try simp only [Act.put]); (try simp only [List.setIfInBounds_toArray]); (try simp only [List.set_cons_succ]); (try simp only [List.set_cons_zero]))); (refine wpAnyH_take (i := 13) (v := undef) rfl (by kernel_rfl) (by kernel_rfl) (by kernel_rfl) (fun _ _ _ h => h) (Or.inr ⟨by kernel_rfl, rfl⟩) (by assumption) ?_; ((try simp only [Act.put]); (try simp only [List.setIfInBounds_toArray]); (try simp only [List.set_cons_succ]); (try simp only [List.set_cons_zero]))); (refine wpAnyH_take (i := 14) (v := undef) rfl (by kernel_rfl) (by kernel_rfl) (by kernel_rfl) (fun _ _ _ h => h) (Or.inr ⟨by kernel_rfl, rfl⟩) (by assumption) ?_; ((try simp only [Act.put]); (try simp only [List.setIfInBounds_toArray]); (try simp only [List.set_cons_succ]); (try simp only [List.set_cons_zero]))); (refine wpAnyH_take (i := 15) (v := undef) rfl (by kernel_rfl) (by kernel_rfl) (by kernel_rfl) (fun _ _ _ h => h) (Or.inr ⟨by kernel_rfl, rfl⟩) (by assumption) ?_; ((try simp only [Act.put]); (try simp only [List.setIfInBounds_toArray]); (try simp only [List.set_cons_succ]); (try simp only [List.set_cons_zero]))); (refine wpAnyH_take (i := 16) (v := undef) rfl (by kernel_rfl) (by kernel_rfl) (by kernel_rfl) (fun _ _ _ h => h) (Or.inr ⟨by kernel_rfl, rfl⟩) (by assumption) ?_; ((try simp only [Act.put]); (try simp only [List.setIfInBounds_toArray]); (try simp only [List.set_cons_succ]); (try simp only [List.set_cons_zero])))
      (refine wpAnyH_ready (rs := [17]) (by kernel_rfl) (by simp) ?_; refine AllReadyH.cons (o := _) rfl (fun K hK => ?_) AllReadyH.nil; go_simp)
      refine hK.out _ _ (by refine cells30 (o := 0) ?_ <;> (repeat (first | with_reducible assumption | with_reducible refine At3c.drew ?_ | with_reducible refine At3c.alloc ?_ _ | with_reducible refine At3c.nx ?_ (by assumption)))) (fun hHeld => ?_)
      clear hK K
      ((try simp only [Act.put]); (try simp only [List.setIfInBounds_toArray]); (try simp only [List.set_cons_succ]); (try simp only [List.set_cons_zero]))
      refine wpAnyH_done (by kernel_rfl) ?_ _
      go_wp2_with fail
      go_ret
      exact ⟨ret_int (by rw [HR.out]; simp), gr_trans (gr_drew hV) hv1⟩
    | true =>
      go_cut [40] (fun s40 wx => s40 = .bool (false) ∧ At3c wx k 0 a b c ∧ Below w.heap.size w wx)
      case first =>
        go_region_held3 (fun W => W.cell? ⟨k, 0, none⟩ = some (.int .i64 a) ∧ W.cell? ⟨k, 1, none⟩ = some (.int .i64 b) ∧ W.cell? ⟨k, 2, none⟩ = some (.int .i64 c)) (refine cells30 (o := 0) ?_ <;> (repeat (first | with_reducible assumption | with_reducible refine At3c.drew ?_ | with_reducible refine At3c.alloc ?_ _ | with_reducible refine At3c.nx ?_ (by assumption)))) (first | (go_at_call 48; refine (FA.out _).mono ?_; rintro e v1 ⟨rfl, hv1⟩) | (go_at_call 73; refine (EA.out _).mono ?_; rintro e v2 ⟨rfl, hv2⟩))
        all_goals (go_wp2_with fail; go_meet; exact ⟨by simp, by (repeat (first | with_reducible assumption | with_reducible refine At3c.drew ?_ | with_reducible refine At3c.alloc ?_ _ | with_reducible refine At3c.nx ?_ (by assumption))), by (repeat' (first | with_reducible exact Below.refl _ _ | with_reducible assumption | with_reducible refine gr_alloc ?_ _ | with_reducible refine gr_drew ?_ | with_reducible refine gr_drewN ?_ _ | with_reducible refine gr_trans ?_ (by assumption) | with_reducible refine gr_set ?_ ?_ _ | (simp; done) | omega | (simp; omega)))⟩)
      case rest =>
        obtain ⟨rfl, hA2, hU2⟩ := hcut
        clear hV kA
        generalize hww : wc = w2 at *
        clear hww
        go_wp2_with fail
        rw [rounds_succ]; go_wp2_with fail
        go_ret
        exact ⟨ret_int (by rw [HR.out]; simp), hU2⟩

set_option maxRecDepth 100000 in
set_option maxHeartbeats 4000000 in
theorem sCode2_any (k : Nat) (a b c x y z : Int) (w : World) (hA : At3c w k 0 a b c) (hX : At3c w k 3 x y z) : Calls Try.prog 42 #[.slice (some ⟨k, 0, none⟩) 2 2] w fun e w' => e = .returned (.int .i64 (dc2 a b c x y z)) ∧ Below w.heap.size w w' := by
  have qA := fun W => sIsQ0_any a b c W
  have fA := fun W => sDef0_any a b c W
  have dA := fun W => sQd_any a b c W
  have qX := fun W => sIsQ0_any x y z W
  have fX := fun W => sDef0_any x y z W
  have dX := fun W => sQd_any x y z W
  have hr : dc2 a b c x y z = if isQ a b c && isQ x y z then (if df10 a b c && (df10 x y z && (dq x y z == dq a b c)) then 0 else 2) else 1 := rfl
  generalize dc2 a b c x y z = R at hr ⊢
  generalize isQ a b c = pA at qA hr
  generalize df10 a b c = gA at fA hr
  generalize dq a b c = DA at dA hr
  generalize isQ x y z = pX at qX hr
  generalize df10 x y z = gX at fX hr
  generalize dq x y z = DX at dX hr
  have QA := hid qA; have FA := hid fA; have EA := hid dA
  have QX := hid qX; have FX := hid fX; have EX := hid dX
  have HR := hid hr
  clear hr qA fA dA qX fX dX
  go_enter Try.func42, Try.ntmps42
  go_wp2_with fail
  refine wp_loop_rounds 3 ?_
  have hU := Below.refl w.heap.size w
  obtain ⟨_, c0, c1, c2⟩ := id hA
  rw [rounds_succ]; go_wp2_with fail
  refine (QA.out _).mono ?_
  rintro e w1 ⟨rfl, hb1⟩
  have hA1 := hA.nx hb1
  have hX1 := hX.nx hb1
  have hU1 := gr_trans hU hb1
  clear c0 c1 c2
  cases pA with
  | false =>
    go_wp2_with fail
    go_ret
    exact ⟨ret_int (by rw [HR.out]; simp), hU1⟩
  | true =>
    go_wp2_with fail
    obtain ⟨_, c0, c1, c2⟩ := id hX1
    rw [rounds_succ]; go_wp2_with fail
    refine (QX.out _).mono ?_
    rintro e w2 ⟨rfl, hb2⟩
    have hA2 := hA1.nx hb2
    have hX2 := hX1.nx hb2
    have hU2 := gr_trans hU1 hb2
    clear c0 c1 c2
    cases pX with
    | false =>
      go_wp2_with fail
      go_ret
      exact ⟨ret_int (by rw [HR.out]; simp), hU2⟩
    | true =>
      go_wp2_with fail
      rw [rounds_succ]; go_wp2_with fail
      refine wp_loop_rounds 3 ?_
      obtain ⟨_, c0, c1, c2⟩ := id hA2
      rw [rounds_succ]; go_upto_region 9 with fail
      have kA := hA2
      have kX := hX2
      have hV := hU2
      clear c0 c1 c2
      cases gA with
      | false =>
        refine wp_region_held_drew (S := (fun W => W.cell? ⟨k, 0, none⟩ = some (.int .i64 a) ∧ W.cell? ⟨k, 1, none⟩ = some (.int .i64 b) ∧ W.cell? ⟨k, 2, none⟩ = some (.int .i64 c))) (by kernel_rfl) (by refine cells30 (o := 0) ?_ <;> (repeat (first | with_reducible assumption | with_reducible refine At3c.drew ?_ | with_reducible refine At3c.alloc ?_ _ | with_reducible refine At3c.nx ?_ (by assumption)))) (fun hHeld => ?_)
        (refine wpAnyH_take (i := 0) (v := ?_) rfl (by kernel_rfl) (by kernel_rfl) (by kernel_rfl) (fun _ _ _ h => h) (Or.inl ⟨by rfl, ?_⟩) (by assumption) ?_; rotate_left 1; (focus (intro w hSw; (try dsimp only at hSw); go_simp; (first | done | with_reducible rfl))); ((try simp only [Act.put]); (try simp only [List.setIfInBounds_toArray]); (try simp only [List.set_cons_succ]); (try simp only [List.set_cons_zero]))); (refine wpAnyH_take (i := 1) (v := ?_) rfl (by kernel_rfl) (by kernel_rfl) (by kernel_rfl) (fun _ _ _ h => h) (Or.inl ⟨by rfl, ?_⟩) (by assumption) ?_; rotate_left 1; (focus (intro w hSw; (try dsimp only at hSw); go_simp; (first | done | with_reducible rfl))); ((try simp only [Act.put]); (try simp only [List.setIfInBounds_toArray]); (try simp only [List.set_cons_succ]); (try simp only [List.set_cons_zero]))); (refine wpAnyH_take (i := 2) (v := ?_) rfl (by kernel_rfl) (by kernel_rfl) (by kernel_rfl) (fun _ _ _ h => h) (Or.inl ⟨by rfl, ?_⟩) (by assumption) ?_; rotate_left 1; (focus (intro w hSw; (try dsimp only at hSw); go_simp; (first | done | with_reducible rfl))); ((try simp only [Act.put]); (try simp only [List.setIfInBounds_toArray]); (try simp only [List.set_cons_succ]); (try simp only [List.set_cons_zero]))); (refine wpAnyH_take (i := 3) (v := ?_) rfl (by kernel_rfl) (by kernel_rfl) (by kernel_rfl) (fun _ _ _ h => h) (Or.inl ⟨by rfl, ?_⟩) (by assumption) ?_; rotate_left 1; (focus (intro w hSw; (try dsimp only at hSw); go_simp; (first | done | with_reducible rfl))); ((try simp only [Act.put]); (try simp only [List.setIfInBounds_toArray]); (try simp only [List.set_cons_succ]); (try simp only [List.set_cons_zero])))
        (refine wpAnyH_ready (rs := [4]) (by kernel_rfl) (by simp) ?_; refine AllReadyH.cons (o := _) rfl (fun K hK => ?_) AllReadyH.nil; go_simp)
        refine (FA.out _).mono ?_
        rintro e v1 ⟨rfl, hv1⟩
        go_wp2_with fail
        refine hK.out _ _ (by refine cells30 (o := 0) ?_ <;> (repeat (first | with_reducible assumption | with_reducible refine At3c.drew ?_ | with_reducible refine At3c.alloc ?_ _ | with_reducible refine At3c.nx ?_ (by assumption)))) (fun hHeld => ?_)
        clear hK K
        ((try simp only [Act.put]); (try simp only [List.setIfInBounds_toArray]); (try simp only [List.set_cons_succ]); (try simp only [List.set_cons_zero]))
        (refine wpAnyH_take (i := 5) (v := ?_) rfl (by kernel_rfl) (by kernel_rfl) (by kernel_rfl) (fun _ _ _ h => h) (Or.inl ⟨by rfl, ?_⟩) (by assumption) ?_; rotate_left 1; (focus (intro w hSw; (try dsimp only at hSw); go_simp; (first | done | with_reducible rfl))); ((try simp only [Act.put]); (try simp only [List.setIfInBounds_toArray]); (try simp only [List.set_cons_succ]); (try simp only [List.set_cons_zero]))); (refine wpAnyH_take (i := 6) (v := ?_) rfl (by kernel_rfl) (by kernel_rfl) (by kernel_rfl) (fun _ _ _ h => h) (Or.inl ⟨by rfl, ?_⟩) (by assumption) ?_; rotate_left 1; (focus (intro w hSw; (try dsimp only at hSw); go_simp; (first | done | with_reducible rfl))); ((try simp only [Act.put]); (try simp only [List.setIfInBounds_toArray]); (try simp only [List.set_cons_succ]); (try simp only [List.set_cons_zero])))
        (refine wpAnyH_take (i := 7) (v := undef) rfl (by kernel_rfl) (by kernel_rfl) (by kernel_rfl) (fun _ _ _ h => h) (Or.inr ⟨by kernel_rfl, rfl⟩) (by assumption) ?_; ((try simp only [Act.put]); (try simp only [List.setIfInBounds_toArray]); (try simp only [List.set_cons_succ]); (try simp only [List.set_cons_zero]))); (refine wpAnyH_take (i := 8) (v := undef) rfl (by kernel_rfl) (by kernel_rfl) (by kernel_rfl) (fun _ _ _ h => h) (Or.inr ⟨by kernel_rfl, rfl⟩) (by assumption) ?_; ((try simp only [Act.put]); (try simp only [List.setIfInBounds_toArray]); (try simp only [List.set_cons_succ]); (try simp only [List.set_cons_zero]))); (refine wpAnyH_take (i := 9) (v := undef) rfl (by kernel_rfl) (by kernel_rfl) (by kernel_rfl) (fun _ _ _ h => h) (Or.inr ⟨by kernel_rfl, rfl⟩) (by assumption) ?_; ((try simp only [Act.put]); (try simp only [List.setIfInBounds_toArray]); (try simp only [List.set_cons_succ]); (try simp only [List.set_cons_zero]))); (refine wpAnyH_take (i := 10) (v := undef) rfl (by kernel_rfl) (by kernel_rfl) (by kernel_rfl) (fun _ _ _ h => h) (Or.inr ⟨by kernel_rfl, rfl⟩) (by assumption) ?_; ((try simp only [Act.put]); (try simp only [List.setIfInBounds_toArray]); (try simp only [List.set_cons_succ]); (try simp only [List.set_cons_zero]))); (refine wpAnyH_take (i := 11) (v := undef) rfl (by kernel_rfl) (by kernel_rfl) (by kernel_rfl) (fun _ _ _ h => h) (Or.inr ⟨by kernel_rfl, rfl⟩) (by assumption) ?_; ((try simp only [Act.put]); (try simp only [List.setIfInBounds_toArray]); (try simp only [List.set_cons_succ]); (try simp only [List.set_cons_zero]))); (refine wpAnyH_take (i := 12) (v := undef) rfl (by kernel_rfl) (by kernel_rfl) (by kernel_rfl) (fun _ _ _ h => h) (Or.inr ⟨by kernel_rfl, rfl⟩) (by assumption) ?_; ((try simp only [Act.put]); (try simp only [List.setIfInBounds_toArray]); (try simp only [List.set_cons_succ]); (try simp only [List.set_cons_zero]))); (refine wpAnyH_take (i := 13) (v := undef) rfl (by kernel_rfl) (by kernel_rfl) (by kernel_rfl) (fun _ _ _ h => h) (Or.inr ⟨by kernel_rfl, rfl⟩) (by assumption) ?_; ((try simp only [Act.put]); (try simp only [List.setIfInBounds_toArray]); (try simp only [List.set_cons_succ]); (try simp only [List.set_cons_zero]))); (refine wpAnyH_take (i := 14) (v := undef) rfl (by kernel_rfl) (by kernel_rfl) (by kernel_rfl) (fun _ _ _ h => h) (Or.inr ⟨by kernel_rfl, rfl⟩) (by assumption) ?_; ((try simp only [Act.put]); (try simp only [List.setIfInBounds_toArray]); (try simp only [List.set_cons_succ]); (try simp only [List.set_cons_zero]))); (refine wpAnyH_take (i := 15) (v := undef) rfl (by kernel_rfl) (by kernel_rfl) (by kernel_rfl) (fun _ _ _ h => h) (Or.inr ⟨by kernel_rfl, rfl⟩) (by assumption) ?_; ((try simp only [Act.put]); (try simp only [List.setIfInBounds_toArray]); (try simp only [List.set_cons_succ]); (try simp only [List.set_cons_zero]))); (refine wpAnyH_take (i := 16) (v := undef) rfl (by kernel_rfl) (by kernel_rfl) (by kernel_rfl) (fun _ _ _ h => h) (Or.inr ⟨by kernel_rfl, rfl⟩) (by assumption) ?_; ((try simp only [Act.put]); (try simp only [List.setIfInBounds_toArray]); (try simp only [List.set_cons_succ]); (try simp only [List.set_cons_zero])))
        (refine wpAnyH_ready (rs := [17]) (by kernel_rfl) (by simp) ?_; refine AllReadyH.cons (o := _) rfl (fun K hK => ?_) AllReadyH.nil; go_simp)
        refine hK.out _ _ (by refine cells30 (o := 0) ?_ <;> (repeat (first | with_reducible assumption | with_reducible refine At3c.drew ?_ | with_reducible refine At3c.alloc ?_ _ | with_reducible refine At3c.nx ?_ (by assumption)))) (fun hHeld => ?_)
        clear hK K
        ((try simp only [Act.put]); (try simp only [List.setIfInBounds_toArray]); (try simp only [List.set_cons_succ]); (try simp only [List.set_cons_zero]))
        refine wpAnyH_done (by kernel_rfl) ?_ _
        go_wp2_with fail
        go_ret
        exact ⟨ret_int (by rw [HR.out]; simp), gr_trans (gr_drew hV) hv1⟩
      | true =>
        go_cut [40] (fun s40 wx => s40 = .bool (false) ∧ At3c wx k 0 a b c ∧ At3c wx k 3 x y z ∧ Below w.heap.size w wx)
        case first =>
          go_region_held3 (fun W => W.cell? ⟨k, 0, none⟩ = some (.int .i64 a) ∧ W.cell? ⟨k, 1, none⟩ = some (.int .i64 b) ∧ W.cell? ⟨k, 2, none⟩ = some (.int .i64 c)) (refine cells30 (o := 0) ?_ <;> (repeat (first | with_reducible assumption | with_reducible refine At3c.drew ?_ | with_reducible refine At3c.alloc ?_ _ | with_reducible refine At3c.nx ?_ (by assumption)))) (first | (go_at_call 48; refine (FA.out _).mono ?_; rintro e v1 ⟨rfl, hv1⟩) | (go_at_call 73; refine (EA.out _).mono ?_; rintro e v2 ⟨rfl, hv2⟩))
          all_goals (go_wp2_with fail; go_meet; exact ⟨by simp, by (repeat (first | with_reducible assumption | with_reducible refine At3c.drew ?_ | with_reducible refine At3c.alloc ?_ _ | with_reducible refine At3c.nx ?_ (by assumption))), by (repeat (first | with_reducible assumption | with_reducible refine At3c.drew ?_ | with_reducible refine At3c.alloc ?_ _ | with_reducible refine At3c.nx ?_ (by assumption))), by (repeat' (first | with_reducible exact Below.refl _ _ | with_reducible assumption | with_reducible refine gr_alloc ?_ _ | with_reducible refine gr_drew ?_ | with_reducible refine gr_drewN ?_ _ | with_reducible refine gr_trans ?_ (by assumption) | with_reducible refine gr_set ?_ ?_ _ | (simp; done) | omega | (simp; omega)))⟩)
        case rest =>
          obtain ⟨rfl, hA3, hX3, hU3⟩ := hcut
          clear hV kA kX
          generalize hww : wc = w3 at *
          clear hww
          go_wp2_with fail
          obtain ⟨_, c0, c1, c2⟩ := id hX3
          rw [rounds_succ]; go_upto_region 9 with fail
          have kA := hA3
          have kX := hX3
          have hV := hU3
          clear c0 c1 c2
          cases gX with
          | false =>
            refine wp_region_held_drew (S := (fun W => W.cell? ⟨k, 3, none⟩ = some (.int .i64 x) ∧ W.cell? ⟨k, 4, none⟩ = some (.int .i64 y) ∧ W.cell? ⟨k, 5, none⟩ = some (.int .i64 z) ∧ W.cell? ⟨k, 0, none⟩ = some (.int .i64 a) ∧ W.cell? ⟨k, 1, none⟩ = some (.int .i64 b) ∧ W.cell? ⟨k, 2, none⟩ = some (.int .i64 c))) (by kernel_rfl) (by refine cells33 (o := 3) (o' := 0) ?_ ?_ <;> (repeat (first | with_reducible assumption | with_reducible refine At3c.drew ?_ | with_reducible refine At3c.alloc ?_ _ | with_reducible refine At3c.nx ?_ (by assumption)))) (fun hHeld => ?_)
            (refine wpAnyH_take (i := 0) (v := ?_) rfl (by kernel_rfl) (by kernel_rfl) (by kernel_rfl) (fun _ _ _ h => h) (Or.inl ⟨by rfl, ?_⟩) (by assumption) ?_; rotate_left 1; (focus (intro w hSw; (try dsimp only at hSw); go_simp; (first | done | with_reducible rfl))); ((try simp only [Act.put]); (try simp only [List.setIfInBounds_toArray]); (try simp only [List.set_cons_succ]); (try simp only [List.set_cons_zero]))); (refine wpAnyH_take (i := 1) (v := ?_) rfl (by kernel_rfl) (by kernel_rfl) (by kernel_rfl) (fun _ _ _ h => h) (Or.inl ⟨by rfl, ?_⟩) (by assumption) ?_; rotate_left 1; (focus (intro w hSw; (try dsimp only at hSw); go_simp; (first | done | with_reducible rfl))); ((try simp only [Act.put]); (try simp only [List.setIfInBounds_toArray]); (try simp only [List.set_cons_succ]); (try simp only [List.set_cons_zero]))); (refine wpAnyH_take (i := 2) (v := ?_) rfl (by kernel_rfl) (by kernel_rfl) (by kernel_rfl) (fun _ _ _ h => h) (Or.inl ⟨by rfl, ?_⟩) (by assumption) ?_; rotate_left 1; (focus (intro w hSw; (try dsimp only at hSw); go_simp; (first | done | with_reducible rfl))); ((try simp only [Act.put]); (try simp only [List.setIfInBounds_toArray]); (try simp only [List.set_cons_succ]); (try simp only [List.set_cons_zero]))); (refine wpAnyH_take (i := 3) (v := ?_) rfl (by kernel_rfl) (by kernel_rfl) (by kernel_rfl) (fun _ _ _ h => h) (Or.inl ⟨by rfl, ?_⟩) (by assumption) ?_; rotate_left 1; (focus (intro w hSw; (try dsimp only at hSw); go_simp; (first | done | with_reducible rfl))); ((try simp only [Act.put]); (try simp only [List.setIfInBounds_toArray]); (try simp only [List.set_cons_succ]); (try simp only [List.set_cons_zero])))
            (refine wpAnyH_ready (rs := [4]) (by kernel_rfl) (by simp) ?_; refine AllReadyH.cons (o := _) rfl (fun K hK => ?_) AllReadyH.nil; go_simp)
            refine (FX.out _).mono ?_
            rintro e v1 ⟨rfl, hv1⟩
            go_wp2_with fail
            refine hK.out _ _ (by refine cells33 (o := 3) (o' := 0) ?_ ?_ <;> (repeat (first | with_reducible assumption | with_reducible refine At3c.drew ?_ | with_reducible refine At3c.alloc ?_ _ | with_reducible refine At3c.nx ?_ (by assumption)))) (fun hHeld => ?_)
            clear hK K
            ((try simp only [Act.put]); (try simp only [List.setIfInBounds_toArray]); (try simp only [List.set_cons_succ]); (try simp only [List.set_cons_zero]))
            (refine wpAnyH_take (i := 5) (v := ?_) rfl (by kernel_rfl) (by kernel_rfl) (by kernel_rfl) (fun _ _ _ h => h) (Or.inl ⟨by rfl, ?_⟩) (by assumption) ?_; rotate_left 1; (focus (intro w hSw; (try dsimp only at hSw); go_simp; (first | done | with_reducible rfl))); ((try simp only [Act.put]); (try simp only [List.setIfInBounds_toArray]); (try simp only [List.set_cons_succ]); (try simp only [List.set_cons_zero]))); (refine wpAnyH_take (i := 6) (v := ?_) rfl (by kernel_rfl) (by kernel_rfl) (by kernel_rfl) (fun _ _ _ h => h) (Or.inl ⟨by rfl, ?_⟩) (by assumption) ?_; rotate_left 1; (focus (intro w hSw; (try dsimp only at hSw); go_simp; (first | done | with_reducible rfl))); ((try simp only [Act.put]); (try simp only [List.setIfInBounds_toArray]); (try simp only [List.set_cons_succ]); (try simp only [List.set_cons_zero])))
            (refine wpAnyH_take (i := 7) (v := undef) rfl (by kernel_rfl) (by kernel_rfl) (by kernel_rfl) (fun _ _ _ h => h) (Or.inr ⟨by kernel_rfl, rfl⟩) (by assumption) ?_; ((try simp only [Act.put]); (try simp only [List.setIfInBounds_toArray]); (try simp only [List.set_cons_succ]); (try simp only [List.set_cons_zero]))); (refine wpAnyH_take (i := 8) (v := undef) rfl (by kernel_rfl) (by kernel_rfl) (by kernel_rfl) (fun _ _ _ h => h) (Or.inr ⟨by kernel_rfl, rfl⟩) (by assumption) ?_; ((try simp only [Act.put]); (try simp only [List.setIfInBounds_toArray]); (try simp only [List.set_cons_succ]); (try simp only [List.set_cons_zero]))); (refine wpAnyH_take (i := 9) (v := undef) rfl (by kernel_rfl) (by kernel_rfl) (by kernel_rfl) (fun _ _ _ h => h) (Or.inr ⟨by kernel_rfl, rfl⟩) (by assumption) ?_; ((try simp only [Act.put]); (try simp only [List.setIfInBounds_toArray]); (try simp only [List.set_cons_succ]); (try simp only [List.set_cons_zero]))); (refine wpAnyH_take (i := 10) (v := undef) rfl (by kernel_rfl) (by kernel_rfl) (by kernel_rfl) (fun _ _ _ h => h) (Or.inr ⟨by kernel_rfl, rfl⟩) (by assumption) ?_; ((try simp only [Act.put]); (try simp only [List.setIfInBounds_toArray]); (try simp only [List.set_cons_succ]); (try simp only [List.set_cons_zero]))); (refine wpAnyH_take (i := 11) (v := undef) rfl (by kernel_rfl) (by kernel_rfl) (by kernel_rfl) (fun _ _ _ h => h) (Or.inr ⟨by kernel_rfl, rfl⟩) (by assumption) ?_; ((try simp only [Act.put]); (try simp only [List.setIfInBounds_toArray]); (try simp only [List.set_cons_succ]); (try simp only [List.set_cons_zero]))); (refine wpAnyH_take (i := 12) (v := undef) rfl (by kernel_rfl) (by kernel_rfl) (by kernel_rfl) (fun _ _ _ h => h) (Or.inr ⟨by kernel_rfl, rfl⟩) (by assumption) ?_; ((try simp only [Act.put]); (try simp only [List.setIfInBounds_toArray]); (try simp only [List.set_cons_succ]); (try simp only [List.set_cons_zero]))); (refine wpAnyH_take (i := 13) (v := undef) rfl (by kernel_rfl) (by kernel_rfl) (by kernel_rfl) (fun _ _ _ h => h) (Or.inr ⟨by kernel_rfl, rfl⟩) (by assumption) ?_; ((try simp only [Act.put]); (try simp only [List.setIfInBounds_toArray]); (try simp only [List.set_cons_succ]); (try simp only [List.set_cons_zero]))); (refine wpAnyH_take (i := 14) (v := undef) rfl (by kernel_rfl) (by kernel_rfl) (by kernel_rfl) (fun _ _ _ h => h) (Or.inr ⟨by kernel_rfl, rfl⟩) (by assumption) ?_; ((try simp only [Act.put]); (try simp only [List.setIfInBounds_toArray]); (try simp only [List.set_cons_succ]); (try simp only [List.set_cons_zero]))); (refine wpAnyH_take (i := 15) (v := undef) rfl (by kernel_rfl) (by kernel_rfl) (by kernel_rfl) (fun _ _ _ h => h) (Or.inr ⟨by kernel_rfl, rfl⟩) (by assumption) ?_; ((try simp only [Act.put]); (try simp only [List.setIfInBounds_toArray]); (try simp only [List.set_cons_succ]); (try simp only [List.set_cons_zero]))); (refine wpAnyH_take (i := 16) (v := undef) rfl (by kernel_rfl) (by kernel_rfl) (by kernel_rfl) (fun _ _ _ h => h) (Or.inr ⟨by kernel_rfl, rfl⟩) (by assumption) ?_; ((try simp only [Act.put]); (try simp only [List.setIfInBounds_toArray]); (try simp only [List.set_cons_succ]); (try simp only [List.set_cons_zero])))
            (refine wpAnyH_ready (rs := [17]) (by kernel_rfl) (by simp) ?_; refine AllReadyH.cons (o := _) rfl (fun K hK => ?_) AllReadyH.nil; go_simp)
            refine hK.out _ _ (by refine cells33 (o := 3) (o' := 0) ?_ ?_ <;> (repeat (first | with_reducible assumption | with_reducible refine At3c.drew ?_ | with_reducible refine At3c.alloc ?_ _ | with_reducible refine At3c.nx ?_ (by assumption)))) (fun hHeld => ?_)
            clear hK K
            ((try simp only [Act.put]); (try simp only [List.setIfInBounds_toArray]); (try simp only [List.set_cons_succ]); (try simp only [List.set_cons_zero]))
            refine wpAnyH_done (by kernel_rfl) ?_ _
            go_wp2_with fail
            go_ret
            exact ⟨ret_int (by rw [HR.out]; simp), gr_trans (gr_drew hV) hv1⟩
          | true =>
            go_cut [40] (fun s40 wx => s40 = .bool (!(DX == DA)) ∧ At3c wx k 0 a b c ∧ At3c wx k 3 x y z ∧ Below w.heap.size w wx)
            case first =>
              go_region_held3 (fun W => W.cell? ⟨k, 3, none⟩ = some (.int .i64 x) ∧ W.cell? ⟨k, 4, none⟩ = some (.int .i64 y) ∧ W.cell? ⟨k, 5, none⟩ = some (.int .i64 z) ∧ W.cell? ⟨k, 0, none⟩ = some (.int .i64 a) ∧ W.cell? ⟨k, 1, none⟩ = some (.int .i64 b) ∧ W.cell? ⟨k, 2, none⟩ = some (.int .i64 c)) (refine cells33 (o := 3) (o' := 0) ?_ ?_ <;> (repeat (first | with_reducible assumption | with_reducible refine At3c.drew ?_ | with_reducible refine At3c.alloc ?_ _ | with_reducible refine At3c.nx ?_ (by assumption)))) (first | (go_at_call 48; refine (FX.out _).mono ?_; rintro e v1 ⟨rfl, hv1⟩) | (go_at_call_of 73 (Value.int .i64 x); refine (EX.out _).mono ?_; rintro e v2 ⟨rfl, hv2⟩) | (go_at_call_of 73 (Value.int .i64 a); refine (EA.out _).mono ?_; rintro e v3 ⟨rfl, hv3⟩))
              all_goals (go_wp2_with fail; go_meet; exact ⟨by simp [bne], by (repeat (first | with_reducible assumption | with_reducible refine At3c.drew ?_ | with_reducible refine At3c.alloc ?_ _ | with_reducible refine At3c.nx ?_ (by assumption))), by (repeat (first | with_reducible assumption | with_reducible refine At3c.drew ?_ | with_reducible refine At3c.alloc ?_ _ | with_reducible refine At3c.nx ?_ (by assumption))), by (repeat' (first | with_reducible exact Below.refl _ _ | with_reducible assumption | with_reducible refine gr_alloc ?_ _ | with_reducible refine gr_drew ?_ | with_reducible refine gr_drewN ?_ _ | with_reducible refine gr_trans ?_ (by assumption) | with_reducible refine gr_set ?_ ?_ _ | (simp; done) | omega | (simp; omega)))⟩)
            case rest =>
              obtain ⟨rfl, hA4, hX4, hU4⟩ := hcut
              clear hV kA kX
              generalize hww : wc = w4 at *
              clear hww
              cases hD : (DX == DA) with
              | false =>
                go_wp2_with fail
                go_ret
                exact ⟨ret_int (by rw [HR.out]; simp [hD]), hU4⟩
              | true =>
                go_wp2_with fail
                rw [rounds_succ]; go_wp2_with fail
                go_ret
                exact ⟨ret_int (by rw [HR.out]; simp [hD]), hU4⟩


end Go.Proofs.Ytehbkmohfipmgaa
