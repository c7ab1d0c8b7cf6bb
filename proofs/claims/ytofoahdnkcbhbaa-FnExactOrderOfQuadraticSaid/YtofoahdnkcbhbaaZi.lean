/- Chapter 10: the code of one definite form, of two. -/
import Derived.Test.YtofoahdnkcbhbaaZd
import Derived.Deep.DeepCutAuto
namespace Go.Proofs.Ytofoahdnkcbhbaa
open Go.RowKit

/-- The code of one form, of two. -/
def dc1 (a b c : Int) : Int := if isQ a b c then (if df10 a b c then 0 else 2) else 1
def dc2 (a b c x y z : Int) : Int := if isQ a b c && isQ x y z then (if df10 a b c && (df10 x y z && (dq x y z == dq a b c)) then 0 else 2) else 1
/-- Three numbers in block k from offset o on. -/
structure At3c (w : World) (k o : Nat) (a b c : Int) : Prop where
  lt : k < w.heap.size
  c0 : w.cell? ⟨k, o, none⟩ = some (.int .i64 a)
  c1 : w.cell? ⟨k, o + 1, none⟩ = some (.int .i64 b)
  c2 : w.cell? ⟨k, o + 2, none⟩ = some (.int .i64 c)
theorem At3c.next {w w' : World} {k o : Nat} {a b c : Int} (h : At3c w k o a b c) {B : Nat} (hb : Below B w w') (hB : k < B) : At3c w' k o a b c :=
  ⟨Nat.lt_of_lt_of_le h.lt hb.size, (hb.cell (p := ⟨k, o, none⟩) hB).trans h.c0, (hb.cell (p := ⟨k, o + 1, none⟩) hB).trans h.c1, (hb.cell (p := ⟨k, o + 2, none⟩) hB).trans h.c2⟩
theorem At3c.nx {w w' : World} {k o : Nat} {a b c : Int} (h : At3c w k o a b c) (hb : Below w.heap.size w w') : At3c w' k o a b c := h.next hb h.lt
theorem At3c.drew {w : World} {k o : Nat} {a b c : Int} (h : At3c w k o a b c) : At3c w.drew k o a b c := h.nx (gr_drew (Below.refl _ w))
theorem At3c.alloc {w : World} {k o : Nat} {a b c : Int} (h : At3c w k o a b c) (ob : Obj) : At3c (w.alloc ob) k o a b c := h.nx (gr_alloc (Below.refl _ w) ob)
theorem Arr3.at {w : World} {k : Nat} {a b c : Int} (h : Arr3 w k a b c) : At3c w k 0 a b c := ⟨h.lt, h.c0, h.c1, h.c2⟩
theorem At3c.six {w : World} {a b c x y z : Int} {T : TypeId} : At3c (w.alloc (.cells #[.int .i64 a, .int .i64 b, .int .i64 c, .int .i64 x, .int .i64 y, .int .i64 z] T)) w.heap.size 0 a b c ∧ At3c (w.alloc (.cells #[.int .i64 a, .int .i64 b, .int .i64 c, .int .i64 x, .int .i64 y, .int .i64 z] T)) w.heap.size 3 x y z := by
  constructor <;> constructor <;> simp [go_sem]
theorem cells33 {W : World} {k o k' o' : Nat} {a b c x y z : Int} (K : At3c W k o a b c) (L : At3c W k' o' x y z) :
    W.cell? ⟨k, o, none⟩ = some (.int .i64 a) ∧ W.cell? ⟨k, o + 1, none⟩ = some (.int .i64 b) ∧ W.cell? ⟨k, o + 2, none⟩ = some (.int .i64 c) ∧ W.cell? ⟨k', o', none⟩ = some (.int .i64 x) ∧ W.cell? ⟨k', o' + 1, none⟩ = some (.int .i64 y) ∧ W.cell? ⟨k', o' + 2, none⟩ = some (.int .i64 z) := ⟨K.c0, K.c1, K.c2, L.c0, L.c1, L.c2⟩

set_option maxRecDepth 100000 in
set_option maxHeartbeats 4000000 in
theorem iCode1_any (k : Nat) (a b c : Int) (w : World) (hA : At3c w k 0 a b c) : Calls Try.prog 45 #[.slice (some ⟨k, 0, none⟩) 1 1] w fun e w' => e = .returned (.int .i64 (dc1 a b c)) ∧ Below w.heap.size w w' := by
  have qA := fun W => iIsQ_any a b c W
  have fA := fun W => isDef0_any a b c W
  have dA := fun W => iQd_any a b c W
  have hr : dc1 a b c = if isQ a b c then (if df10 a b c then 0 else 2) else 1 := rfl
  generalize dc1 a b c = R at hr ⊢
  generalize isQ a b c = pA at qA hr
  generalize df10 a b c = gA at fA hr
  generalize dq a b c = DA at dA
  have QA := hid qA; have FA := hid fA; have EA := hid dA
  have HR := hid hr
  clear hr qA fA dA
  go_enter Try.func45, Try.ntmps45
  go_wp2_with fail
  refine wp_loop_rounds 2 ?_
  have hU := Below.refl w.heap.size w
  obtain ⟨_, c0, c1, c2⟩ := id hA
  rw [rounds_succ]; go_wp2_with fail
  refine (QA.out _).mono ?_
  rintro e w1 ⟨rfl, hb1⟩
  have hA1 := (hA.alloc (.cells #[.int .i64 a, .int .i64 b, .int .i64 c] 25)).nx hb1
  have hU1 := gr_trans (gr_alloc hU (.cells #[.int .i64 a, .int .i64 b, .int .i64 c] 25)) hb1
  clear c0 c1 c2
  cases pA with
  | false =>
    go_wp2_with fail
    go_ret
    exact ⟨ret_int (by rw [HR.out]; simp), hU1⟩
  | true =>
    go_wp2_with fail
    rw [rounds_succ]; go_wp2_with fail
    refine wp_loop_rounds 2 ?_
    obtain ⟨_, c0, c1, c2⟩ := id hA1
    rw [rounds_succ]; go_upto_region 10 with fail
    have K := (Arr3.new w1 a b c 25).at
    have kA := hA1.alloc (.cells #[.int .i64 a, .int .i64 b, .int .i64 c] 25)
    have hV := gr_alloc hU1 (.cells #[.int .i64 a, .int .i64 b, .int .i64 c] 25)
    clear c0 c1 c2
    generalize hW : w1.alloc (.cells #[.int .i64 a, .int .i64 b, .int .i64 c] 25) = W at K kA hV ⊢
    generalize hkk : w1.heap.size = kk at K ⊢
    clear hW hkk
    cases gA with
    | false =>
      refine wp_region_held_drew (S := (fun W => W.cell? ⟨kk, 0, none⟩ = some (.int .i64 a) ∧ W.cell? ⟨kk, 1, none⟩ = some (.int .i64 b) ∧ W.cell? ⟨kk, 2, none⟩ = some (.int .i64 c) ∧ W.cell? ⟨k, 0, none⟩ = some (.int .i64 a) ∧ W.cell? ⟨k, 1, none⟩ = some (.int .i64 b) ∧ W.cell? ⟨k, 2, none⟩ = some (.int .i64 c))) (by kernel_rfl) (by refine cells33 (o := 0) (o' := 0) ?_ ?_ <;> (repeat (first | with_reducible assumption | with_reducible refine At3c.drew ?_ | with_reducible refine At3c.alloc ?_ _ | with_reducible refine At3c.nx ?_ (by assumption)))) (fun hHeld => ?_)
      (refine wpAnyH_take (i := 0) (v := ?_) rfl (by kernel_rfl) (by kernel_rfl) (by kernel_rfl) (fun _ _ _ h => h) (Or.inl ⟨by rfl, ?_⟩) (by assumption) ?_; rotate_left 1; (focus (intro w hSw; (try dsimp only at hSw); go_simp; (first | done | with_reducible rfl))); ((try simp only [Act.put]); (try simp only [List.setIfInBounds_toArray]); (try simp only [List.set_cons_succ]); (try simp only [List.set_cons_zero])))
      (refine wpAnyH_ready (rs := [1]) (by kernel_rfl) (by simp) ?_; refine AllReadyH.cons (o := _) rfl (fun K hK => ?_) AllReadyH.nil; go_simp)
      refine (FA.out _).mono ?_
      rintro e v1 ⟨rfl, hv1⟩
      go_wp2_with fail
      refine hK.out _ _ (by refine cells33 (o := 0) (o' := 0) ?_ ?_ <;> (repeat (first | with_reducible assumption | with_reducible refine At3c.drew ?_ | with_reducible refine At3c.alloc ?_ _ | with_reducible refine At3c.nx ?_ (by assumption)))) (fun hHeld => ?_)
      clear hK K
      ((try simp only [Act.put]); (try simp only [List.setIfInBounds_toArray]); (try simp only [List.set_cons_succ]); (try simp only [List.set_cons_zero]))
      (refine wpAnyH_take (i := 2) (v := ?_) rfl (by kernel_rfl) (by kernel_rfl) (by kernel_rfl) (fun _ _ _ h => h) (Or.inl ⟨by rfl, ?_⟩) (by assumption) ?_; rotate_left 1; (focus (intro w hSw; (try dsimp only at hSw); go_simp; (first | done | with_reducible rfl))); ((try simp only [Act.put]); (try simp only [List.setIfInBounds_toArray]); (try simp only [List.set_cons_succ]); (try simp only [List.set_cons_zero]))); (refine wpAnyH_take (i := 3) (v := ?_) rfl (by kernel_rfl) (by kernel_rfl) (by kernel_rfl) (fun _ _ _ h => h) (Or.inl ⟨by rfl, ?_⟩) (by assumption) ?_; rotate_left 1; (focus (intro w hSw; (try dsimp only at hSw); go_simp; (first | done | with_reducible rfl))); ((try simp only [Act.put]); (try simp only [List.setIfInBounds_toArray]); (try simp only [List.set_cons_succ]); (try simp only [List.set_cons_zero])))
      (refine wpAnyH_take (i := 4) (v := undef) rfl (by kernel_rfl) (by kernel_rfl) (by kernel_rfl) (fun _ _ _ h => h) (Or.inr ⟨by kernel_rfl, rfl⟩) (by assumption) ?_; ((try simp only [Act.put]); (try simp only [List.setIfInBounds_toArray]); (try simp only [List.set_cons_succ]); (try simp only [List.set_cons_zero]))); (refine wpAnyH_take (i := 5) (v := undef) rfl (by kernel_rfl) (by kernel_rfl) (by kernel_rfl) (fun _ _ _ h => h) (Or.inr ⟨by kernel_rfl, rfl⟩) (by assumption) ?_; ((try simp only [Act.put]); (try simp only [List.setIfInBounds_toArray]); (try simp only [List.set_cons_succ]); (try simp only [List.set_cons_zero]))); (refine wpAnyH_take (i := 6) (v := undef) rfl (by kernel_rfl) (by kernel_rfl) (by kernel_rfl) (fun _ _ _ h => h) (Or.inr ⟨by kernel_rfl, rfl⟩) (by assumption) ?_; ((try simp only [Act.put]); (try simp only [List.setIfInBounds_toArray]); (try simp only [List.set_cons_succ]); (try simp only [List.set_cons_zero]))); (refine wpAnyH_take (i := 7) (v := undef) rfl (by kernel_rfl) (by kernel_rfl) (by kernel_rfl) (fun _ _ _ h => h) (Or.inr ⟨by kernel_rfl, rfl⟩) (by assumption) ?_; ((try simp only [Act.put]); (try simp only [List.setIfInBounds_toArray]); (try simp only [List.set_cons_succ]); (try simp only [List.set_cons_zero]))); (refine wpAnyH_take (i := 8) (v := undef) rfl (by kernel_rfl) (by kernel_rfl) (by kernel_rfl) (fun _ _ _ h => h) (Or.inr ⟨by kernel_rfl, rfl⟩) (by assumption) ?_; ((try simp only [Act.put]); (try simp only [List.setIfInBounds_toArray]); (try simp only [List.set_cons_succ]); (try simp only [List.set_cons_zero]))); (refine wpAnyH_take (i := 9) (v := undef) rfl (by kernel_rfl) (by kernel_rfl) (by kernel_rfl) (fun _ _ _ h => h) (Or.inr ⟨by kernel_rfl, rfl⟩) (by assumption) ?_; ((try simp only [Act.put]); (try simp only [List.setIfInBounds_toArray]); (try simp only [List.set_cons_succ]); (try simp only [List.set_cons_zero]))); (refine wpAnyH_take (i := 10) (v := undef) rfl (by kernel_rfl) (by kernel_rfl) (by kernel_rfl) (fun _ _ _ h => h) (Or.inr ⟨by kernel_rfl, rfl⟩) (by assumption) ?_; ((try simp only [Act.put]); (try simp only [List.setIfInBounds_toArray]); (try simp only [List.set_cons_succ]); (try simp only [List.set_cons_zero])))
      (refine wpAnyH_ready (rs := [11]) (by kernel_rfl) (by simp) ?_; refine AllReadyH.cons (o := _) rfl (fun K hK => ?_) AllReadyH.nil; go_simp)
      refine hK.out _ _ (by refine cells33 (o := 0) (o' := 0) ?_ ?_ <;> (repeat (first | with_reducible assumption | with_reducible refine At3c.drew ?_ | with_reducible refine At3c.alloc ?_ _ | with_reducible refine At3c.nx ?_ (by assumption)))) (fun hHeld => ?_)
      clear hK K
      ((try simp only [Act.put]); (try simp only [List.setIfInBounds_toArray]); (try simp only [List.set_cons_succ]); (try simp only [List.set_cons_zero]))
      refine wpAnyH_done (by kernel_rfl) ?_ _
      go_wp2_with fail
      go_ret
      exact ⟨ret_int (by rw [HR.out]; simp), gr_trans (gr_drew hV) hv1⟩
    | true =>
      go_cut [34] (fun s34 wx => s34 = .bool (false) ∧ At3c wx k 0 a b c ∧ Below w.heap.size w wx)
      case first =>
        go_region_held3 (fun W => W.cell? ⟨kk, 0, none⟩ = some (.int .i64 a) ∧ W.cell? ⟨kk, 1, none⟩ = some (.int .i64 b) ∧ W.cell? ⟨kk, 2, none⟩ = some (.int .i64 c) ∧ W.cell? ⟨k, 0, none⟩ = some (.int .i64 a) ∧ W.cell? ⟨k, 1, none⟩ = some (.int .i64 b) ∧ W.cell? ⟨k, 2, none⟩ = some (.int .i64 c)) (refine cells33 (o := 0) (o' := 0) ?_ ?_ <;> (repeat (first | with_reducible assumption | with_reducible refine At3c.drew ?_ | with_reducible refine At3c.alloc ?_ _ | with_reducible refine At3c.nx ?_ (by assumption)))) (first | (go_at_call 42; refine (FA.out _).mono ?_; rintro e v1 ⟨rfl, hv1⟩) | (go_at_call 51; refine (EA.out _).mono ?_; rintro e v2 ⟨rfl, hv2⟩))
        all_goals (go_wp2_with fail; go_meet; exact ⟨by simp, by (repeat (first | with_reducible assumption | with_reducible refine At3c.drew ?_ | with_reducible refine At3c.alloc ?_ _ | with_reducible refine At3c.nx ?_ (by assumption))), by (repeat' (first | with_reducible exact Below.refl _ _ | with_reducible assumption | with_reducible refine gr_alloc ?_ _ | with_reducible refine gr_drew ?_ | with_reducible refine gr_drewN ?_ _ | with_reducible refine gr_trans ?_ (by assumption) | with_reducible refine gr_set ?_ ?_ _ | (simp; done) | omega | (simp; omega)))⟩)
      case rest =>
        obtain ⟨rfl, hA2, hU2⟩ := hcut
        clear hV K kA
        generalize hww : wc = w2 at *
        clear hww
        go_wp2_with fail
        rw [rounds_succ]; go_wp2_with fail
        go_ret
        exact ⟨ret_int (by rw [HR.out]; simp), hU2⟩


end Go.Proofs.Ytofoahdnkcbhbaa
