/- Chapter 3: determinants of the program: three rows of three numbers. -/
import Derived.Test.YtambbhldhhlfgaaDt2
namespace Go.Proofs.Ytambbhldhhlfgaa.D3
open Go.RowKit

theorem lk_0 : findLabel (scp (Try.f69.body.getD .skip)) 0 = some (lk 0) := by kernel_rfl
theorem lk_1 : findLabel (scp (Try.f69.body.getD .skip)) 1 = some (lk 1) := by kernel_rfl
theorem lk_2 : findLabel (scp (Try.f69.body.getD .skip)) 2 = some (lk 2) := by kernel_rfl

theorem stt_0 (M : Nat → Nat → Int) (w : World) : Stt w.heap.size M (DS M 3 3 []) 1 (2 * mst 3 [] 0 + 1) (.int .i64 0) (.int .i64 0) (.int .i64 0) (.slice none 0 0) (.slice (some ⟨w.heap.size, 0, none⟩) 1 1) w (w.alloc (.cells #[.int .i64 1] 2)) := by
  refine ⟨[], 0, 0, by simp, by omega, by simp, by simp [wrap64], rfl, World.ownsRow_nil _ _ _ _, ?_, gr_alloc (Below.refl _ _) _, .inl ⟨rfl, rfl, ?_⟩⟩
  · exact ⟨by simp [prs], .inr ⟨w.heap.size, 1, #[.int .i64 1], rfl, Nat.le_refl _, heap_alloc_new w _, Nat.le_refl _, by decide, rfl, rfl⟩⟩
  · have := rest_zero (M := M) (n := 3) (K := [])
    simp only [List.reverse_nil, List.length_nil, Nat.sub_zero] at this
    simp [prd, pnd, this]

set_option maxRecDepth 1000000 in
set_option maxHeartbeats 4000000 in
theorem iDet3_any (M : Nat → Nat → Int) (rv : Value) (w : World) (hR : Rows3 w rv M) (hM : ∀ i j, -1000000000000 ≤ M i j ∧ M i j ≤ 1000000000000) :
    Calls Try.prog 69 #[rv] w fun e w' => e = .returned (.int .i64 (wrap64 (DS M 3 3 []))) ∧ Below w.heap.size w w' := by
  have HR := hid hR
  have HM := hid hM
  clear hR hM
  go_enter Try.func69, Try.ntmps69
  go_wp2
  refine wp_scope_machine (Jd rv w.heap.size M (DS M 3 3 []) w) ?_ ?_
  · go_wp2
    go_step3
    go_step
    go_step
    have h := fun Q => lookb_any w.heap.size M (DS M 3 3 []) rv w _ rfl HR HM (2 * mst 3 [] 0 + 1) undef (.int .i64 0) (.int .i64 0) (.int .i64 0) (.int .i64 0) (.slice none 0 0) (.slice (some ⟨w.heap.size, 0, none⟩) 1 1) (.slice (some ⟨w.heap.size, 0, none⟩) 1 1) undef undef undef undef undef undef undef undef undef undef undef undef undef undef undef undef undef undef undef undef undef undef undef undef undef undef undef undef undef undef undef undef undef undef undef undef undef undef undef undef undef undef undef undef undef undef undef undef undef undef undef undef undef undef undef undef undef undef undef undef undef undef (stt_0 M w) Q
    refine wp_mono (h (bodyPost Try.prog Try.f69 fun e w' => e = .returned (.int .i64 (wrap64 (DS M 3 3 []))) ∧ Below w.heap.size w w')) ?_
    intro e a w' h
    cases e with
    | goto l => obtain ⟨m', _, hj⟩ := h; exact ⟨m', hj⟩
    | _ => exact h
  · rintro l m a wr ⟨u1, u2, u3, u4, u5, u6, u7, u8, u9, u10, u11, u12, u13, u14, u15, u16, u17, u18, u19, u20, u21, u22, u23, u24, u25, u26, u27, u28, u29, u30, u31, u32, u33, u34, u35, u36, u37, u38, u39, u40, u41, u42, u43, u44, u45, u46, u47, u48, u49, u50, u51, u52, u53, u54, u55, u56, u57, u58, u59, u60, u61, u62, u63, u64, u65, u66, u67, u68, u69, u70, rfl, hS⟩
    have hl : l = 0 ∨ l = 1 ∨ l = 2 := by
      obtain ⟨K, col, s, _, _, _, _, _, _, _, _, h⟩ := hS
      rcases h with ⟨h, _⟩ | ⟨h, _⟩ | ⟨h, _⟩ <;> simp [h]
    rcases hl with rfl | rfl | rfl
    · exact ⟨_, lk_0, back_any w.heap.size M _ rv w wr rfl HR HM m _ _ _ _ _ _ _ _ _ _ _ _ _ _ _ _ _ _ _ _ _ _ _ _ _ _ _ _ _ _ _ _ _ _ _ _ _ _ _ _ _ _ _ _ _ _ _ _ _ _ _ _ _ _ _ _ _ _ _ _ _ _ _ _ _ _ _ _ _ _ hS⟩
    · exact ⟨_, lk_1, look_any w.heap.size M _ rv w wr rfl HR HM m _ _ _ _ _ _ _ _ _ _ _ _ _ _ _ _ _ _ _ _ _ _ _ _ _ _ _ _ _ _ _ _ _ _ _ _ _ _ _ _ _ _ _ _ _ _ _ _ _ _ _ _ _ _ _ _ _ _ _ _ _ _ _ _ _ _ _ _ _ _ hS _⟩
    · exact ⟨_, lk_2, take_any w.heap.size M _ rv w wr rfl HR HM m _ _ _ _ _ _ _ _ _ _ _ _ _ _ _ _ _ _ _ _ _ _ _ _ _ _ _ _ _ _ _ _ _ _ _ _ _ _ _ _ _ _ _ _ _ _ _ _ _ _ _ _ _ _ _ _ _ _ _ _ _ _ _ _ _ _ _ _ _ _ hS _⟩

end Go.Proofs.Ytambbhldhhlfgaa.D3
