/- Chapter 6: points to raise, the program's. -/
import Derived.Test.YtmhlolimaeejfaaOe
import Derived.Test.YtmhlolimaeejfaaPl
namespace Go.Proofs.Ytmhlolimaeejfaa
open Go.RowKit Go.Shelf
attribute [local go_sem] Oper.semAt_some

/-- The points at which f can be raised. -/
def prp (a b c d p : Int) : List Int := (stl (rOk a b c d p) (raG a b c d p) (p.toNat + 1)).map (·.1)
theorem prp_len {a b c d p : Int} (h : p ≤ 97) : (prp a b c d p).length ≤ 98 := by
  have := stl_len (rOk a b c d p) (raG a b c d p) (p.toNat + 1)
  unfold prp; rw [List.length_map]; omega
theorem kpr_append {s e B : Nat} {W w1 : World} {v v' : Value} {T : TypeId} {sz k : Nat} {xs : List Value} {tmp : Obj} (hrow : W.ownsRow e T sz v k xs) (he : e ≤ W.heap.size) (hg : (W.alloc tmp).grownBy w1 v.ownBlock) (hB : B < s) : KpR s e W (w1.setCell ⟨B, 0, none⟩ v') := by
  have hs := hg.size
  simp only [World.size_alloc] at hs
  refine ⟨by rw [World.size_setCell]; omega, fun i h1 h2 => ?_⟩
  rw [Below.heap_setCell _ _ _ i (by show i ≠ B; omega), hg.block i (by simp; omega) (fun e' => by have := (hrow.lt i e'.symm).1; omega), Below.heap_alloc _ _ _ (by omega)]

set_option maxRecDepth 100000 in
set_option maxHeartbeats 4000000 in
theorem iPoints_any (a b c d p : Int) (w : World) : Calls Try.prog 40 #[.agg #[.int .i64 a, .int .i64 b, .int .i64 c, .int .i64 d], .int .i64 p] w (LstOut (fpc a b c d p) (prp a b c d p).length (fun i => (prp a b c d p).getD i 0) w) := by
  have hC := fun W => iCheckFP_any a b c d p W
  have hk : fpc a b c d p = 0 → isF a b c d = true ∧ prm p = true := fpc_0.1
  generalize fpc a b c d p = k at hC hk ⊢
  have HC := hid hC; have HK := hid hk
  clear hC hk
  obtain ⟨i0, hi, hz0, hz1, hz2⟩ := info_parts info_i64
  have HI := hid hi; have HZ0 := hid hz0; have HZ1 := hid hz1; have HZ2 := hid hz2
  clear hi hz0 hz1 hz2
  have A0 := Arr.new w a b c d 23
  have U0 := gr_alloc (Below.refl w.heap.size w) (.cells #[.int .i64 a, .int .i64 b, .int .i64 c, .int .i64 d] 23)
  refine (callsIn_wide (n := 3)).1 ?_
  refine callsIn_of_wp_marks Try.func40 rfl trivial ?_ rfl
  simp only [Try.ntmps40, List.size_toArray, List.length_cons, List.length_nil, Nat.reduceAdd, Nat.reduceSub, Array.replicate_succ, Array.replicate_zero, List.push_toArray, List.append_toArray, List.nil_append, List.cons_append]
  gi_wp2_with fail
  refine ⟨trivial, (callsIn_wide.2 (HC.out _)).mono ?_⟩
  rintro e w1 ⟨rfl, hb1⟩
  have A1 := A0.next hb1
  have U1 := gr_trans U0 hb1
  clear A0 U0
  by_cases hk0 : k = 0
  · obtain ⟨hF, hp⟩ := HK.out hk0
    obtain ⟨ha, hb, hc, hd⟩ := isF_t hF
    obtain ⟨h2, h97⟩ := prm_rng hp
    subst hk0
    have HS := hid (fun s n W hn hB => raisedAt_stops a b c d p s n W hn ha hb hc hd h2 h97 hB)
    have HR := hid (fun W => stepsFrom_any a b c d p 88 W)
    clear hF hp ha hb hc hd HK
    obtain ⟨_, a0, a1, a2, a3, _⟩ := id A1
    gi_wp2_with fail
    refine ⟨trivial, (callsIn_wide.2 (HR.out _)).mono ?_⟩
    rintro e W0 ⟨rfl, hB0, hz, hb0⟩
    simp only [World.size_alloc] at hB0 hz
    have hW1 := U1.size
    have U2 := gr_alloc U1 (.cells #[.slice none 0 0] 48)
    have bV := (Boxed.new w1 48 (.slice none 0 0)).kept (W' := W0) (row := none) ⟨hb0.os, hb0.tape, hb0.output, hb0.size, fun k hk _ => hb0.block k hk⟩ (by simp)
    have U3 := gr_trans U2 hb0
    have HB0 := hid hB0
    have HV := hid bV
    clear hB0 a0 a1 a2 a3 A1 U1 U2 bV HC
    have hsz : W0.heap.size = w1.heap.size + 4 := by omega
    have HZ := hid hsz
    clear hz
    gi_wp2_with fail
    refine wpIn_rangeFunc_ownG (n := 3) rfl (by omega) (gf := 115) (lb := #[.pointer (some ⟨w1.heap.size + 1 + 1, 0, none⟩), .pointer (some ⟨w1.heap.size + 1 + 2, 0, none⟩), .pointer (some ⟨w1.heap.size + 1, 0, none⟩)]) rfl trivial (enters_of Try.func115 (by kernel_rfl) rfl)
      (HS.out (w1.heap.size + 1) 2 W0 (by omega) HB0.out) (fun h k => KpR.trans h k) (KpR.put (by omega)) (Below.refl _ _) (fun _ => rfl)
      (fun pre W => (∃ v, Boxed W w1.heap.size 48 v ∧ W.ownsRow (w1.heap.size + 4) 2 1 v pre.length (pre.map fun x : Int × Frm => Value.int .i64 x.1) ∧ (v = .slice none 0 0 ↔ pre = [])) ∧ (Below w.heap.size w W ∧ w1.heap.size + 4 ≤ W.heap.size))
      (fun _ _ _ => False)
      (OwnFrom.and (Own.from (holdsRow_own (w1.heap.size + 4) w1.heap.size 48 2 1 (fun pre => pre.length) (fun pre => pre.map fun x : Int × Frm => Value.int .i64 x.1) (fun pre v => v = .slice none 0 0 ↔ pre = [])) _) (OwnFrom.and (ownFrom_below (Nat.le_refl _) (by omega)) (fun s A B row hs hg hr => Nat.le_trans hs hg.size)))
      (fun _ _ _ _ _ hs _ _ => hs)
      ⟨⟨_, HV.out, World.ownsRow_nil _ _ _ _, by simp⟩, U3, by omega⟩
      (fun x => { tmps := #[.agg #[.int .i64 a, .int .i64 b, .int .i64 c, .int .i64 d], .int .i64 p, .pointer (some ⟨w.heap.size, 0, none⟩), undef, .slice none 0 0, .int .i64 0, .int .i64 0, .pointer (some ⟨w1.heap.size, 0, none⟩), .int .i64 x.1, .agg #[.int .i64 a, .int .i64 b, .int .i64 c, .int .i64 d], .int .i64 p, .int .i64 0, .int .i64 0, .bool false, undef, .agg #[.int .i64 a, .int .i64 b, .int .i64 c, .int .i64 d], .int .i64 p, .func (.func 115) #[] #[.pointer (some ⟨w1.heap.size + 1 + 1, 0, none⟩), .pointer (some ⟨w1.heap.size + 1 + 2, 0, none⟩), .pointer (some ⟨w1.heap.size + 1, 0, none⟩)], .int .i64 x.1, .agg #[.int .i64 x.2.1, .int .i64 x.2.2.1, .int .i64 x.2.2.2.1, .int .i64 x.2.2.2.2], undef, undef, undef, undef, undef], defers := [] }) ?assign ?body ?done ?stop
    case assign =>
      intro l x W K hK
      dsimp only [encSt]
      gi_wp2
      exact hK
    case body =>
      rintro l pre x W ⟨⟨v, hv, hrow, hnil⟩, hB, hrs⟩ hlt
      have hcv := hv.cell
      have hBs := hB.size
      have hvl := hv.lt
      gi_wp2_with (gi_at_builtin; refine wpListIn_append_own _ rfl _ _ 48 rfl (w1.heap.size + 4) 2 i0 (.int .i64 0) 1 8 Try.underlying48 HI.out HZ0.out HZ1.out HZ2.out rfl (by decide) _ _ _ rfl (hrow.alloc _) ⟨W.heap.size, 0, none⟩ 1 1 [.int .i64 x.1] rfl rfl (cell_one_new _ _ _) (by simp [Value.oneCell']) (by unfold maxLen; omega) (by omega) (by simp; omega) ?_; intro v' w2 hown' hgrow _; obtain ⟨g', cap', rfl⟩ := ownsRow_succ hown'; obtain ⟨hv1, hv2, hr2, hk2, hb2⟩ := hv.appended (by decide) (row_weak hrow (base' := w.heap.size) (by omega)) hBs (by omega) (row_weak hown' (by omega)) hgrow; have hkp := kpr_append (s := w1.heap.size + 1) (B := w1.heap.size) (v' := .slice (some ⟨g', 0, none⟩) (pre.length + 1) cap') hrow hrs hgrow (by omega); have hc1 := hv1.cell; have hf1 := hv1.frozen)
      have hr3 := hown'.kept (grownBy_setCell' w2 w1.heap.size (.slice (some ⟨g', 0, none⟩) (pre.length + 1) cap')) (.inr (hv1.not_row (by decide) hown').symm)
      exact ⟨hk2.from _, hkp, ⟨_, hv2, by simpa using hr3, by simp⟩, hB.trans hb2, Nat.le_trans hrs hkp.1⟩
    case done =>
      rintro D ys W hD rfl ⟨⟨v, hv, hrow, hnil⟩, hB, hrs⟩ hK
      have hcv := hv.cell
      have HKD := hid hK
      clear hK hnil
      gi_wp2_with fail
      refine ⟨by simp, .inl ⟨_, _, rfl, run_takeDeferred HKD.out, ?_⟩⟩
      have hro := ownsRow_putObj hrow (.deferred none) HKD.out rfl
      have hL : (stl (rOk a b c d p) (raG a b c d p) (p.toNat + 1)).map (fun x : Int × Frm => Value.int .i64 x.1) = (prp a b c d p).map (Value.int .i64) := by unfold prp; rw [List.map_map]; rfl
      have hn : (stl (rOk a b c d p) (raG a b c d p) (p.toNat + 1)).length = (prp a b c d p).length := by unfold prp; rw [List.length_map]
      rw [hL, hn] at hro
      exact ⟨_, results_tmp2 rfl _ _ _, _, rfl, (OwnV.of_owns hro).base (by omega), hB.trans (belowK_b (w := w) (Nat.le_refl _) W D _ _ (by omega) HKD.out rfl rfl)⟩
    case stop =>
      rintro D c pre W _ _ h _
      exact h.elim
  · have HE := hid hk0
    have hk' : (k == 0) = false := by simpa using hk0
    clear hk0
    gi_wp2_with fail
    exact ⟨_, results_tmp2 rfl _ _ _, _, rfl, .inl ⟨rfl, by rw [if_neg HE.out]⟩, U1⟩

end Go.Proofs.Ytmhlolimaeejfaa
