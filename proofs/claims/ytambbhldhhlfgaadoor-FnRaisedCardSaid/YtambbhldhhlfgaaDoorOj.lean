/- Chapter 6: maximal forms at a prime, the program's. -/
import Derived.Test.YtambbhldhhlfgaaDoorOi
namespace Go.Proofs.YtambbhldhhlfgaaDoor
open Go.RowKit Go.Shelf
attribute [local go_sem] Oper.semAt_some

theorem kpr_set {s e : Nat} {A W : World} (h : KpR s e A W) {B : Nat} (hB : B < s) (v : Value) : KpR s e A (W.setCell ⟨B, 0, none⟩ v) :=
  ⟨by rw [World.size_setCell]; exact h.1, fun i h1 h2 => (Below.heap_setCell _ _ _ i (by show i ≠ B; omega)).trans (h.2 i h1 h2)⟩

set_option maxRecDepth 100000 in
set_option maxHeartbeats 4000000 in
theorem iMaximalAt_any (a b c d p : Int) (w : World) : Calls Tryd.prog 20 #[.agg #[.int .i64 a, .int .i64 b, .int .i64 c, .int .i64 d], .int .i64 p] w fun e w' => e = .returned (.tuple #[.bool (mxA a b c d p), .int .i64 (fpc a b c d p)]) ∧ Below w.heap.size w w' := by
  have hC := fun W => iCheckFP_any a b c d p W
  have hF : fpc a b c d p = 0 → isF a b c d = true ∧ prm p = true := fpc_0.1
  have hK : mxA a b c d p = (decide (fpc a b c d p = 0) && !mul0 (cnt a b c d) p && (ptK (rOk a b c d p) (p.toNat + 1)).isEmpty) := rfl
  generalize mxA a b c d p = mx at hK ⊢
  generalize fpc a b c d p = f at hC hF hK ⊢
  have HC := hid hC; have HF := hid hF; have HK := hid hK
  clear hC hF hK
  have A0 := ((Arr.new w a b c d 25).alloc (.cells #[.bool false] 4)).alloc (.cells #[.int .i64 0] 2)
  have B0 := (Boxed.new (w.alloc (.cells #[.int .i64 a, .int .i64 b, .int .i64 c, .int .i64 d] 25)) 4 (.bool false)).alloc (.cells #[.int .i64 0] 2)
  have C0 := Boxed.new ((w.alloc (.cells #[.int .i64 a, .int .i64 b, .int .i64 c, .int .i64 d] 25)).alloc (.cells #[.bool false] 4)) 2 (.int .i64 0)
  have U0 := gr_alloc (gr_alloc (gr_alloc (Below.refl w.heap.size w) (.cells #[.int .i64 a, .int .i64 b, .int .i64 c, .int .i64 d] 25)) (.cells #[.bool false] 4)) (.cells #[.int .i64 0] 2)
  simp only [World.size_alloc] at B0 C0
  refine (callsIn_wide (n := 3)).1 ?_
  refine callsIn_of_wp_marks Tryd.func20 rfl trivial ?_ rfl
  simp only [Tryd.ntmps20, List.size_toArray, List.length_cons, List.length_nil, Nat.reduceAdd, Nat.reduceSub, Array.replicate_succ, Array.replicate_zero, List.push_toArray, List.append_toArray, List.nil_append, List.cons_append]
  gi_wp2_with fail
  refine ⟨trivial, (callsIn_wide.2 (HC.out _)).mono ?_⟩
  rintro e w1 ⟨rfl, hb1⟩
  have A1 := A0.next hb1
  have B1 := box_next B0 hb1
  have C1 := box_next C0 hb1
  have U1 := gr_trans U0 hb1
  clear A0 B0 C0 U0
  by_cases hf : f = 0
  · obtain ⟨hFm, hp⟩ := HF.out hf
    obtain ⟨ha, hb, hc, hd⟩ := isF_t hFm
    obtain ⟨h2, h97⟩ := prm_rng hp
    have HG := hid (fun W hA => iGcd4_any w.heap.size a b c d W hA ha hb hc hd)
    have HS := hid (fun s n W hn hB => raisedAt_stops a b c d p s n W hn ha hb hc hd h2 h97 hB)
    have HR := hid (fun W => stepsFrom_any a b c d p 75 W)
    clear hFm hp ha hb hc hd HF HC
    subst hf
    obtain ⟨_, a0, a1, a2, a3, _⟩ := id A1
    gi_wp2_with fail
    refine ⟨trivial, (callsIn_wide.2 (HG.out _ A1)).mono ?_⟩
    rintro e w2 ⟨rfl, hb2⟩
    have A2 := A1.next hb2
    have B2 := box_next B1 hb2
    have C2 := box_next C1 hb2
    have U2 := gr_trans U1 hb2
    clear A1 B1 C1 U1 a0 a1 a2 a3
    cases hm : mul0 (cnt a b c d) p with
    | true =>
      have HE := hid (show mx = false by rw [HK.out, hm]; simp)
      have hcb := B2.cell
      have hfb := B2.frozen
      have hcc := C2.cell
      have hfc := C2.frozen
      gi_wp2_with (refine ⟨trivial, ?_⟩; gi_at_call 85; refine (callsIn_wide.2 (isMultiple_any _ _ _ (by omega) (by omega))).mono ?_; rintro e w' ⟨rfl, rfl⟩)
      have hx := ((B2.set (.bool false)).other (B' := w.heap.size + 1 + 1) (by omega) (.int .i64 0)).cell
      have hy := ((C2.other (B' := w.heap.size + 1) (by omega) (.bool false)).set (.int .i64 0)).cell
      refine ⟨.tuple #[.bool false, .int .i64 0], (by simp [results, Tryd.results20, go_sem, hx, hy]), ?_⟩
      rw [HE.out]
      exact ⟨rfl, by (repeat' (first | with_reducible exact Below.refl _ _ | with_reducible assumption | with_reducible refine gr_alloc ?_ _ | with_reducible refine gr_drew ?_ | with_reducible refine gr_drewN ?_ _ | with_reducible refine gr_trans ?_ (by assumption) | with_reducible refine gr_set ?_ ?_ _ | (simp; done) | omega | (simp; omega)))⟩
    | false =>
      have HE := hid (show mx = (ptK (rOk a b c d p) (p.toNat + 1)).isEmpty by rw [HK.out, hm]; simp)
      obtain ⟨_, a0, a1, a2, a3, _⟩ := id A2
      gi_wp2_with (refine ⟨trivial, ?_⟩; gi_at_call 85; refine (callsIn_wide.2 (isMultiple_any _ _ _ (by omega) (by omega))).mono ?_; rintro e w' ⟨rfl, rfl⟩)
      refine ⟨trivial, (callsIn_wide.2 (HR.out _)).mono ?_⟩
      rintro e W0 ⟨rfl, hB0, hz, hb0⟩
      have hW2 := U2.size
      have hCl := C2.lt
      have U3 := gr_trans U2 hb0
      have B3 := hid (box_next B2 hb0)
      have C3 := hid (box_next C2 hb0)
      have HB0 := hid hB0
      clear hB0 a0 a1 a2 a3 A2 B2 C2 U2
      have hemp : ∀ q : List (Int × Frm), q <+: stl (rOk a b c d p) (raG a b c d p) (p.toNat + 1) → q ≠ [] → mx = false := fun q hq hne => by
        rw [HE.out, ← ptK_st _ (raG a b c d p), List.isEmpty_eq_false_iff]
        intro h0
        rw [List.map_eq_nil_iff] at h0
        rw [h0] at hq
        exact hne (List.prefix_nil.1 hq)
      have hall : stl (rOk a b c d p) (raG a b c d p) (p.toNat + 1) = [] → mx = true := fun h0 => by rw [HE.out, ← ptK_st _ (raG a b c d p), h0]; rfl
      have HN := hid hemp; have HL := hid hall
      clear hemp hall
      gi_wp2_with fail
      refine wpIn_rangeFunc_ownG (n := 3) rfl (by omega) (gf := 157) (lb := #[.pointer (some ⟨w2.heap.size + 1, 0, none⟩), .pointer (some ⟨w2.heap.size + 2, 0, none⟩), .pointer (some ⟨w2.heap.size, 0, none⟩)]) rfl trivial (enters_of Tryd.func157 (by kernel_rfl) rfl)
        (HS.out w2.heap.size 2 W0 (by omega) HB0.out) (fun h k => KpR.trans h k) (KpR.put (by omega)) (Below.refl _ _) (fun _ => rfl)
        (fun pre W => (pre = [] ∧ Boxed W (w.heap.size + 1) 4 (.bool false) ∧ Boxed W (w.heap.size + 1 + 1) 2 (.int .i64 0)) ∧ Below w.heap.size w W)
        (fun c pre W => (c = .ret ∧ pre ≠ [] ∧ Boxed W (w.heap.size + 1) 4 (.bool false) ∧ Boxed W (w.heap.size + 1 + 1) 2 (.int .i64 0)) ∧ Below w.heap.size w W)
        (OwnFrom.and (Own.from (fun s X Y row hs hg hr => ⟨hs.1, boxed_own (w.heap.size + 1) 4 (fun _ : Unit => .bool false) () X Y row hs.2.1 hg hr, boxed_own (w.heap.size + 1 + 1) 2 (fun _ : Unit => .int .i64 0) () X Y row hs.2.2 hg hr⟩) _) (ownFrom_below (Nat.le_refl _) (by omega)))
        (fun c => OwnFrom.and (Own.from (fun s X Y row hs hg hr => ⟨hs.1, hs.2.1, boxed_own (w.heap.size + 1) 4 (fun _ : Unit => .bool false) () X Y row hs.2.2.1 hg hr, boxed_own (w.heap.size + 1 + 1) 2 (fun _ : Unit => .int .i64 0) () X Y row hs.2.2.2 hg hr⟩) _) (ownFrom_below (Nat.le_refl _) (by omega)))
        ⟨⟨rfl, B3.out, C3.out⟩, U3⟩
        (fun x => { tmps := #[.agg #[.int .i64 a, .int .i64 b, .int .i64 c, .int .i64 d], .int .i64 p, .pointer (some ⟨w.heap.size, 0, none⟩), undef, .pointer (some ⟨w.heap.size + 1, 0, none⟩), .pointer (some ⟨w.heap.size + 1 + 1, 0, none⟩), .int .i64 0, .agg #[.int .i64 a, .int .i64 b, .int .i64 c, .int .i64 d], .int .i64 p, .int .i64 0, .int .i64 0, .bool false, undef, .slice (some ⟨w.heap.size, 0, none⟩) 4 4, .int .i64 (cnt a b c d), .int .i64 p, .bool false, .agg #[.int .i64 a, .int .i64 b, .int .i64 c, .int .i64 d], .int .i64 p, .func (.func 157) #[] #[.pointer (some ⟨w2.heap.size + 1, 0, none⟩), .pointer (some ⟨w2.heap.size + 2, 0, none⟩), .pointer (some ⟨w2.heap.size, 0, none⟩)], .int .i64 x.1, .agg #[.int .i64 x.2.1, .int .i64 x.2.2.1, .int .i64 x.2.2.2.1, .int .i64 x.2.2.2.2]], defers := [] }) ?assign ?body ?done ?stop
      case assign =>
        intro l x W K hK
        dsimp only [encSt]
        gi_wp2
        simp only [List.zip_toArray, List.zip_cons_cons, List.zip_nil_right, List.foldl_toArray, List.foldl_cons, List.foldl_nil, List.setIfInBounds_toArray, List.set_cons_succ, List.set_cons_zero]
        exact hK
      case body =>
        rintro l pre x W ⟨⟨rfl, hBb, hCb⟩, hU⟩ hlt
        have hcb := hBb.cell
        have hfb := hBb.frozen
        have hcc := hCb.cell
        have hfc := hCb.frozen
        have hBf := (hBb.set (.bool false)).other (B' := w.heap.size + 1 + 1) (by omega) (.int .i64 0)
        have hCf := (hCb.other (B' := w.heap.size + 1) (by omega) (.bool false)).set (.int .i64 0)
        gi_wp2
        exact ⟨((KeepsOthers.setCell _ _ _).trans (KeepsOthers.setCell _ _ _)).from _, ⟨rfl, by simp, hBf, hCf⟩, by (repeat' (first | with_reducible exact Below.refl _ _ | with_reducible assumption | with_reducible refine gr_alloc ?_ _ | with_reducible refine gr_drew ?_ | with_reducible refine gr_drewN ?_ _ | with_reducible refine gr_trans ?_ (by assumption) | with_reducible refine gr_set ?_ ?_ _ | (simp; done) | omega | (simp; omega)))⟩
      case done =>
        rintro D ys W hD rfl ⟨⟨hnil, hBb, hCb⟩, hU⟩ hK
        have HM := hid (HL.out hnil)
        have hcb := hBb.cell
        have hfb := hBb.frozen
        have hcc := hCb.cell
        have hfc := hCb.frozen
        have HK := hid hK
        clear hK hnil
        gi_wp2_with fail
        have hK2 := ((KeepsOthers.setCell W ⟨w.heap.size + 1, 0, none⟩ (.bool true)).trans (KeepsOthers.setCell _ ⟨w.heap.size + 1 + 1, 0, none⟩ (.int .i64 0))).same D _ HK.out rfl
        have hx := (((hBb.set (.bool true)).other (B' := w.heap.size + 1 + 1) (by omega) (.int .i64 0)).kept (grownBy_putObj' _ D (.deferred none)) (by simp; omega)).cell
        have hy := (((hCb.other (B' := w.heap.size + 1) (by omega) (.bool true)).set (.int .i64 0)).kept (grownBy_putObj' _ D (.deferred none)) (by simp; omega)).cell
        refine ⟨by simp, .inl ⟨_, _, rfl, run_takeDeferred hK2, ?_⟩⟩
        refine ⟨.tuple #[.bool true, .int .i64 0], (by simp [results, Tryd.results20, go_sem, hx, hy]), ?_⟩
        rw [HM.out]
        exact ⟨rfl, Below.trans (b := ((W.setCell ⟨w.heap.size + 1, 0, none⟩ (.bool true)).setCell ⟨w.heap.size + 1 + 1, 0, none⟩ (.int .i64 0))) (by (repeat' (first | with_reducible exact Below.refl _ _ | with_reducible assumption | with_reducible refine gr_alloc ?_ _ | with_reducible refine gr_drew ?_ | with_reducible refine gr_drewN ?_ _ | with_reducible refine gr_trans ?_ (by assumption) | with_reducible refine gr_set ?_ ?_ _ | (simp; done) | omega | (simp; omega)))) (belowK_b (w := w) (Nat.le_refl _) _ D _ _ (by omega) hK2 rfl rfl)⟩
      case stop =>
        rintro D c pre W hD hpre ⟨⟨rfl, hne, hBb, hCb⟩, hU⟩ hK
        have HM := hid (HN.out pre hpre hne)
        have hx := (hBb.kept (grownBy_putObj' _ D (.deferred none)) (by simp; omega)).cell
        have hy := (hCb.kept (grownBy_putObj' _ D (.deferred none)) (by simp; omega)).cell
        have HK := hid hK
        clear hK hpre hne
        gi_wp2
        refine ⟨by simp, .inl ⟨_, _, rfl, run_takeDeferred HK.out, ?_⟩⟩
        refine ⟨.tuple #[.bool false, .int .i64 0], (by simp [results, Tryd.results20, go_sem, hx, hy]), ?_⟩
        rw [HM.out]
        exact ⟨rfl, hU.trans (belowK_b (w := w) (Nat.le_refl _) W D _ _ (by omega) HK.out rfl rfl)⟩
  · have HE := hid (show mx = false by rw [HK.out]; simp [hf])
    have hf' : (f == 0) = false := by simpa using hf
    have hcb := B1.cell
    have hfb := B1.frozen
    have hcc := C1.cell
    have hfc := C1.frozen
    clear hf
    have hx := ((B1.set (.bool false)).other (B' := w.heap.size + 1 + 1) (by omega) (.int .i64 f)).cell
    have hy := ((C1.other (B' := w.heap.size + 1) (by omega) (.bool false)).set (.int .i64 f)).cell
    gi_wp2_with fail
    refine ⟨.tuple #[.bool false, .int .i64 f], (by simp [results, Tryd.results20, go_sem, hx, hy]), ?_⟩
    rw [HE.out]
    exact ⟨rfl, by (repeat' (first | with_reducible exact Below.refl _ _ | with_reducible assumption | with_reducible refine gr_alloc ?_ _ | with_reducible refine gr_drew ?_ | with_reducible refine gr_drewN ?_ _ | with_reducible refine gr_trans ?_ (by assumption) | with_reducible refine gr_set ?_ ?_ _ | (simp; done) | omega | (simp; omega)))⟩

end Go.Proofs.YtambbhldhhlfgaaDoor
