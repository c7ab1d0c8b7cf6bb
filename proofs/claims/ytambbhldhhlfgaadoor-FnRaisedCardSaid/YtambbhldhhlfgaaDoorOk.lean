/- Chapter 6: forms below, the program's. -/
import Derived.Test.YtambbhldhhlfgaaDoorOj
import Derived.Test.YtambbhldhhlfgaaDoorFlS
import Derived.Test.YtambbhldhhlfgaaDoorZ6
namespace Go.Proofs.YtambbhldhhlfgaaDoor
open Go.RowKit Go.Shelf
attribute [local go_sem] Oper.semAt_some

theorem info_fm : (Tryd.prog.info? 25).map (fun i => (i.zero, i.size, i.bytes)) = some (some (.agg #[.int .i64 0, .int .i64 0, .int .i64 0, .int .i64 0]), 4, 32) := by kernel_rfl
def fi4 (q : Frm) : List Int := [q.1, q.2.1, q.2.2.1, q.2.2.2]
def fr4 (q : Frm) : List Value := [.int .i64 q.1, .int .i64 q.2.1, .int .i64 q.2.2.1, .int .i64 q.2.2.2]
def isQ (q : Frm) : Bool := isF q.1 q.2.1 q.2.2.1 q.2.2.2
theorem fi4_len (L : List Frm) : (L.flatMap fi4).length = 4 * L.length := by
  induction L with
  | nil => rfl
  | cons a L ih => simp only [List.flatMap_cons, List.length_append, ih, List.length_cons]; simp only [fi4, List.length_cons, List.length_nil]; omega
theorem fr4_map (L : List Frm) : L.flatMap fr4 = (L.flatMap fi4).map (Value.int .i64) := by
  induction L with
  | nil => rfl
  | cons a L ih => simp only [List.flatMap_cons, List.map_append, ih]; rfl
theorem OwnX.of_owns {B : Nat} {w : World} {v : Value} {t : TypeId} {L : List Frm} (h : w.ownsRow B t 4 v L.length (L.flatMap fr4)) : OwnX B w v L.length (fun i => (L.flatMap fi4).getD i 0) := by
  rcases h.2 with ⟨rfl, hn⟩ | ⟨g, cap, cur, rfl, hb, hg, hnc, hcm, hs, ht⟩
  · exact .inl ⟨rfl, hn⟩
  · refine .inr ⟨g, cap, rfl, hb, hnc, hcm, (Array.getElem?_eq_some_iff.1 hg).1, fun i hi => ⟨?_, by simp [World.frozen?, hg]⟩⟩
    have hl := fi4_len L
    have hx : (L.flatMap fr4)[i]? = some (.int .i64 ((L.flatMap fi4).getD i 0)) := by
      have hlt : i < (L.flatMap fi4).length := by omega
      rw [fr4_map, List.getElem?_map, List.getElem?_eq_getElem hlt]
      simp only [Option.map_some, List.getD, List.getElem?_eq_getElem hlt, Option.getD_some]
    rw [← ht, List.getElem?_take] at hx
    split at hx
    · simp [World.cell?, hg]
      simpa using hx
    · cases hx
/-- The lowered forms, and the code. -/
def fbl (a b c d p : Int) : List Frm := (stl (lOk a b c d p) (loG a b c d p) (p.toNat + 1)).map (·.2)
def fbc (a b c d p : Int) : Int := if fpc a b c d p = 0 then (if (fbl a b c d p).all isQ then 0 else 3) else fpc a b c d p

set_option maxRecDepth 100000 in
set_option maxHeartbeats 4000000 in
theorem iBelow_any (a b c d p : Int) (w : World) : Calls Tryd.prog 22 #[.agg #[.int .i64 a, .int .i64 b, .int .i64 c, .int .i64 d], .int .i64 p] w (FlsOut (fbc a b c d p) (fbl a b c d p).length (fun i => ((fbl a b c d p).flatMap fi4).getD i 0) w) := by
  have hC := fun W => iCheckFP_any a b c d p W
  have hF : fpc a b c d p = 0 → isF a b c d = true ∧ prm p = true := fpc_0.1
  have hK : fbc a b c d p = if fpc a b c d p = 0 then (if (fbl a b c d p).all isQ then 0 else 3) else fpc a b c d p := rfl
  generalize fbc a b c d p = k at hK ⊢
  generalize fpc a b c d p = f at hC hF hK
  have HC := hid hC; have HF := hid hF; have HK := hid hK
  clear hC hF hK
  obtain ⟨i0, hi, hz0, hz1, hz2⟩ := info_parts info_fm
  have HI := hid hi; have HZ0 := hid hz0; have HZ1 := hid hz1; have HZ2 := hid hz2
  clear hi hz0 hz1 hz2
  have A0 := ((Arr.new w a b c d 25).alloc (.cells #[.slice none 0 0] 38)).alloc (.cells #[.int .i64 0] 2)
  have B0 := (Boxed.new (w.alloc (.cells #[.int .i64 a, .int .i64 b, .int .i64 c, .int .i64 d] 25)) 38 (.slice none 0 0)).alloc (.cells #[.int .i64 0] 2)
  have C0 := Boxed.new ((w.alloc (.cells #[.int .i64 a, .int .i64 b, .int .i64 c, .int .i64 d] 25)).alloc (.cells #[.slice none 0 0] 38)) 2 (.int .i64 0)
  have U0 := gr_alloc (gr_alloc (gr_alloc (Below.refl w.heap.size w) (.cells #[.int .i64 a, .int .i64 b, .int .i64 c, .int .i64 d] 25)) (.cells #[.slice none 0 0] 38)) (.cells #[.int .i64 0] 2)
  simp only [World.size_alloc] at B0 C0
  refine (callsIn_wide (n := 3)).1 ?_
  refine callsIn_of_wp_marks Tryd.func22 rfl trivial ?_ rfl
  simp only [Tryd.ntmps22, List.size_toArray, List.length_cons, List.length_nil, Nat.reduceAdd, Nat.reduceSub, Array.replicate_succ, Array.replicate_zero, List.push_toArray, List.append_toArray, List.nil_append, List.cons_append]
  gi_wp2_with fail
  refine ⟨trivial, (callsIn_wide.2 (HC.out _)).mono ?_⟩
  rintro e w1 ⟨rfl, hb1⟩
  have A1 := A0.next hb1
  have B1 := box_next B0 hb1
  have C1 := box_next C0 hb1
  have U1 := gr_trans U0 hb1
  clear A0 B0 C0 U0
  by_cases hf : f = 0
  · obtain ⟨hFm, hp⟩ := HF.out hf
    obtain ⟨ha, hb, hc, hd⟩ := isF_t hFm
    obtain ⟨h2, h97⟩ := prm_rng hp
    have HS := hid (fun s n W hn hB => loweredAt_stops a b c d p s n W hn ha hb hc hd h2 h97 hB)
    have HR := hid (fun W => stepsFrom_any a b c d p 80 W)
    have HK1 := hid (HK.out.trans (if_pos hf))
    clear hFm hp ha hb hc hd HF HC
    subst hf
    obtain ⟨_, a0, a1, a2, a3, _⟩ := id A1
    gi_wp2_with fail
    refine ⟨trivial, (callsIn_wide.2 (HR.out _)).mono ?_⟩
    rintro e W0 ⟨rfl, hB0, hz, hb0⟩
    simp only [World.size_alloc] at hB0 hz
    have hCl := C1.lt
    have hn0 : Below w1.heap.size w1 W0 := ((Below.refl _ w1).alloc (Nat.le_refl _) (.cells #[.slice none 0 0] 38)).trans (hb0.mono (by simp))
    have U3 := gr_trans U1 hn0
    have B3 := hid (box_next B1 hn0)
    have C3 := hid (box_next C1 hn0)
    have V3 := hid (box_next (Boxed.new w1 38 (.slice none 0 0)) hb0)
    have HB0 := hid hB0
    clear hB0 a0 a1 a2 a3 A1 B1 C1 U1 hn0
    have hstop : ∀ q : List (Int × Frm), q <+: stl (lOk a b c d p) (loG a b c d p) (p.toNat + 1) → (∃ y ∈ q, isQ y.2 = false) → k = 3 := fun q hq hy => by
      obtain ⟨y, hy1, hy2⟩ := hy
      rw [HK1.out, if_neg]
      intro hall
      rw [List.all_eq_true] at hall
      have := hall y.2 (List.mem_map_of_mem (hq.subset hy1))
      rw [hy2] at this; cases this
    have hall : (∀ y ∈ stl (lOk a b c d p) (loG a b c d p) (p.toNat + 1), isQ y.2 = true) → k = 0 := fun h => by
      rw [HK1.out, if_pos]
      rw [List.all_eq_true]
      intro x hx
      obtain ⟨y, hy, rfl⟩ := List.mem_map.1 hx
      exact h y hy
    have HN := hid hstop; have HL := hid hall
    clear hstop hall
    have hs0 : W0.heap.size = w1.heap.size + 4 := by omega
    clear hz
    gi_wp2_with fail
    refine wpIn_rangeFunc_ownH (n := 3) rfl (by omega) (gf := 157) (lb := #[.pointer (some ⟨w1.heap.size + 1 + 1, 0, none⟩), .pointer (some ⟨w1.heap.size + 1 + 2, 0, none⟩), .pointer (some ⟨w1.heap.size + 1, 0, none⟩)]) rfl trivial (enters_of Tryd.func157 (by kernel_rfl) rfl)
      (HS.out (w1.heap.size + 1) 2 W0 (by omega) HB0.out) (fun h k => KpR.trans h k) (KpR.put (by omega)) (Below.refl _ _) (fun _ => rfl)
      (fun pre W => ((∃ v, Boxed W w1.heap.size 38 v ∧ W.ownsRow (w1.heap.size + 4) 25 4 v pre.length ((pre.map (·.2)).flatMap fr4) ∧ (v = .slice none 0 0 ↔ pre = [])) ∧ Boxed W (w.heap.size + 1) 38 (.slice none 0 0) ∧ Boxed W (w.heap.size + 1 + 1) 2 (.int .i64 0)) ∧ Hid (∀ y ∈ pre, isQ y.2 = true) ∧ Below w.heap.size w W ∧ w1.heap.size + 4 ≤ W.heap.size)
      (fun c pre W => (c = .ret ∧ (∃ y ∈ pre, isQ y.2 = false) ∧ Boxed W (w.heap.size + 1) 38 (.slice none 0 0) ∧ Boxed W (w.heap.size + 1 + 1) 2 (.int .i64 3)) ∧ Below w.heap.size w W)
      (OwnFrom.and (Own.from (fun s X Y row hs hg hr => ⟨holdsRow_own (w1.heap.size + 4) w1.heap.size 38 25 4 (fun pre => pre.length) (fun pre : List (Int × Frm) => (pre.map (·.2)).flatMap fr4) (fun pre v => v = .slice none 0 0 ↔ pre = []) s X Y row hs.1 hg hr, boxed_own (w.heap.size + 1) 38 (fun _ : Unit => .slice none 0 0) () X Y row hs.2.1 hg hr, boxed_own (w.heap.size + 1 + 1) 2 (fun _ : Unit => .int .i64 0) () X Y row hs.2.2 hg hr⟩) _) (OwnFrom.and (ownFrom_pure _ _) (OwnFrom.and (ownFrom_below (Nat.le_refl _) (by omega)) (fun s A B row hs hg hr => Nat.le_trans hs hg.size))))
      (fun c => OwnFrom.and (Own.from (fun s X Y row hs hg hr => ⟨hs.1, hs.2.1, boxed_own (w.heap.size + 1) 38 (fun _ : Unit => .slice none 0 0) () X Y row hs.2.2.1 hg hr, boxed_own (w.heap.size + 1 + 1) 2 (fun _ : Unit => .int .i64 3) () X Y row hs.2.2.2 hg hr⟩) _) (ownFrom_below (Nat.le_refl _) (by omega)))
      ⟨⟨⟨_, V3.out, World.ownsRow_nil _ _ _ _, by simp⟩, B3.out, C3.out⟩, hid (fun y hy => by cases hy), U3, by omega⟩
      (fun x a' W => ∃ Bx, w1.heap.size + 4 ≤ Bx ∧ Arr W Bx x.2.1 x.2.2.1 x.2.2.2.1 x.2.2.2.2 ∧ a' = { tmps := #[.agg #[.int .i64 a, .int .i64 b, .int .i64 c, .int .i64 d], .int .i64 p, .pointer (some ⟨w.heap.size, 0, none⟩), undef, .pointer (some ⟨w.heap.size + 1, 0, none⟩), .pointer (some ⟨w.heap.size + 1 + 1, 0, none⟩), .int .i64 0, .pointer (some ⟨w1.heap.size, 0, none⟩), undef, .pointer (some ⟨Bx, 0, none⟩), .agg #[.int .i64 a, .int .i64 b, .int .i64 c, .int .i64 d], .int .i64 p, .int .i64 0, .int .i64 0, .bool false, undef, .agg #[.int .i64 a, .int .i64 b, .int .i64 c, .int .i64 d], .int .i64 p, .func (.func 157) #[] #[.pointer (some ⟨w1.heap.size + 1 + 1, 0, none⟩), .pointer (some ⟨w1.heap.size + 1 + 2, 0, none⟩), .pointer (some ⟨w1.heap.size + 1, 0, none⟩)], .int .i64 x.1, .agg #[.int .i64 x.2.1, .int .i64 x.2.2.1, .int .i64 x.2.2.2.1, .int .i64 x.2.2.2.2], undef, undef, undef, undef, undef, undef, undef, undef], defers := [] })
      (fun x a' s A B row hs hg hr => by obtain ⟨Bx, h1, h2, h3⟩ := hs; exact ⟨Bx, h1, h2.kept hg (fun r e => (hr r e).2), h3⟩) ?assign ?body ?done ?stop
    case assign =>
      rintro l pre x W K ⟨⟨⟨v, hv, hrow, hnil⟩, hBb, hCb⟩, hall, hU, hrs⟩ hK
      dsimp only [encSt]
      gi_wp2
      refine hK _ _ ((KeepsOthers.alloc W (.cells #[.int .i64 x.2.1, .int .i64 x.2.2.1, .int .i64 x.2.2.2.1, .int .i64 x.2.2.2.2] 25)).from _) (KpR.below ((Below.refl W.heap.size W).alloc (Nat.le_refl _) _) (by omega)) ⟨⟨⟨v, hv.alloc _, hrow.alloc _, hnil⟩, hBb.alloc _, hCb.alloc _⟩, hall, gr_alloc hU _, by simp; omega⟩ ⟨W.heap.size, hrs, Arr.new _ _ _ _ _ _, ?_⟩
      rfl
    case body =>
      rintro l pre x a' W _ _ ⟨⟨⟨v, hv, hrow, hnil⟩, hBb, hCb⟩, hall, hU, hrs⟩ ⟨Bx, hBx, hA, rfl⟩ hlt
      have HA := hid hA
      obtain ⟨_, a0, a1, a2, a3, _⟩ := id hA
      have hUs := hU.size
      have hvl := hv.lt
      cases hq : isQ x.2 with
      | false =>
        have HQ := hid hq
        have hc0 := fun W => iIsForm_any x.2.1 x.2.2.1 x.2.2.2.1 x.2.2.2.2 W
        unfold isQ at hq
        rw [hq] at hc0
        have HF := hid hc0
        clear hq hc0 hA
        gi_wp2_with fail
        refine ⟨trivial, (CallsIn.inRound l (callsIn_wide.2 (HF.out _))).mono ?_⟩
        rintro e w3 ⟨rfl, hb3⟩
        have hB3 := box_next hBb hb3
        have hC3 := box_next hCb hb3
        have hcb := hB3.cell
        have hfb := hB3.frozen
        have hcc := hC3.cell
        have hfc := hC3.frozen
        have hBf := (hB3.set (.slice none 0 0)).other (B' := w.heap.size + 1 + 1) (by omega) (.int .i64 3)
        have hCf := (hC3.other (B' := w.heap.size + 1) (by omega) (.slice none 0 0)).set (.int .i64 3)
        have hU3 := hU.trans (hb3.mono hUs)
        gi_wp2_with fail
        exact ⟨(((keeps_next hb3).trans (KeepsOthers.setCell _ _ _)).trans (KeepsOthers.setCell _ _ _)).from _, ⟨rfl, ⟨x, by simp, HQ.out⟩, hBf, hCf⟩, by (repeat' (first | with_reducible exact Below.refl _ _ | with_reducible assumption | with_reducible refine gr_alloc ?_ _ | with_reducible refine gr_drew ?_ | with_reducible refine gr_drewN ?_ _ | with_reducible refine gr_trans ?_ (by assumption) | with_reducible refine gr_set ?_ ?_ _ | (simp; done) | omega | (simp; omega)))⟩
      | true =>
        have HQ := hid hq
        have hc0 := fun W => iIsForm_any x.2.1 x.2.2.1 x.2.2.2.1 x.2.2.2.2 W
        unfold isQ at hq
        rw [hq] at hc0
        have HF := hid hc0
        clear hq hc0 hA
        gi_wp2_with fail
        refine ⟨trivial, (CallsIn.inRound l (callsIn_wide.2 (HF.out _))).mono ?_⟩
        rintro e w3 ⟨rfl, hb3⟩
        have hv3 := box_next hv hb3
        have hcv := hv3.cell
        have hrow3 := row_next hrow hb3
        have hB3 := box_next hBb hb3
        have hC3 := box_next hCb hb3
        have hA3 := HA.out.next hb3
        have hU3 := hU.trans (hb3.mono hUs)
        have hs3 := hb3.size
        clear a0 a1 a2 a3
        obtain ⟨_, a0, a1, a2, a3, _⟩ := id hA3
        gi_wp2_with (gi_at_builtin; refine wpListIn_append_own _ rfl _ _ 38 rfl (w1.heap.size + 4) 25 i0 (.agg #[.int .i64 0, .int .i64 0, .int .i64 0, .int .i64 0]) 4 32 Tryd.underlying38 HI.out HZ0.out HZ1.out HZ2.out rfl (by decide) _ _ _ rfl (hrow3.alloc _) ⟨w3.heap.size, 0, none⟩ 1 1 (fr4 x.2) rfl rfl ?a1 ?b1 ?c1 ?d1 ?e1 ?_)
        case a1 =>
          intro j u hj
          match j, hj with
          | 0, hj => simp [fr4] at hj; subst hj; simp [Addr.add, go_sem]
          | 1, hj => simp [fr4] at hj; subst hj; simp [Addr.add, go_sem]
          | 2, hj => simp [fr4] at hj; subst hj; simp [Addr.add, go_sem]
          | 3, hj => simp [fr4] at hj; subst hj; simp [Addr.add, go_sem]
        case b1 => intro u hu; simp [fr4] at hu; rcases hu with rfl | rfl | rfl | rfl <;> rfl
        case c1 => unfold maxLen; omega
        case d1 => omega
        case e1 => simp; omega
        intro v' w4 hown' hgrow _
        obtain ⟨g', cap', rfl⟩ := ownsRow_succ hown'
        obtain ⟨hv4, hv5, _, hk5, hb5⟩ := hv3.appended (by decide) (row_weak hrow3 (base' := w.heap.size) (by omega)) (by omega) (by omega) (row_weak hown' (by omega)) hgrow
        have hkp := kpr_append (s := w1.heap.size + 1) (B := w1.heap.size) (v' := .slice (some ⟨g', 0, none⟩) (pre.length + 1) cap') hrow3 (by omega) hgrow (by omega)
        have hr5 := hown'.kept (grownBy_setCell' w4 w1.heap.size (.slice (some ⟨g', 0, none⟩) (pre.length + 1) cap')) (.inr (hv4.not_row (by decide) hown').symm)
        have hB5 := ((hB3.alloc _).kept hgrow (hB3.not_row (by decide) hrow3)).other (B' := w1.heap.size) (by omega) (.slice (some ⟨g', 0, none⟩) (pre.length + 1) cap')
        have hC5 := ((hC3.alloc _).kept hgrow (hC3.not_row (by decide) hrow3)).other (B' := w1.heap.size) (by omega) (.slice (some ⟨g', 0, none⟩) (pre.length + 1) cap')
        have hc4 := hv4.cell
        have hf4 := hv4.frozen
        have HKP := hid hkp; have HR5 := hid hr5; have HB5 := hid hB5; have HC5 := hid hC5; have HV5 := hid hv5; have HK5 := hid hk5; have HBW := hid hb5
        clear hkp hr5 hB5 hC5 hv5 hk5 hb5 hown' hgrow a0 a1 a2 a3 hA3
        gi_wp2_with fail
        refine ⟨((keeps_next hb3).trans HK5.out).from _, (KpR.below hb3 (by omega)).trans HKP.out, ⟨⟨_, HV5.out, by simpa using HR5.out, by simp⟩, HB5.out, HC5.out⟩, hid (fun y hy => ?_), hU3.trans HBW.out, Nat.le_trans (by omega) HKP.out.1⟩
        rcases List.mem_append.1 hy with hy | hy
        · exact hall.out y hy
        · have e : y = x := by simpa using hy
          rw [e]; exact HQ.out
    case done =>
      rintro D ys W hD rfl ⟨⟨⟨v, hv, hrow, hnil⟩, hBb, hCb⟩, hall, hU, hrs⟩ hK
      have HM := hid (HL.out hall.out)
      have hcv := hv.cell
      have hcb := hBb.cell
      have hfb := hBb.frozen
      have hcc := hCb.cell
      have hfc := hCb.frozen
      have HKD := hid hK
      have hvl := hv.lt
      clear hK hnil
      have hL : (stl (lOk a b c d p) (loG a b c d p) (p.toNat + 1)).map (·.2) = fbl a b c d p := rfl
      have hn : (stl (lOk a b c d p) (loG a b c d p) (p.toNat + 1)).length = (fbl a b c d p).length := by unfold fbl; rw [List.length_map]
      rw [hL, hn] at hrow
      obtain ⟨va, cap, rfl⟩ : ∃ va cap, v = .slice va (fbl a b c d p).length cap := by
        rcases hrow.2 with ⟨rfl, h⟩ | ⟨g, cap, cur, rfl, _⟩
        · exact ⟨none, 0, by rw [h]⟩
        · exact ⟨_, cap, rfl⟩
      have hBf := (hBb.set (.slice va (fbl a b c d p).length cap)).other (B' := w.heap.size + 1 + 1) (by omega) (.int .i64 0)
      have hCf := (hCb.other (B' := w.heap.size + 1) (by omega) (.slice va (fbl a b c d p).length cap)).set (.int .i64 0)
      have hrf := (hrow.kept (grownBy_setCell' W (w.heap.size + 1) (.slice va (fbl a b c d p).length cap)) (.inr (hBb.not_row (by decide) hrow).symm)).kept (grownBy_setCell' _ (w.heap.size + 1 + 1) (.int .i64 0)) (.inr ((hCb.other (B' := w.heap.size + 1) (by omega) (.slice va (fbl a b c d p).length cap)).not_row (by decide) (hrow.kept (grownBy_setCell' W (w.heap.size + 1) (.slice va (fbl a b c d p).length cap)) (.inr (hBb.not_row (by decide) hrow).symm))).symm)
      have HBF := hid hBf; have HCF := hid hCf; have HRF := hid hrf; have HB := hid hBb
      clear hL hn hrow hBf hCf hrf
      gi_wp2_with fail
      have hK2 := ((KeepsOthers.setCell W ⟨w.heap.size + 1, 0, none⟩ (.slice va (fbl a b c d p).length cap)).trans (KeepsOthers.setCell _ ⟨w.heap.size + 1 + 1, 0, none⟩ (.int .i64 0))).same D _ HKD.out rfl
      have hx := (HBF.out.kept (grownBy_putObj' _ D (.deferred none)) (by simp; omega)).cell
      have hy := (HCF.out.kept (grownBy_putObj' _ D (.deferred none)) (by simp; omega)).cell
      have hro := ownsRow_putObj HRF.out (.deferred none) hK2 rfl
      refine ⟨by simp, .inl ⟨_, _, rfl, run_takeDeferred hK2, ?_⟩⟩
      refine ⟨.tuple #[.slice va (fbl a b c d p).length cap, .int .i64 0], (by simp [results, Tryd.results22, go_sem, hx, hy]), ?_⟩
      rw [HM.out]
      exact ⟨_, rfl, (OwnX.of_owns hro).base (by omega), Below.trans (b := ((W.setCell ⟨w.heap.size + 1, 0, none⟩ (.slice va (fbl a b c d p).length cap)).setCell ⟨w.heap.size + 1 + 1, 0, none⟩ (.int .i64 0))) (by (repeat' (first | with_reducible exact Below.refl _ _ | with_reducible assumption | with_reducible refine gr_alloc ?_ _ | with_reducible refine gr_drew ?_ | with_reducible refine gr_drewN ?_ _ | with_reducible refine gr_trans ?_ (by assumption) | with_reducible refine gr_set ?_ ?_ _ | (simp; done) | omega | (simp; omega)))) (belowK_b (w := w) (Nat.le_refl _) _ D _ _ (by omega) hK2 rfl rfl)⟩
    case stop =>
      rintro D c pre W hD hpre ⟨⟨rfl, hne, hBb, hCb⟩, hU⟩ hK
      have HM := hid (HN.out pre hpre hne)
      have hx := (hBb.kept (grownBy_putObj' _ D (.deferred none)) (by simp; omega)).cell
      have hy := (hCb.kept (grownBy_putObj' _ D (.deferred none)) (by simp; omega)).cell
      have HK := hid hK
      clear hK hpre hne
      gi_wp2
      refine ⟨by simp, .inl ⟨_, _, rfl, run_takeDeferred HK.out, ?_⟩⟩
      refine ⟨.tuple #[.slice none 0 0, .int .i64 3], (by simp [results, Tryd.results22, go_sem, hx, hy]), ?_⟩
      rw [HM.out]
      exact ⟨_, rfl, .inl ⟨rfl, rfl⟩, hU.trans (belowK_b (w := w) (Nat.le_refl _) W D _ _ (by omega) HK.out rfl rfl)⟩
  · have HE := hid (HK.out.trans (if_neg hf))
    have hf' : (f == 0) = false := by simpa using hf
    have HF0 := hid hf
    have hcb := B1.cell
    have hfb := B1.frozen
    have hcc := C1.cell
    have hfc := C1.frozen
    have hx := ((B1.set (.slice none 0 0)).other (B' := w.heap.size + 1 + 1) (by omega) (.int .i64 f)).cell
    have hy := ((C1.other (B' := w.heap.size + 1) (by omega) (.slice none 0 0)).set (.int .i64 f)).cell
    clear hf
    gi_wp2_with fail
    refine ⟨.tuple #[.slice none 0 0, .int .i64 f], (by simp [results, Tryd.results22, go_sem, hx, hy]), ?_⟩
    rw [HE.out]
    exact ⟨_, rfl, .inl ⟨rfl, by rw [if_neg HF0.out]⟩, by (repeat' (first | with_reducible exact Below.refl _ _ | with_reducible assumption | with_reducible refine gr_alloc ?_ _ | with_reducible refine gr_drew ?_ | with_reducible refine gr_drewN ?_ _ | with_reducible refine gr_trans ?_ (by assumption) | with_reducible refine gr_set ?_ ?_ _ | (simp; done) | omega | (simp; omega)))⟩

end Go.Proofs.YtambbhldhhlfgaaDoor
