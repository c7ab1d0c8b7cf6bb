/- Chapter 2: the program's waysToReduced. -/
import Derived.Test.YtipeeljapmiciaaBaMz
import Derived.Test.YtipeeljapmiciaaBaZ4
import Derived.Test.YtipeeljapmiciaaBaC2a
namespace Go.Proofs.Ytipeeljapmiciaa
open Go.RowKit

theorem ch_cA (T u : Red.F4) : Rd.ch T u = (cA T.1 T.2.1 T.2.2.1 T.2.2.2 u.1 u.2.2.1, cB T.1 T.2.1 T.2.2.1 T.2.2.2 u.1 u.2.1 u.2.2.1 u.2.2.2, cC T.1 T.2.1 T.2.2.1 T.2.2.2 u.1 u.2.1 u.2.2.1 u.2.2.2, cA T.1 T.2.1 T.2.2.1 T.2.2.2 u.2.1 u.2.2.2) := by
  unfold Rd.ch Red.fA Red.fB Red.fv cA cB cC vx
  refine Prod.ext ?_ (Prod.ext ?_ (Prod.ext ?_ ?_)) <;> dsimp only <;> grind
theorem iCh_any (T u : Red.F4) (hT : Red.Bd T) (hu : Rd.Sm u) (w : World) : Calls Try.prog 83 #[vF T, vF u] w fun e w' => e = .returned (vF (Rd.ch T u)) ∧ Below w.heap.size w w' := by
  obtain ⟨a, b, c, d⟩ := T
  obtain ⟨x, y, z, t⟩ := u
  obtain ⟨ha, hb, hc, hd⟩ := hT
  obtain ⟨h1, h2, h3, h4⟩ := hu
  dsimp only at ha hb hc hd h1 h2 h3 h4
  rw [ch_cA]
  exact iChange_any a b c d x y z t 1620000000 1 w (by omega) hb hc (by omega) h1 h2 h3 h4 (by decide) (by decide)
theorem iIsRd_any (t : Red.F4) (n : Int) (h : Red.Bd t) (w : World) : Calls Try.prog 84 #[vF t, .int .i64 n] w fun e w' => e = .returned (.bool (Red.rdF (decide (0 < n)) t)) ∧ Below w.heap.size w w' := by
  obtain ⟨a, b, c, d⟩ := t
  obtain ⟨e1, e2, e3⟩ := mg_in (decide (0 < n)) h
  have := iIsRed0_any a b c d n w
  rw [e1, e2, e3] at this
  exact this
theorem iMpF_any (x y : Red.F4) (w : World) : Calls Try.prog 60 #[vF x, vF y] w fun e w' => e = .returned (vF (Rd.mm x y)) ∧ Below w.heap.size w w' :=
  iMp_any x.1 x.2.1 x.2.2.1 x.2.2.2 y.1 y.2.1 y.2.2.1 y.2.2.2 w
theorem flat_at : ∀ {L : List Red.F4} {k : Nat} {q : Red.F4}, L[k]? = some q → (L.flatMap gm4).getD (k * 4) 0 = q.1 ∧ (L.flatMap gm4).getD (k * 4 + 1) 0 = q.2.1 ∧ (L.flatMap gm4).getD (k * 4 + 2) 0 = q.2.2.1 ∧ (L.flatMap gm4).getD (k * 4 + 3) 0 = q.2.2.2
  | [], _, _, h => by simp at h
  | p :: r, 0, q, h => by simp at h; subst h; simp [gm4]
  | p :: r, k + 1, q, h => by
    simp only [List.getElem?_cons_succ] at h
    have ih := flat_at h
    have e : ∀ j, (List.flatMap gm4 (p :: r)).getD ((k + 1) * 4 + j) 0 = (List.flatMap gm4 r).getD (k * 4 + j) 0 := fun j => by
      rw [List.flatMap_cons, show (k + 1) * 4 + j = (gm4 p).length + (k * 4 + j) by simp [gm4]; omega]
      simp [List.getD, List.getElem?_append_right]
    exact ⟨(e 0).trans ih.1, (e 1).trans ih.2.1, (e 2).trans ih.2.2.1, (e 3).trans ih.2.2.2⟩
/-- One matrix of a row. -/
theorem RowM.at {B : Nat} {w : World} {v : Value} {L : List Red.F4} (h : RowM B w v L) {k : Nat} {q : Red.F4} (hk : L[k]? = some q) :
    ∃ g cap, v = .slice (some ⟨g, 0, none⟩) L.length cap ∧ B ≤ g ∧ L.length ≤ cap ∧ cap ≤ maxLen ∧ At4 w g (k * 4) q.1 q.2.1 q.2.2.1 q.2.2.2 := by
  have hlt := (List.getElem?_eq_some_iff.1 hk).1
  obtain ⟨e0, e1, e2, e3⟩ := flat_at hk
  rcases h.out with ⟨_, h0⟩ | ⟨g, cap, rfl, hb, hc, hm, hg, hx⟩
  · omega
  · refine ⟨g, cap, rfl, hb, hc, hm, hg, ?_, ?_, ?_, ?_⟩
    · rw [← e0]; exact (hx (k * 4) (by omega)).1
    · rw [← e1]; exact (hx (k * 4 + 1) (by omega)).1
    · rw [← e2]; exact (hx (k * 4 + 2) (by omega)).1
    · rw [← e3]; exact (hx (k * 4 + 3) (by omega)).1
theorem mkMap_run (w : World) : (Instr.makeMap 62 none).run Try.prog w = .ok (.map (some w.heap.size)) (w.alloc (.map #[] 0)) := rfl
theorem cells12 {W : World} {i j k : Nat} {a b c d p q r s x y z t : Int} (A : Arr W i a b c d) (B : Arr W j p q r s) (C : Arr W k x y z t) :
    W.cell? ⟨i, 0, none⟩ = some (.int .i64 a) ∧ W.cell? ⟨i, 1, none⟩ = some (.int .i64 b) ∧ W.cell? ⟨i, 2, none⟩ = some (.int .i64 c) ∧ W.cell? ⟨i, 3, none⟩ = some (.int .i64 d) ∧ W.cell? ⟨j, 0, none⟩ = some (.int .i64 p) ∧ W.cell? ⟨j, 1, none⟩ = some (.int .i64 q) ∧ W.cell? ⟨j, 2, none⟩ = some (.int .i64 r) ∧ W.cell? ⟨j, 3, none⟩ = some (.int .i64 s) ∧ W.cell? ⟨k, 0, none⟩ = some (.int .i64 x) ∧ W.cell? ⟨k, 1, none⟩ = some (.int .i64 y) ∧ W.cell? ⟨k, 2, none⟩ = some (.int .i64 z) ∧ W.cell? ⟨k, 3, none⟩ = some (.int .i64 t) :=
  ⟨A.c0, A.c1, A.c2, A.c3, B.c0, B.c1, B.c2, B.c3, C.c0, C.c1, C.c2, C.c3⟩
theorem Mp.row_ne {w : World} {b B : Nat} {v : Value} {L : List Red.F4} {M : List (Red.F4 × Value)} (h : Mp w b M) (R : RowM B w v L) : some b ≠ v.ownBlock := by
  rcases R.2 with ⟨rfl, _⟩ | ⟨g, cap, cur, rfl, _, hg, _⟩
  · simp [Value.ownBlock]
  · intro e
    have : b = g := by simpa [Value.ownBlock] using e
    subst this
    unfold Mp at h; rw [h] at hg; cases hg
theorem storeE {w : World} {b i : Nat} {v val : Value} {L : List (Red.F4 × Value)} {k : Red.F4} (hb : Mp w b L) (hm : L[i]? = some (k, v)) :
    ∃ w', (Instr.entryStore 62 (.map (some b)) (.int .i64 (i : Int)) val).run Try.prog w = .ok () w' ∧ Gb b w w' ∧ w'.heap.size = w.heap.size ∧ Mp w' b (L.set i (k, val)) := by
  obtain ⟨h1, h2, h3⟩ := setBlock_gb (o' := .map (mes 0 (L.set i (k, val))).toArray (L.set i (k, val)).length) hb
  exact ⟨_, store_run hb hm, h1, h2, h3⟩
theorem Arr.grownB {w w' : World} {k : Nat} {a b c d : Int} {row : Option Nat} (h : Arr w k a b c d) (hg : w.grownBy w' row) (hne : some k ≠ row) : Arr w' k a b c d := by
  have hc : ∀ o, w'.cell? ⟨k, o, none⟩ = w.cell? ⟨k, o, none⟩ := fun o => World.cell?_of_block (a := ⟨k, o, none⟩) (hg.block k h.lt hne)
  have hf : ∀ o, w'.frozen? ⟨k, o, none⟩ = w.frozen? ⟨k, o, none⟩ := fun o => World.frozen?_of_block (a := ⟨k, o, none⟩) (hg.block k h.lt hne)
  exact ⟨Nat.lt_of_lt_of_le h.lt hg.size, (hc 0).trans h.c0, (hc 1).trans h.c1, (hc 2).trans h.c2, (hc 3).trans h.c3, (hf 0).trans h.f0, (hf 1).trans h.f1, (hf 2).trans h.f2, (hf 3).trans h.f3⟩
theorem Gb.belowB {b B : Nat} {w v u : World} (h : Below B w v) (k : Gb b v u) (hB : B ≤ w.heap.size) (hb : B ≤ b) : Below B w u :=
  ⟨k.os.trans h.os, k.tape.trans h.tape, k.output.trans h.output, Nat.le_trans h.size k.size, fun i hi => (k.block i (Nat.lt_of_lt_of_le hi (Nat.le_trans hB h.size)) (fun e => by cases e; omega)).trans (h.block i hi)⟩
theorem grp_len (s : Bool) (T M : Red.F4) : ∀ (us : List Red.F4), ∀ p ∈ Rd.grp s T M us, p.2.length ≤ us.length := by
  have key : ∀ (G : List (Red.F4 × List Red.F4)) (k m : Red.F4) (n : Nat), (∀ p ∈ G, p.2.length ≤ n) → ∀ p ∈ Rd.addG G k m, p.2.length ≤ n + 1 := by
    intro G k m n
    induction G with
    | nil => intro _ p hp; simp [Rd.addG] at hp; subst hp; simp
    | cons q r ih =>
      obtain ⟨k', l⟩ := q
      intro h p hp
      unfold Rd.addG at hp
      split at hp
      · rcases List.mem_cons.1 hp with rfl | hp
        · have := h (k', l) (by simp); simpa using this
        · have := h p (by simp [hp]); omega
      · rcases List.mem_cons.1 hp with rfl | hp
        · have := h (k', l) (by simp); simp at this ⊢; omega
        · exact ih (fun p hp => h p (by simp [hp])) p hp
  intro us
  have : ∀ vs : List Red.F4, ∀ p ∈ Rd.grp s T M vs.reverse, p.2.length ≤ vs.length := by
    intro vs
    induction vs with
    | nil => intro p hp; simp [Rd.grp] at hp
    | cons u vs ih =>
      intro p hp
      rw [List.reverse_cons, Rd.grp_snoc] at hp
      unfold Rd.oneG at hp
      split at hp
      · exact key _ _ _ _ ih p hp
      · have := ih p hp; simp; omega
  have h := this us.reverse
  rwa [List.reverse_reverse, List.length_reverse] at h
set_option maxRecDepth 100000 in
set_option maxHeartbeats 4000000 in
theorem iWays_any (a b c d : Int) (s : Bool) (T M : Red.F4) (hT : Red.Bd T) (hU : Red.UB T) (hs : decide (0 < sg (dsc a b c d)) = s)
    (hR : ∀ w, Calls Try.prog 81 #[.agg #[.int .i64 a, .int .i64 b, .int .i64 c, .int .i64 d]] w fun e w' => e = .returned (.tuple #[vF T, vF M]) ∧ Below w.heap.size w w') (w : World) :
    Calls Try.prog 49 #[.agg #[.int .i64 a, .int .i64 b, .int .i64 c, .int .i64 d]] w fun e w' => ∃ bm L B, e = .returned (.map (some bm)) ∧ Mp w' bm L ∧ Wys B w' (Rd.grp s T M (Rd.uni 81)) L ∧ w.heap.size ≤ B ∧ w.heap.size ≤ bm ∧ Below w.heap.size w w' := by
  have hum : ∀ u ∈ Rd.uni 81, Rd.Sm u ∧ Rd.dt u * Rd.dt u = 1 := fun u hu => Rd.uni_mem (Nat.le_refl _) hu
  have hul := Rd.uni_len 81
  have hun := fun W => iUnits_any W
  unfold UnOut at hun
  generalize Rd.uni 81 = us at *
  have HC := hid (fun u (hu : Rd.Sm u) W => iCh_any T u hT hu W)
  have HI := hid (fun u (h1 : Rd.Sm u) (h2 : Rd.dt u * Rd.dt u = 1) W => iIsRd_any (Rd.ch T u) (sg (dsc a b c d)) (Rd.ch_bd hU h1 h2) W)
  have HP := hid (fun u W => iMpF_any M u W)
  rw [hs] at HI
  have HR := hid hR; have HN := hid hun; have HM := hid hum; have HL := hid hul
  have HS := hid (fun W => iSign_any a b c d W)
  clear hT hU hs hR hun hum hul
  generalize sg (dsc a b c d) = sn at HI HS
  have A0 := Arr.new w a b c d 23
  have U0 := gr_alloc (Below.refl w.heap.size w) (.cells #[.int .i64 a, .int .i64 b, .int .i64 c, .int .i64 d] 23)
  obtain ⟨ta, tb, tc, td⟩ := T
  obtain ⟨ma, mb, mc, md⟩ := M
  unfold vF at HR HC HI HP
  dsimp only at HR HC HI HP
  go_enter Try.func49, Try.ntmps49
  obtain ⟨_, a0, a1, a2, a3, _⟩ := id A0
  go_wp2_with fail
  refine (HS.out _).mono ?_
  rintro e w1 ⟨rfl, hb1⟩
  have A1 := A0.next hb1; have U1 := gr_trans U0 hb1
  clear a0 a1 a2 a3 A0 U0 hb1
  obtain ⟨_, a0, a1, a2, a3, _⟩ := id A1
  go_wp2_with fail
  refine (HR.out _).mono ?_
  rintro e w2 ⟨rfl, hb2⟩
  have U2 := gr_trans U1 hb2
  clear a0 a1 a2 a3 A1 U1 hb2
  have hmk := fun W => mkMap_run W
  have T0 := (Arr.new w2 ta tb tc td 23).alloc (.cells #[.int .i64 ma, .int .i64 mb, .int .i64 mc, .int .i64 md] 34)
  have M0 := Arr.new (w2.alloc (.cells #[.int .i64 ta, .int .i64 tb, .int .i64 tc, .int .i64 td] 23)) ma mb mc md 34
  simp only [World.size_alloc] at M0
  have U3 := gr_alloc (gr_alloc (gr_alloc U2 (.cells #[.int .i64 ta, .int .i64 tb, .int .i64 tc, .int .i64 td] 23)) (.cells #[.int .i64 ma, .int .i64 mb, .int .i64 mc, .int .i64 md] 34)) (.map #[] 0)
  have T1 := T0.alloc (.map #[] 0)
  have M1 := M0.alloc (.map #[] 0)
  have B1 : Mp (((w2.alloc (.cells #[.int .i64 ta, .int .i64 tb, .int .i64 tc, .int .i64 td] 23)).alloc (.cells #[.int .i64 ma, .int .i64 mb, .int .i64 mc, .int .i64 md] 34)).alloc (.map #[] 0)) (w2.heap.size + 1 + 1) [] := by
    have := World.alloc_heap_new ((w2.alloc (.cells #[.int .i64 ta, .int .i64 tb, .int .i64 tc, .int .i64 td] 23)).alloc (.cells #[.int .i64 ma, .int .i64 mb, .int .i64 mc, .int .i64 md] 34)) (.map #[] 0)
    simp only [World.size_alloc] at this
    exact this
  go_wp2_with fail
  generalize ((w2.alloc (.cells #[.int .i64 ta, .int .i64 tb, .int .i64 tc, .int .i64 td] 23)).alloc (.cells #[.int .i64 ma, .int .i64 mb, .int .i64 mc, .int .i64 md] 34)).alloc (.map #[] 0) = w3 at T1 M1 B1 U3 ⊢
  have hsw := U2.size
  clear T0 M0 U2 hmk
  generalize w2.heap.size = j at *
  refine (HN.out _).mono ?_
  rintro e w4 ⟨uv, rfl, hrow, hb4⟩
  have T2 := T1.next hb4; have M2 := M1.next hb4; have B2 := B1.nextW hb4; have U4 := gr_trans U3 hb4
  have hbl := B1.lt
  clear T1 M1 B1 U3 hb4
  obtain ⟨av, cv, rfl⟩ := hrow.val
  have HROW := hid hrow
  clear hrow
  have HB2 := hid B2; have HT2 := hid T2; have HM2 := hid M2; have HU4 := hid U4
  clear T2 M2 B2 U4
  go_wp2_with fail
  go_loopg [20] us.length (fun g s20 wr => ∃ (k : Nat) (L : List (Red.F4 × Value)), s20 = .int .i64 ((k : Int)) ∧ k + g = us.length ∧ Gb (j + 1 + 1) w4 wr ∧ Mp wr (j + 1 + 1) L ∧ Wys w4.heap.size wr (Rd.grp s (ta, tb, tc, td) (ma, mb, mc, md) (us.take k)) L)
  case atStart => exact ⟨0, [], rfl, by simp, Gb.refl _ _, HB2.out, by simpa [Rd.grp] using Wys.nil _ _⟩
  case round =>
    obtain ⟨k, L, rfl, hk, hg, hmp, hwy⟩ := hrel
    have HG := hid hg; have HMP := hid hmp; have HWY := hid hwy; have HK := hid hk
    clear hg hmp hwy hk
    by_cases hlt : k < us.length
    · obtain ⟨q, hq⟩ : ∃ q, us[k]? = some q := ⟨_, List.getElem?_eq_getElem hlt⟩
      obtain ⟨hq1, hq2⟩ := HM.out q (List.mem_of_getElem? hq)
      have htk : us.take (k + 1) = us.take k ++ [q] := by rw [List.take_add_one, hq]; rfl
      have hr := HG.out.row HROW.out HB2.out
      obtain ⟨gu, cu, hv, _, hc1, hc2, hat⟩ := hr.at hq
      cases hv
      unfold maxLen at hc2
      have HC1 := hid (HC.out q hq1)
      have HI1 := hid (HI.out q hq1 hq2)
      have HP1 := hid (HP.out q)
      have HTK := hid htk
      have Tr := HG.out.arr HT2.out HB2.out
      have hn := HL.out
      clear hr hq hq1 hq2 htk
      obtain ⟨q0, q1, q2, q3⟩ := q
      dsimp only at HC1 HI1 HP1 hat
      obtain ⟨_, u0, u1, u2, u3⟩ := hat
      have e81 : decide ((k : Int) < (us.length : Int)) = true := by simp; omega
      go_upto_region 7 with fail
      obtain ⟨g, rfl⟩ : ∃ g, gk = g + 1 := ⟨gk - 1, by have := HK.out; omega⟩
      have Q1 := Arr.new wr q0 q1 q2 q3 34
      have G1 := hid (HG.out.alloc (.cells #[.int .i64 q0, .int .i64 q1, .int .i64 q2, .int .i64 q3] 34)); have P1 := hid (HMP.out.alloc (.cells #[.int .i64 q0, .int .i64 q1, .int .i64 q2, .int .i64 q3] 34))
      have Y1 := hid (HWY.out.gb (Gb.alloc (Gb.refl (j + 1 + 1) wr) (.cells #[.int .i64 q0, .int .i64 q1, .int .i64 q2, .int .i64 q3] 34)) HMP.out)
      have T3 := Tr.alloc (.cells #[.int .i64 q0, .int .i64 q1, .int .i64 q2, .int .i64 q3] 34)
      have HLT := hid HWY.out.lt
      have hjw := HB2.out.lt
      have hjw4 := HG.out.size
      clear HG HMP HWY u0 u1 u2 u3 Tr
      generalize hjr : wr.heap.size = jr at *
      generalize wr.alloc (.cells #[.int .i64 q0, .int .i64 q1, .int .i64 q2, .int .i64 q3] 34) = W1 at Q1 G1 P1 Y1 T3 ⊢
      clear hjr
      obtain ⟨_, c0, c1, c2, c3, _⟩ := id T3
      obtain ⟨_, d0, d1, d2, d3, _⟩ := id Q1
      go_wp2_with fail
      refine (HC1.out _).mono ?_
      rintro e W2 ⟨rfl, hbb⟩
      generalize hch : Rd.ch (ta, tb, tc, td) (q0, q1, q2, q3) = fch at HI1 ⊢
      obtain ⟨f0, f1, f2, f3⟩ := fch
      have HCH := hid hch
      clear hch
      dsimp only at HI1 ⊢
      have G2 := hid (G1.out.next hbb); have P2 := hid (P1.out.nextW hbb); have Y2 := hid (Y1.out.gb (Gb.below hbb) P1.out)
      have T4 := T3.next hbb; have Q2 := Q1.next hbb
      clear G1 P1 Y1 T3 Q1 c0 c1 c2 c3 d0 d1 d2 d3 hbb HC1
      have F1 := Arr.new W2 f0 f1 f2 f3 23
      have G1 := hid (G2.out.alloc (.cells #[.int .i64 f0, .int .i64 f1, .int .i64 f2, .int .i64 f3] 23)); have P1 := hid (P2.out.alloc (.cells #[.int .i64 f0, .int .i64 f1, .int .i64 f2, .int .i64 f3] 23))
      have Y1 := hid (Y2.out.gb (Gb.alloc (Gb.refl (j + 1 + 1) W2) (.cells #[.int .i64 f0, .int .i64 f1, .int .i64 f2, .int .i64 f3] 23)) P2.out)
      have Q1 := Q2.alloc (.cells #[.int .i64 f0, .int .i64 f1, .int .i64 f2, .int .i64 f3] 23)
      have hjj := Q2.lt
      clear G2 P2 Y2 T4 Q2
      go_upto_region 8 with fail
      generalize hjf : W2.heap.size = jf at *
      generalize W2.alloc (.cells #[.int .i64 f0, .int .i64 f1, .int .i64 f2, .int .i64 f3] 23) = W3 at F1 G1 P1 Y1 Q1 ⊢
      clear hjf
      obtain ⟨_, c0, c1, c2, c3, _⟩ := id F1
      go_wp2_with fail
      refine (HI1.out _).mono ?_
      rintro e W4 ⟨rfl, hbb⟩
      have G2 := hid (G1.out.next hbb); have P2 := hid (P1.out.nextW hbb); have Y2 := hid (Y1.out.gb (Gb.below hbb) P1.out)
      have F2 := F1.next hbb; have Q2 := Q1.next hbb
      clear G1 P1 Y1 F1 Q1 c0 c1 c2 c3 hbb HI1
      cases hz : Red.rdF s (f0, f1, f2, f3) with
      | false =>
        have HE : Hid (Rd.grp s (ta, tb, tc, td) (ma, mb, mc, md) (us.take (k + 1)) = Rd.grp s (ta, tb, tc, td) (ma, mb, mc, md) (us.take k)) := hid (by rw [HTK.out, Rd.grp_snoc, Rd.oneG, HCH.out, hz]; simp)
        go_wp2_with fail
        go_roundg g
        case measure => have := HK.out; omega
        case rel => exact ⟨k + 1, L, by rw [show ((k : Int) + 1) = ((k + 1 : Nat) : Int) by push_cast; rfl], by have := HK.out; omega, G2.out, P2.out, by rw [HE.out]; exact Y2.out⟩
      | true =>
        have HE : Hid (Rd.grp s (ta, tb, tc, td) (ma, mb, mc, md) (us.take (k + 1)) = Rd.addG (Rd.grp s (ta, tb, tc, td) (ma, mb, mc, md) (us.take k)) (f0, f1, f2, f3) (Rd.mm (ma, mb, mc, md) (q0, q1, q2, q3))) := hid (by rw [HTK.out, Rd.grp_snoc, Rd.oneG, HCH.out, hz]; simp)
        go_upto_region 9 with fail
        clear hz
        obtain ⟨i, v0, L1, hd, hL1, hE1⟩ := entry_any L (f0, f1, f2, f3)
        obtain ⟨ms, G1, hY3, hG1, hR0, hadd, hmm⟩ := Y2.out.entry hd
        obtain ⟨va, vc, rfl⟩ := hR0.val
        have hml : ms.length ≤ 81 := by
          rcases hmm with rfl | hm
          · simp
          · have h1 := grp_len s (ta, tb, tc, td) (ma, mb, mc, md) (us.take k) _ hm
            have h2 : (us.take k).length ≤ us.length := by simp; omega
            dsimp only at h1; omega
        have hq0 : ∀ q, (Value.slice va ms.length vc).ownBlock = some q → w4.heap.size ≤ q ∧ q < jr := fun q hq => by
          refine ⟨(hR0.lt q hq).1, ?_⟩
          rcases hd with ⟨h1, _⟩ | ⟨_, _, h3, _⟩
          · obtain ⟨m, _, hm⟩ := lkM_some h1
            exact HLT.out m _ _ q hm hq
          · rw [h3] at hq; cases hq
        have nf : some jf ≠ (Value.slice va ms.length vc).ownBlock := fun e => by have := hq0 jf e.symm; omega
        have nr : some jr ≠ (Value.slice va ms.length vc).ownBlock := fun e => by have := hq0 jr e.symm; omega
        have nm : some (j + 1) ≠ (Value.slice va ms.length vc).ownBlock := fun e => by have := hq0 (j + 1) e.symm; omega
        have NF := hid nf; have NR := hid nr; have NM := hid nm
        clear nf nr nm hq0 HLT
        have hadd2 := hadd (Rd.mm (ma, mb, mc, md) (q0, q1, q2, q3))
        have HA := hid hadd2; have HL1 := hid hL1; have HE1 := hid hE1; have HY3 := hid hY3; have HG1 := hid hG1; have HR0 := hid hR0
        have M4 := G2.out.arr HM2.out HB2.out
        clear hd hL1 hE1 hY3 hG1 hR0 hadd hadd2 hmm
        generalize hmq : Rd.mm (ma, mb, mc, md) (q0, q1, q2, q3) = mq at HA HP1 HE
        obtain ⟨m0, m1, m2, m3⟩ := mq
        dsimp only at HP1
        clear hmq
        have F3 := F2.drew; have Q3 := Q2.drew; have M5 := M4.drew
        have G3 := hid G2.out.drew; have P3 := hid P2.out.drew; have HY4 := hid (HY3.out.gb (Gb.drew (Gb.refl (j + 1 + 1) W4)) P2.out)
        have HR1 := hid ((Gb.drew (Gb.refl (j + 1 + 1) W4)).row HR0.out P2.out)
        clear F2 Q2 M4 G2 P2 HY3 HR0 Y2
        obtain ⟨_, c0, c1, c2, c3, _⟩ := id F3
        obtain ⟨_, d0, d1, d2, d3, _⟩ := id Q3
        obtain ⟨_, x0, x1, x2, x3, _⟩ := id M5
        go_region_held3 (fun W => W.cell? ⟨jf, 0, none⟩ = some (.int .i64 f0) ∧ W.cell? ⟨jf, 1, none⟩ = some (.int .i64 f1) ∧ W.cell? ⟨jf, 2, none⟩ = some (.int .i64 f2) ∧ W.cell? ⟨jf, 3, none⟩ = some (.int .i64 f3) ∧ W.cell? ⟨jr, 0, none⟩ = some (.int .i64 q0) ∧ W.cell? ⟨jr, 1, none⟩ = some (.int .i64 q1) ∧ W.cell? ⟨jr, 2, none⟩ = some (.int .i64 q2) ∧ W.cell? ⟨jr, 3, none⟩ = some (.int .i64 q3) ∧ W.cell? ⟨j + 1, 0, none⟩ = some (.int .i64 ma) ∧ W.cell? ⟨j + 1, 1, none⟩ = some (.int .i64 mb) ∧ W.cell? ⟨j + 1, 2, none⟩ = some (.int .i64 mc) ∧ W.cell? ⟨j + 1, 3, none⟩ = some (.int .i64 md)) (first | exact cells12 F8 Q8 M8 | exact cells12 F7 Q7 M7 | exact cells12 F6 Q6 M6 | (refine cells12 ?_ ?_ ?_ <;> (repeat (first | with_reducible assumption | with_reducible exact Arr.box (by assumption) | with_reducible exact Box.new _ _ _ _ _ _ | with_reducible exact Arr.new _ _ _ _ _ _ | with_reducible refine Arr.drew ?_ | with_reducible refine Arr.drewN ?_ _ | with_reducible refine Arr.store4 ?_ | with_reducible refine Arr.alloc ?_ _ | with_reducible refine Box.drew ?_ | with_reducible refine Box.drewN ?_ _ | with_reducible refine Box.alloc ?_ _ | with_reducible refine Arr.next ?_ (by assumption) | with_reducible refine Box.next ?_ (by assumption) | refine Arr.oth ?_ (by first | (simp; done) | omega | (simp; omega)) _ | refine Box.oth ?_ (by first | (simp; done) | omega | (simp; omega)) _ | with_reducible exact Arr3.box (by assumption) | with_reducible exact Box3.new _ _ _ _ _ | with_reducible exact Arr3.new _ _ _ _ _ | with_reducible refine Arr3.drew ?_ | with_reducible refine Arr3.drewN ?_ _ | with_reducible refine Arr3.store3 ?_ | with_reducible refine Arr3.alloc ?_ _ | with_reducible refine Box3.drew ?_ | with_reducible refine Box3.drewN ?_ _ | with_reducible refine Box3.alloc ?_ _ | with_reducible refine Arr3.next ?_ (by assumption) | with_reducible refine Box3.next ?_ (by assumption) | refine Arr3.oth ?_ (by first | (simp; done) | omega | (simp; omega)) _ | refine Box3.oth ?_ (by first | (simp; done) | omega | (simp; omega)) _)))) ((first
          | (go_at_call 60; refine (HP1.out _).mono ?_; rintro e w5 ⟨rfl, hb5⟩; have G5 := hid (G3.out.next hb5); have P5 := P3.out.nextW hb5; have Y5 := hid (HY4.out.gb (Gb.below hb5) P3.out); have R5 := hid ((Gb.below hb5).row HR1.out P3.out); obtain ⟨w6, e6, g6, s6, p6⟩ := HE1.out (j + 1 + 1) (w5.alloc (.cells #[.int .i64 m0, .int .i64 m1, .int .i64 m2, .int .i64 m3] 34)) (P5.alloc _); unfold vF at e6; dsimp only at e6; have GF := ((Gb.below hb5).alloc (.cells #[.int .i64 m0, .int .i64 m1, .int .i64 m2, .int .i64 m3] 34)).trans g6; have F6 := GF.arr F3 P3.out; have Q6 := GF.arr Q3 P3.out; have M6 := GF.arr M5 P3.out; have N6 := g6.arr (Arr.new w5 m0 m1 m2 m3 34) (P5.alloc _); have Y6 := hid ((Y5.out.gb (Gb.alloc (Gb.refl _ w5) (.cells #[.int .i64 m0, .int .i64 m1, .int .i64 m2, .int .i64 m3] 34)) P5).gb g6 (P5.alloc _)); have R6 := ((Gb.alloc (Gb.refl _ w5) (.cells #[.int .i64 m0, .int .i64 m1, .int .i64 m2, .int .i64 m3] 34)).row R5.out P5); have R7 := g6.row R6 (P5.alloc _); have G6 := hid ((G5.out.alloc (.cells #[.int .i64 m0, .int .i64 m1, .int .i64 m2, .int .i64 m3] 34)).trans g6))
          | (refine step_m w4.heap.size w6.heap.size rfl (.tmp 32) (.tmp 36) rfl (.slice va ms.length vc) ms rfl R7 w5.heap.size m0 m1 m2 m3 rfl N6 (by omega) G6.out.size (Nat.le_refl _) ?_; intro g7 cap7 w7 r7 h7 hwh hlt7; have p7 := p6.grown h7 (p6.row_ne R7); have F7 := F6.grownB h7 NF.out; have Q7 := Q6.grownB h7 NR.out; have M7 := M6.grownB h7 NM.out; obtain ⟨w8, e8, g8, s8, p8⟩ := storeE (val := .slice (some ⟨g7, 0, none⟩) (ms.length + 1) cap7) p7 HL1.out; have F8 := g8.arr F7 p7; have Q8 := g8.arr Q7 p7; have M8 := g8.arr M7 p7)))
        have hr7 := R7.lt
        have hGF := hid ((G6.out.grown h7 (fun q e => .inl (hr7 q e).1)).trans g8)
        have hYF := hid (Y6.out.store HL1.out HG1.out h7 r7 hwh Y6.out.lt g8 p7)
        have HP8 := hid p8
        clear F6 Q6 M6 F7 Q7 M7 F8 Q8 M8 p7 p8 g8 r7 h7 R6 R7 N6 g6 p6 GF P5 hr7 F3 Q3 M5
        go_wp2_with fail
        go_roundg g
        case measure => have := HK.out; omega
        case rel => exact ⟨k + 1, _, by rw [show ((k : Int) + 1) = ((k + 1 : Nat) : Int) by push_cast; rfl], by have := HK.out; omega, hGF.out, HP8.out, by rw [HE.out, HA.out]; exact hYF.out⟩
    · have e81 : decide ((k : Int) < (us.length : Int)) = false := by simp; omega
      have hk' : k = us.length := by have := HK.out; omega
      subst hk'
      have HW2 := hid HWY.out
      rw [List.take_length] at HW2
      go_wp2_with fail
      go_ret
      exact ⟨_, _, _, rfl, HMP.out, HW2.out, by have := HU4.out.size; omega, by omega, Gb.belowB HU4.out HG.out (Nat.le_refl _) (by omega)⟩

end Go.Proofs.Ytipeeljapmiciaa
