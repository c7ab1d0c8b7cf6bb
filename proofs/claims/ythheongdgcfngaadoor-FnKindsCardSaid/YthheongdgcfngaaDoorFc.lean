/- Chapter 5: the factors of a form other than 0, the program's. -/
import Derived.Test.YthheongdgcfngaaDoorZ23
import Derived.Test.YthheongdgcfngaaDoorZ10
import Derived.Deep.RegionHeld3
import Derived.Deep.DeepCutAuto
namespace Go.Proofs.YthheongdgcfngaaDoor
open Go.RowKit

theorem info_fs : (Tryd.prog.info? 35).map (fun i => (i.zero, i.size, i.bytes)) = some (some (.slice none 0 0), 1, 24) := by kernel_rfl
/-- The first i numbers turned. -/
def ngL (L : List Int) (i : Nat) : List Int := (L.take i).map (fun x => -x) ++ L.drop i
theorem ngL_len (L : List Int) {i : Nat} (h : i ≤ L.length) : (ngL L i).length = L.length := by simp [ngL]; omega
theorem ngL_get (L : List Int) {i : Nat} (h : i < L.length) : (ngL L i).getD i 0 = L.getD i 0 := by
  simp [ngL, List.getD, List.getElem?_append_right, h, Nat.min_eq_left (Nat.le_of_lt h)]
theorem ngL_s (L : List Int) {i : Nat} (h : i < L.length) : (ngL L i).set i (-(L.getD i 0)) = ngL L (i + 1) := by
  refine List.ext_getElem? fun j => ?_
  by_cases hj : j < L.length
  · rcases Nat.lt_trichotomy j i with e | e | e
    · rw [List.getElem?_set_ne (by omega)]
      simp only [ngL]
      rw [List.getElem?_append_left (by simp; omega), List.getElem?_append_left (by simp; omega)]
      simp [e, show j < i + 1 by omega]
    · subst e
      rw [List.getElem?_set_self (by rw [ngL_len L (by omega)]; exact hj)]
      simp only [ngL]
      rw [List.getElem?_append_left (by simp; omega)]
      simp [List.getD, hj]
    · rw [List.getElem?_set_ne (by omega)]
      simp only [ngL]
      rw [List.getElem?_append_right (by simp; omega), List.getElem?_append_right (by simp; omega)]
      simp only [List.length_map, List.length_take, List.getElem?_drop]
      congr 1; omega
  · rw [List.getElem?_eq_none (by rw [List.length_set, ngL_len L (by omega)]; omega), List.getElem?_eq_none (by rw [ngL_len L (by omega)]; omega)]
theorem ngL_0 (L : List Int) : ngL L 0 = L := by simp [ngL]
theorem ngL_e (L : List Int) : ngL L L.length = L.map (fun x => -x) := by simp [ngL]
theorem RB.set {w : World} {b : Nat} {L : List Int} (h : RB w b L) (i : Nat) (x : Int) : RB (w.setCell ⟨b, i, none⟩ (.int .i64 x)) b (L.set i x) := by
  obtain ⟨cur, T, g1, g2, g3⟩ := h
  refine ⟨_, T, g1.set i _, g2, fun j hj => ?_⟩
  rw [List.length_set] at hj
  have := g3 j hj
  by_cases e : i = j
  · subst e
    have hc : i < cur.size := (Array.getElem?_eq_some_iff.1 this).1
    simp [hc, List.getD, hj]
  · rw [Array.getElem?_setIfInBounds_ne e, this]
    simp [List.getD, List.getElem?_set_ne e]
theorem Bx.farB {w : World} {k b : Nat} {xs : Array Value} {t : TypeId} (h : Bx w k xs t) {L : List Int} (hb : RB w b L) (h1 : t ≠ 2) (h2 : t ≠ 25) (i : Nat) (v : Value) : Bx (w.setCell ⟨b, i, none⟩ v) k xs t := by
  obtain ⟨cur, T, g1, g2, _⟩ := hb
  refine h.far (h.ne g1 ?_) i v
  rcases g2 with rfl | rfl
  · exact h1
  · exact h2
theorem Rwb.form {B : Nat} {w : World} {v : Value} {s : Nat} {R : List (List Int)} {T : List Nat} (h : Rwb B w v s R T) : ∃ va cp, v = .slice va R.length cp := by
  rcases h.own.2 with ⟨e, h0⟩ | ⟨g, cp, cur, e, _⟩
  · exact ⟨none, 0, by rw [h0]; exact e⟩
  · exact ⟨_, cp, e⟩
theorem Rwb.farB {B : Nat} {w : World} {v : Value} {s : Nat} {R : List (List Int)} {T : List Nat} (h : Rwb B w v s R T) {b : Nat} {L : List Int} (hb : RB w b L) (hs : ∀ t ∈ T, t ≠ b) (i : Nat) (u : Value) : Rwb B (w.setCell ⟨b, i, none⟩ u) v s R T :=
  ⟨h.own.kept (grown_set w b i u) (by
    obtain ⟨cur, T', g1, g2, _⟩ := hb
    cases hv : v.ownBlock with
    | none => exact .inl rfl
    | some g => exact .inr (fun e => g1.own h.own (by rcases g2 with rfl | rfl <;> decide) g hv (by simpa using e))), h.len, fun j hj => (h.row j hj).far (hs _ (getD_mem T j 0 (by rw [h.len]; exact hj))) i u, fun x hx => ⟨(h.bas x hx).1, by rw [World.size_setCell]; exact (h.bas x hx).2⟩, h.srt, h.wid⟩
/-- The state at the end: no roots any more, a sign. -/
structure Fse (B : Nat) (w : World) (k z : Nat) (sg n : Int) (vr : Value) (b len cap : Nat) (Rs : List (List Int)) (T : List Nat) (L : List Int) : Prop where
  bx : Bx w k #[.int .i64 sg, .int .i64 n, vr, .slice (some ⟨b, 0, none⟩) len cap] 86
  rows : Rwb B w vr 2 Rs T
  rest : RB w b L
  sep : ∀ t ∈ T, t ≠ b
  res : Bx w z #[.int .i64 0, .int .i64 0, .slice none 0 0, .slice none 0 0] 86
theorem Fse.set {B : Nat} {w : World} {k z : Nat} {sg n : Int} {vr : Value} {b len cap : Nat} {Rs : List (List Int)} {T : List Nat} {L : List Int} (h : Fse B w k z sg n vr b len cap Rs T L) (i : Nat) (x : Int) : Fse B (w.setCell ⟨b, i, none⟩ (.int .i64 x)) k z sg n vr b len cap Rs T (L.set i x) :=
  ⟨h.bx.farB h.rest (by decide) (by decide) _ _, h.rows.farB h.rest h.sep _ _, h.rest.set i x, h.sep, h.res.farB h.rest (by decide) (by decide) _ _⟩
theorem Fse.next {B : Nat} {w w' : World} {k z : Nat} {sg n : Int} {vr : Value} {b len cap : Nat} {Rs : List (List Int)} {T : List Nat} {L : List Int} (h : Fse B w k z sg n vr b len cap Rs T L) (hb : Below w.heap.size w w') : Fse B w' k z sg n vr b len cap Rs T L :=
  ⟨h.bx.next hb, h.rows.next hb, h.rest.next hb, h.sep, h.res.next hb⟩
theorem Fst.sign {B : Nat} {w : World} {k z : Nat} {n : Int} {vr : Value} {b cap : Nat} {Rs : List (List Int)} {T : List Nat} {L : List Int} {vp : Value} {RR : List (Int × Int × Int)} (h : Fst B w k z n vr b cap Rs T L vp RR) (sg : Int) : Fse B (w.setCell ⟨k, 0, none⟩ (.int .i64 sg)) k z sg n vr b L.length cap Rs T L := by
  refine ⟨?_, h.rows.far h.bx (by decide) (by decide) _ _, h.rest.far h.bx (by decide) (by decide) _ _, h.sep, h.res.far h.zk _ _⟩
  have := h.bx.set 0 (.int .i64 sg)
  simpa using this

theorem Fst.toE {B : Nat} {w : World} {k z : Nat} {n : Int} {vr : Value} {b cap : Nat} {Rs : List (List Int)} {T : List Nat} {L : List Int} {vp : Value} {RR : List (Int × Int × Int)} (h : Fst B w k z n vr b cap Rs T L vp RR) : Fse B w k z 1 n vr b L.length cap Rs T L := ⟨h.bx, h.rows, h.rest, h.sep, h.res⟩
theorem Fse.ret {B : Nat} {w : World} {k z : Nat} {sg n : Int} {vr : Value} {b len cap : Nat} {Rs : List (List Int)} {T : List Nat} {L : List Int} (h : Fse B w k z sg n vr b len cap Rs T L) (v0 v1 v2 v3 : Value) :
    Bx ((((w.setCell ⟨z, 0, none⟩ v0).setCell ⟨z, 1, none⟩ v1).setCell ⟨z, 2, none⟩ v2).setCell ⟨z, 3, none⟩ v3) z #[v0, v1, v2, v3] 86 ∧
    Rwb B ((((w.setCell ⟨z, 0, none⟩ v0).setCell ⟨z, 1, none⟩ v1).setCell ⟨z, 2, none⟩ v2).setCell ⟨z, 3, none⟩ v3) vr 2 Rs T ∧
    RB ((((w.setCell ⟨z, 0, none⟩ v0).setCell ⟨z, 1, none⟩ v1).setCell ⟨z, 2, none⟩ v2).setCell ⟨z, 3, none⟩ v3) b L := by
  have z1 := h.res.set 0 v0
  have z2 := z1.set 1 v1
  have z3 := z2.set 2 v2
  have z4 := z3.set 3 v3
  refine ⟨by simpa using z4, ?_, ?_⟩
  · exact (((h.rows.far h.res (by decide) (by decide) _ _).far z1 (by decide) (by decide) _ _).far z2 (by decide) (by decide) _ _).far z3 (by decide) (by decide) _ _
  · exact (((h.rest.far h.res (by decide) (by decide) _ _).far z1 (by decide) (by decide) _ _).far z2 (by decide) (by decide) _ _).far z3 (by decide) (by decide) _ _

/-- What factorsOf has laid. -/
def FcOut (n sg : Int) (Rs : List (List Int)) (L : List Int) (w : World) (e : Ending) (w' : World) : Prop :=
  ∃ vr b cap T, e = .returned (.agg #[.int .i64 sg, .int .i64 n, vr, .slice (some ⟨b, 0, none⟩) L.length cap]) ∧ Rwb w.heap.size w' vr 2 Rs T ∧ RB w' b L ∧ L.length ≤ cap ∧ cap ≤ maxLen ∧ w.heap.size ≤ b ∧ (∀ t ∈ T, t ≠ b) ∧ Below w.heap.size w w'

set_option maxRecDepth 100000 in
set_option maxHeartbeats 8000000 in
theorem factorsOf_any (a b c d : Int) (w : World) (hF : isF a b c d = true) (hN : mul0 (cnt a b c d) 0 = false) :
    Calls Tryd.prog 63 #[.agg #[.int .i64 a, .int .i64 b, .int .i64 c, .int .i64 d]] w (FcOut (cnt a b c d) (fsg (fac a b c d).2) (fac a b c d).1 (frs (fac a b c d).2) w) := by
  obtain ⟨ha, hb, hc, hd⟩ := isF_t hF
  have HR := hid (fun W => rootsOf_any a b c d 0 (rpl a b c d) W (by omega) (by omega) ha hb hc hd (fun W => places_0 a b c d 0 W rfl ha hb hc hd) (rpl_len a b c d ha hb hc hd).2 (by have := (rpl_len a b c d ha hb hc hd).1; omega) hN (stp_rpl ha hb hc hd hN))
  change Hid (∀ W, Calls _ _ _ W (RtOut (rrt a b c d).length ((rrt a b c d).flatMap tr3) W)) at HR
  have hl := rrt_len ha hb hc hd
  have HI0 := hid (FInv_0 ha hb hc hd hN)
  have HP0 := hid (fun W => iPrim_any a b c d W)
  have hpp : ppc a b c d = 0 := by
    have := (ptl4_m hN).1
    simp [ppc, hF, this]
  have HG := hid (fun k W h => iGcd4_any k a b c d W h ha hb hc hd)
  have hp := fun W => iPrim_any a b c d W
  rw [hpp] at hp
  simp only [if0, if_true] at hp
  have HP := hid hp
  have HQ : Hid (∃ q0 q1 q2 q3, ptl4 a b c d = [q0, q1, q2, q3] ∧ q0 = a.tdiv (cnt a b c d) ∧ q1 = b.tdiv (cnt a b c d) ∧ q2 = c.tdiv (cnt a b c d) ∧ q3 = d.tdiv (cnt a b c d)) := hid ⟨_, _, _, _, rfl, rfl, rfl, rfl, rfl⟩
  obtain ⟨q0, q1, q2, q3, hq, e0, e1, e2, e3⟩ := HQ.out
  rw [← e0, ← e1, ← e2, ← e3] at HP
  have HFI := hid (show fR (rrt a b c d) ([], [q0, q1, q2, q3]) = fac a b c d by rw [← hq]; rfl)
  have HI := hid (show FInv ([], [q0, q1, q2, q3]) (rrt a b c d) by rw [← hq]; exact HI0.out)
  clear HI0 HP0 hpp hp HQ hq e0 e1 e2 e3 ha hb hc hd hF hN
  generalize rrt a b c d = RR at HR hl HFI HI
  generalize fac a b c d = FIN at HFI ⊢
  generalize cnt a b c d = n at HG ⊢
  have F0 := (Bx.new w #[.int .i64 a, .int .i64 b, .int .i64 c, .int .i64 d] 25).alloc (.cells #[.int .i64 0, .int .i64 0, .slice none 0 0, .slice none 0 0] 86)
  have Z0 := Bx.new (w.alloc (.cells #[.int .i64 a, .int .i64 b, .int .i64 c, .int .i64 d] 25)) #[.int .i64 0, .int .i64 0, .slice none 0 0, .slice none 0 0] 86
  have U0 := gr_alloc (gr_alloc (Below.refl w.heap.size w) (.cells #[.int .i64 a, .int .i64 b, .int .i64 c, .int .i64 d] 25)) (.cells #[.int .i64 0, .int .i64 0, .slice none 0 0, .slice none 0 0] 86)
  simp only [World.size_alloc] at Z0
  go_enter Tryd.func63, Tryd.ntmps63
  obtain ⟨_, c0, c1, c2, c3, _⟩ := F0.arr4
  go_wp2_with fail
  refine (HR.out _).mono ?_
  rintro e w1 ⟨v, rfl, hO, hb1⟩
  have F1 := F0.next hb1
  have Z1 := Z0.next hb1
  have U1 := gr_trans U0 hb1
  have O1 := owns_mono hO U0.size
  clear c0 c1 c2 c3 F0 Z0 U0 hO hb1 HR
  obtain ⟨_, c0, c1, c2, c3, _⟩ := F1.arr4
  go_wp2_with fail
  refine (HP.out _).mono ?_
  rintro e w2 ⟨rfl, hb2⟩
  have F2 := (F1.next hb2).alloc (.cells #[.int .i64 q0, .int .i64 q1, .int .i64 q2, .int .i64 q3] 25)
  have Z2 := (Z1.next hb2).alloc (.cells #[.int .i64 q0, .int .i64 q1, .int .i64 q2, .int .i64 q3] 25)
  have P2 := Bx.new w2 #[.int .i64 q0, .int .i64 q1, .int .i64 q2, .int .i64 q3] 25
  have U2 := gr_alloc (gr_trans U1 hb2) (.cells #[.int .i64 q0, .int .i64 q1, .int .i64 q2, .int .i64 q3] 25)
  have O2 := (owns_next O1 hb2).alloc (.cells #[.int .i64 q0, .int .i64 q1, .int .i64 q2, .int .i64 q3] 25)
  have U1' := U1
  clear c0 c1 c2 c3 F1 Z1 U1 O1 HP
  go_upto_region 3 with fail
  have hk4l := P2.lt
  have hk4g : w.heap.size ≤ w2.heap.size := (gr_trans U1' hb2).size
  generalize hk4 : w2.heap.size = k4 at P2 hk4l hk4g ⊢
  generalize w2.alloc (.cells #[.int .i64 q0, .int .i64 q1, .int .i64 q2, .int .i64 q3] 25) = W0 at F2 Z2 P2 U2 O2 hk4l ⊢
  have A2 := F2.arr4
  have hu0 := U2.size
  have hal := A2.lt
  go_cut [6] (fun s6 wx => ∃ k6 : Nat, s6 = .pointer (some ⟨k6, 0, none⟩) ∧ Bx wx k6 #[.int .i64 1, .int .i64 n, .slice none 0 0, .slice (some ⟨k4, 0, none⟩) 4 4] 86 ∧ Below W0.heap.size W0 wx ∧ W0.heap.size ≤ k6)
  case first =>
    go_region_held3 (fun W => W.cell? ⟨w.heap.size, 0, none⟩ = some (.int .i64 a) ∧ W.cell? ⟨w.heap.size, 1, none⟩ = some (.int .i64 b) ∧ W.cell? ⟨w.heap.size, 2, none⟩ = some (.int .i64 c) ∧ W.cell? ⟨w.heap.size, 3, none⟩ = some (.int .i64 d)) (refine cells4 ?_ <;> (repeat (first | with_reducible assumption | with_reducible exact Arr.box (by assumption) | with_reducible exact Box.new _ _ _ _ _ _ | with_reducible exact Arr.new _ _ _ _ _ _ | with_reducible refine Arr.drew ?_ | with_reducible refine Arr.drewN ?_ _ | with_reducible refine Arr.store4 ?_ | with_reducible refine Arr.alloc ?_ _ | with_reducible refine Box.drew ?_ | with_reducible refine Box.drewN ?_ _ | with_reducible refine Box.alloc ?_ _ | with_reducible refine Arr.next ?_ (by assumption) | with_reducible refine Box.next ?_ (by assumption) | refine Arr.oth ?_ (by first | (simp; done) | omega | (simp; omega)) _ | refine Box.oth ?_ (by first | (simp; done) | omega | (simp; omega)) _))) ((go_at_call 86; refine (HG.out w.heap.size _ (by (repeat (first | with_reducible assumption | with_reducible exact Arr.box (by assumption) | with_reducible exact Box.new _ _ _ _ _ _ | with_reducible exact Arr.new _ _ _ _ _ _ | with_reducible refine Arr.drew ?_ | with_reducible refine Arr.drewN ?_ _ | with_reducible refine Arr.store4 ?_ | with_reducible refine Arr.alloc ?_ _ | with_reducible refine Box.drew ?_ | with_reducible refine Box.drewN ?_ _ | with_reducible refine Box.alloc ?_ _ | with_reducible refine Arr.next ?_ (by assumption) | with_reducible refine Box.next ?_ (by assumption) | refine Arr.oth ?_ (by first | (simp; done) | omega | (simp; omega)) _ | refine Box.oth ?_ (by first | (simp; done) | omega | (simp; omega)) _)))).mono ?_; rintro e w5 ⟨rfl, hb5⟩; have hz5 := hb5.size; (try simp at hz5); (first | (have N5 : Bx w5 W0.heap.size #[.int .i64 0, .int .i64 0, .slice none 0 0, .slice none 0 0] 86 := (Bx.new W0.drew _ _).next hb5; have n0 := N5.cell 0; have n1 := N5.cell 1; have n2 := N5.cell 2; have n3 := N5.cell 3; have g0 := N5.frozen 0; have g1 := N5.frozen 1; have g2 := N5.frozen 2; have g3 := N5.frozen 3; (try simp at n0 n1 n2 n3)) | skip)))
    · go_wp2_with fail
      go_meet
      exact ⟨_, rfl, Bx.new _ _ _, by (repeat' (first | with_reducible exact Below.refl _ _ | with_reducible assumption | with_reducible refine gr_alloc ?_ _ | with_reducible refine gr_drew ?_ | with_reducible refine gr_drewN ?_ _ | with_reducible refine gr_trans ?_ (by assumption) | with_reducible refine gr_set ?_ ?_ _ | (simp; done) | omega | (simp; omega))), by first | omega | (simp; omega)⟩
    · go_wp2_with fail
      go_meet
      exact ⟨_, rfl, by simpa using (Bx.set (Bx.set (Bx.set (Bx.set (k := W0.heap.size) (xs := #[.int .i64 0, .int .i64 0, .slice none 0 0, .slice none 0 0]) (T := 86) (by assumption) 0 (.int .i64 1)) 1 (.int .i64 n)) 2 (.slice none 0 0)) 3 (.slice (some ⟨k4, 0, none⟩) 4 4)), by (repeat' (first | with_reducible exact Below.refl _ _ | with_reducible assumption | with_reducible refine gr_alloc ?_ _ | with_reducible refine gr_drew ?_ | with_reducible refine gr_drewN ?_ _ | with_reducible refine gr_trans ?_ (by assumption) | with_reducible refine gr_set ?_ ?_ _ | (simp; done) | omega | (simp; omega))), Nat.le_refl _⟩
  case rest =>
    obtain ⟨k6, rfl, B6, hbx, hk6⟩ := hcut
    have hzl := Z2.lt
    have hk6' : w.heap.size + 1 < k6 := by omega
    have S0 : Fst w.heap.size wc k6 (w.heap.size + 1) n (.slice none 0 0) k4 4 [] [] [q0, q1, q2, q3] v RR := ⟨B6, ⟨World.ownsRow_nil _ _ _ _, rfl, fun i hi => by simp at hi, fun t ht => by simp at ht, List.Pairwise.nil, fun r hr => by simp at hr⟩, RB.arr (P2.next hbx), by simp, by decide, by omega, fun t ht => by simp at ht, Z2.next hbx, by omega, owns_next O2 hbx⟩
    have U3 := gr_trans U2 hbx
    have hform : ∃ va cp, v = .slice va RR.length cp ∧ cp ≤ maxLen := by
      rcases O2.2 with ⟨rfl, h⟩ | ⟨g, cp, cur, rfl, _, _, h2, h3, _⟩
      · exact ⟨none, 0, by rw [h], by decide⟩
      · exact ⟨_, cp, rfl, h3⟩
    obtain ⟨va, cp, rfl, hcpm⟩ := hform
    clear hal hk4l A2 F2 Z2 P2 U2 O2 B6 hbx hzl
    clear hk6 hu0 hk4 hk4g
    obtain ⟨i0, hi, hi0, hi1, hi2⟩ := info_parts info_fs
    have HI' := hid hi; have HZ0 := hid hi0; have HZ1 := hid hi1; have HZ2 := hid hi2
    clear hi hi0 hi1 hi2
    unfold maxLen at hcpm
    go_wp2_with fail
    go_loopw [23] (fun s23 wr => ∃ (k : Nat) (st : List (List Int) × List Int) (vr : Value) (b cap : Nat) (T : List Nat), k ≤ RR.length ∧ s23 = .int .i64 ((k : Int)) ∧ fR (RR.drop k) st = FIN ∧ FInv st (RR.drop k) ∧ Fst w.heap.size wr k6 (w.heap.size + 1) n vr b cap st.1 T st.2 (.slice va RR.length cp) RR ∧ Below w.heap.size w wr) (fun s23 _ => RR.length - (intOf s23).toNat)
    case atStart => exact ⟨0, ([], [q0, q1, q2, q3]), _, _, _, _, Nat.zero_le _, rfl, HFI.out, HI.out, S0, U3⟩
    case round =>
      obtain ⟨k, st, vr, b, cap, T, hk, rfl, hfr, hin, hS, hU⟩ := hrel
      have HFR := hid hfr; have HIN := hid hin; have HS := hid hS; have HU := hid hU
      have hsz := hU.size
      clear hfr hin hU S0 U3
      by_cases hlt : k < RR.length
      · obtain ⟨g, cap', e', _, hg', _, hcm, hcell⟩ := owns_formS hS.roots (by omega)
        cases e'
        have x0 := hcell (k * 3 + 0) _ ((flat_get tr3 3 (fun _ => rfl) RR k 0 hlt (by omega)).trans rfl)
        have x1 := hcell (k * 3 + 1) _ ((flat_get tr3 3 (fun _ => rfl) RR k 1 hlt (by omega)).trans rfl)
        have x2 := hcell (k * 3 + 2) _ ((flat_get tr3 3 (fun _ => rfl) RR k 2 hlt (by omega)).trans rfl)
        simp only [Nat.add_zero] at x0
        have hdrop : RR.drop k = RR[k] :: RR.drop (k + 1) := List.drop_eq_getElem_cons hlt
        have hin' := HIN.out
        have hfr' := HFR.out
        rw [hdrop] at hin' hfr'
        obtain ⟨hpt, htn⟩ := hin'.rt _ List.mem_cons_self
        obtain ⟨tn, htn'⟩ : ∃ tn : Nat, RR[k].2.2 = (tn : Int) := ⟨_, htn.symm⟩
        have hJ := hin'.start
        rw [fR_cons] at hfr'
        rw [htn', Int.toNat_natCast] at hJ hfr'
        rw [htn'] at x2
        have htl : tn ≤ 4 := by have := hJ.gl.2.1; have := mlt_le RR[k].1 RR[k].2.1 4 st.2; have := hJ.mu; omega
        clear hcell hdrop hin' htn htn' HFR HIN hpt
        have HJ := hid hJ; have HF2 := hid hfr'
        clear hJ hfr'
        generalize RR[k].1 = x at x0 HJ HF2
        generalize RR[k].2.1 = y at x1 HJ HF2
        unfold maxLen at hcm
        clear hS
        have R0 := Bx.new wr #[.int .i64 x, .int .i64 y, .int .i64 ((tn : Int))] 66
        have HS0 := hid (HS.out.next ((Below.refl _ wr).alloc (Nat.le_refl _) (.cells #[.int .i64 x, .int .i64 y, .int .i64 ((tn : Int))] 66)))
        have HU0 := hid (gr_alloc HU.out (.cells #[.int .i64 x, .int .i64 y, .int .i64 ((tn : Int))] 66))
        have hrl : wr.heap.size < (wr.alloc (.cells #[.int .i64 x, .int .i64 y, .int .i64 ((tn : Int))] 66)).heap.size := by simp
        have hlk : w.heap.size ≤ wr.heap.size := hsz
        clear HU
        go_wp2_with fail
        obtain ⟨wo, hwo⟩ : ∃ wo, wo = wr := ⟨_, rfl⟩
        subst hwo
        go_loopw [29] (fun s29 wr => ∃ (j : Nat) (st : List (List Int) × List Int) (vr : Value) (b cap : Nat) (T : List Nat), j ≤ tn ∧ s29 = .int .i64 ((j : Int)) ∧ fR (RR.drop (k + 1)) (fJ x y (tn - j) st) = FIN ∧ FInJ st x y (tn - j) (RR.drop (k + 1)) ∧ Fst w.heap.size wr k6 (w.heap.size + 1) n vr b cap st.1 T st.2 (.slice (some ⟨g, 0, none⟩) RR.length cp) RR ∧ Bx wr wo.heap.size #[.int .i64 x, .int .i64 y, .int .i64 ((tn : Int))] 66 ∧ Below w.heap.size w wr) (fun s29 _ => tn - (intOf s29).toNat)
        case atStart => exact ⟨0, st, _, _, _, _, Nat.zero_le _, rfl, HF2.out, HJ.out, HS0.out, R0, HU0.out⟩
        case round =>
          obtain ⟨j, st, vr, b, cap, T, hj, rfl, hfr, hin, hS, hR, hU⟩ := hrel
          have HF3 := hid hfr; have HJ3 := hid hin; have HS3 := hid hS; have HU3 := hid hU; have HR3 := hid hR
          have hsz3 := hU.size
          clear hfr hin hU R0 HS0 HU0 HS HF2 HJ x0 x1 x2
          by_cases hjt : j < tn
          · obtain ⟨s, hs⟩ : ∃ s, tn - j = s + 1 := ⟨tn - j - 1, by omega⟩
            have hs2 : tn - (j + 1) = s := by omega
            have hj3 := HJ3.out
            have hf3 := HF3.out
            rw [hs] at hj3 hf3
            obtain ⟨hj4, hlen2⟩ := hj3.step
            have hf4 : fR (RR.drop (k + 1)) (fJ x y s (st.1 ++ [[x, y]], dvd st.2 x y)) = FIN := hf3
            have HJ4 := hid hj4; have HF4 := hid hf4
            have hl4 := hj3.len
            obtain ⟨nn, hnn⟩ : ∃ nn, st.2.length = nn + 1 := ⟨st.2.length - 1, by omega⟩
            have hdl := dvd_len (x := x) (y := y) hnn
            have hdne : dvd st.2 x y ≠ [] := fun e => by rw [e] at hdl; simp at hdl; omega
            have HD := hid (fun v W h => dividedAt_own v st.2 x y nn W h hnn (by omega) (by omega))
            clear hj3 hf3 hj4 hf4 HF3 HJ3 hs
            have HNN := hid hnn
            clear hnn
            obtain ⟨Rs, L⟩ := st
            simp only at HJ4 HF4 hl4 hdl hdne HD hS HS3 hlen2
            generalize dvd L x y = L' at HJ4 HF4 hdl hdne HD
            have HDL := hid hdl
            clear hdl
            have r0 := hR.cell 0
            have r1 := hR.cell 1
            have b2 := hS.bx.cell 2
            have hRl : Rs.length ≤ 4 := by omega
            simp at r0 r1 b2
            clear hS hR
            go_wp2_with (at_builtin; refine wpList_append_own _ rfl _ _ 32 rfl w.heap.size 35 i0 (.slice none 0 0) 1 24 Tryd.underlying32 HI'.out HZ0.out HZ1.out HZ2.out rfl (by decide) _ _ _ rfl ((HS3.out.rows.own.alloc _).alloc _) ⟨wr.heap.size + 1, 0, none⟩ 1 1 [.slice (some ⟨wr.heap.size, 0, none⟩) 2 2] rfl rfl ?a1 ?b1 ?c1 ?d1 ?e1 ?_)
            case b1 => first | (intro u hu; simp at hu; subst hu; rfl) | rfl | simp [Value.oneCell']
            case c1 => unfold maxLen; omega
            case d1 => omega
            case e1 => first | omega | (simp; omega)
            intro y1 W1 O1 hg1 _
            have hform : ∃ va1 cp1, y1 = .slice va1 (Rs.length + 1) cp1 := by
              rcases O1.2 with ⟨_, h⟩ | ⟨g, cp, cur, e, _⟩
              · omega
              · exact ⟨_, cp, e⟩
            obtain ⟨va1, cp1, rfl⟩ := hform
            obtain ⟨hkW, hS4⟩ := HS3.out.app (x := x) (y := y) (by omega) hg1 (by simpa using O1)
            have HS4 := hid hS4
            have HU4 := hid (gr_set (gr_own (gr_alloc (gr_alloc HU3.out _) _) hg1 (fun j hj => (HS3.out.rows.own.lt j hj).1)) (show w.heap.size ≤ k6 by omega) (.slice va1 (Rs.length + 1) cp1) (p := ⟨k6, 2, none⟩))
            have hRW : Bx W1 wo.heap.size #[.int .i64 x, .int .i64 y, .int .i64 ((tn : Int))] 66 := HR3.out.two HS3.out.rows.own (by decide) hg1
            have HR4 := hid (hRW.far (hRW.ne hkW (by decide)) 2 (.slice va1 (Rs.length + 1) cp1))
            have b2' := hkW.cell 2
            have f2' := hkW.frozen 2
            simp at b2'
            clear O1 hg1 hS4 HS3 HU3 HR3 hRW b2 r0 r1
            have hsz4 := HU4.out.size
            have b3 := HS4.out.bx.cell 3
            have r0 := HR4.out.cell 0
            have r1 := HR4.out.cell 1
            simp at b3 r0 r1
            go_wp2_with fail
            clear hkW b2' f2' b3 r0 r1
            generalize W1.setCell ⟨k6, 2, none⟩ (.slice va1 (Rs.length + 1) cp1) = W2 at HS4 HU4 HR4 hsz4 ⊢
            refine (HD.out _ _ (HS4.out.rest.rdP HS4.out.cap1 HS4.out.cap2)).mono ?_
            rintro e w5 ⟨v5, rfl, hO5, hb5⟩
            have hS5 := HS4.out.next hb5
            have b3' := hS5.bx.cell 3
            have f3' := hS5.bx.frozen 3
            simp at b3'
            obtain ⟨b', cap', rfl, hS6⟩ := HS4.out.setRest (by omega) hb5 hO5 hdne
            have HS6 := hid hS6
            have HR6 := hid ((HR4.out.next hb5).far ((HR4.out.next hb5).ne hS5.bx (by decide)) 3 (.slice (some ⟨b', 0, none⟩) L'.length cap'))
            have HU6 := hid (gr_set (gr_trans HU4.out hb5) (show w.heap.size ≤ k6 by omega) (p := ⟨k6, 3, none⟩) (.slice (some ⟨b', 0, none⟩) L'.length cap'))
            clear hS6 hS5 hO5 HS4 HR4 HU4
            go_wp2_with fail
            go_roundw
            case rel => exact ⟨j + 1, (Rs ++ [[x, y]], L'), _, b', cap', _, by omega, by go_num, by rw [hs2]; exact HF4.out, by rw [hs2]; exact HJ4.out, HS6.out, HR6.out, HU6.out⟩
            case measure => simp [intOf]; omega
          · have e : j = tn := by omega
            subst e
            have hin' := HJ3.out
            have hfr' := HF3.out
            rw [Nat.sub_self] at hin' hfr'
            have HIN' := hid hin'.fin
            have HFR' := hid (show fR (RR.drop (k + 1)) st = FIN from hfr')
            clear hin' hfr' HJ3 HF3 hS hR
            go_wp2_with fail
            go_roundw
            case rel => exact ⟨k + 1, st, vr, b, cap, T, by omega, by go_num, HFR'.out, HIN'.out, HS3.out, HU3.out⟩
            case measure => simp [intOf]; omega
      · have e : k = RR.length := by omega
        subst e
        have hin' := HIN.out
        have hfr' := HFR.out
        rw [List.drop_length] at hin' hfr'
        have e : st = FIN := hfr'
        subst e
        clear HIN HFR
        obtain ⟨a0, L1, hL, ha0⟩ := hin'.head
        have hgl := hin'.gl
        obtain ⟨Rs, L⟩ := st
        simp only at hL hgl HS hS
        obtain ⟨vra, vrc, rfl⟩ := hS.rows.form
        have hb0 : ∀ i, i < L.length → -1003003001000 ≤ L.getD i 0 ∧ L.getD i 0 ≤ 1003003001000 := fun i hi => by
          have h3 := hgl.2.2.1 _ (getD_mem L i 0 hi)
          have h1 := hgl.1
          have h2 := hgl.2.1
          rcases (show L.length = 1 ∨ L.length = 2 ∨ L.length = 3 ∨ L.length = 4 by omega) with e | e | e | e <;> rw [e] at h3 <;> simp only [bdF] at h3 <;> omega
        have hll : 0 < L.length := by rw [hL]; simp
        have hl4 : L.length ≤ 4 := hgl.2.1
        have ea : L.getD 0 0 = a0 := by rw [hL]; rfl
        have esg : fsg L = if a0 < 0 then -1 else 1 := by rw [hL]; rfl
        have q3 := hS.bx.cell 3
        have r0 : wr.cell? ⟨b, 0, none⟩ = some (.int .i64 a0) := by rw [← ea]; exact (hS.rest.cl.2 0 hll).1
        simp at q3
        have HB0 := hid hb0; have HEsg := hid esg
        clear hb0 esg ea hgl hL hin' hfr'
        by_cases hneg : a0 < 0
        · have hsg : Hid (fsg L = -1) := hid (by rw [HEsg.out, if_pos hneg])
          have HX0 := hid (HS.out.sign (-1))
          have HUx := hid (gr_set HU.out (show w.heap.size ≤ k6 by omega) (.int .i64 ((-1))) (p := ⟨k6, 0, none⟩))
          have q0 := hS.bx.cell 0
          have g0 := hS.bx.frozen 0
          have hlo := hS.lo
          have hc1 := hS.cap1
          have hc2 := hS.cap2
          simp at q0
          clear hS HS HU
          go_wp2_with fail
          have hUz := HUx.out.size
          generalize wr.setCell ⟨k6, 0, none⟩ (.int .i64 ((-1))) = wx at HX0 HUx hUz ⊢
          clear q0 g0 q3 r0
          go_loopw [60] (fun s60 wr => ∃ i : Nat, i ≤ L.length ∧ s60 = .int .i64 ((i : Int)) ∧ Fse w.heap.size wr k6 (w.heap.size + 1) (-1) n (.slice vra Rs.length vrc) b L.length cap Rs T (ngL L i) ∧ Below w.heap.size w wr) (fun s60 _ => L.length - (intOf s60).toNat)
          case atStart => exact ⟨0, Nat.zero_le _, rfl, by rw [ngL_0]; exact HX0.out, HUx.out⟩
          case round =>
            obtain ⟨i, hi, rfl, hX, hU⟩ := hrel
            have HX := hid hX; have HU2 := hid hU
            have hsz2 := hU.size
            by_cases hil : i < L.length
            · obtain ⟨p0, p1⟩ := hX.rest.cl.2 i (by rw [ngL_len L hi]; exact hil)
              have p0' : wr.cell? ⟨b, i, none⟩ = some (.int .i64 (L.getD i 0)) := by rw [← ngL_get L hil]; exact p0
              obtain ⟨d1, d2⟩ := HB0.out i hil
              have hw : wrap64 (-(L.getD i 0)) = -(L.getD i 0) := wr_in (by omega)
              have HN := hid (ngL_s L hil)
              have q3 := hX.bx.cell 3
              simp at q3
              clear p0 hX hU HX0 HUx
              generalize L.getD i 0 = q at p0' d1 d2 hw HN
              have hbx := HX.out.rest.lt
              go_wp2_with fail
              go_region
              have hX2 := (HX.out.set i (-q)).next ((Below.refl _ _).drew)
              rw [HN.out] at hX2
              have HX2 := hid hX2
              have HU3 := hid (gr_drew (gr_set HU2.out hlo (.int .i64 ((-q))) (p := ⟨b, i, none⟩)))
              clear hX2 HX HU2
              go_wp2_with fail
              go_roundw
              case rel => exact ⟨i + 1, by omega, by go_num, HX2.out, HU3.out⟩
              case measure => simp [intOf]; omega
            · have e : i = L.length := by omega
              subst e
              have HE := HX
              have HUe := HU2
              have HFs := hid (show frs L = ngL L L.length by rw [ngL_e]; unfold frs; rw [hsg.out]; simp)
              have HLf := hid (show (ngL L L.length).length = L.length from ngL_len L (Nat.le_refl _))
              have HSep := hid hX.sep
              clear hX hU HX HU2 HX0 HUx
              have q0 := HE.out.bx.cell 0
              have q1 := HE.out.bx.cell 1
              have q2 := HE.out.bx.cell 2
              have q3 := HE.out.bx.cell 3
              have z0 := HE.out.res.cell 0
              have z1 := HE.out.res.cell 1
              have z2 := HE.out.res.cell 2
              have z3 := HE.out.res.cell 3
              have y0 := HE.out.res.frozen 0
              have y1 := HE.out.res.frozen 1
              have y2 := HE.out.res.frozen 2
              have y3 := HE.out.res.frozen 3
              simp at q0 q1 q2 q3 z0 z1 z2 z3
              go_wp2_with fail
              clear q0 q1 q2 q3 z0 z1 z2 z3 y0 y1 y2 y3
              obtain ⟨e1, e2, e3⟩ := HE.out.ret (.int .i64 (-1)) (.int .i64 n) (.slice vra Rs.length vrc) (.slice (some ⟨b, 0, none⟩) L.length cap)
              have hsz9 := HUe.out.size
              have c0 := e1.cell 0
              have c1 := e1.cell 1
              have c2 := e1.cell 2
              have c3 := e1.cell 3
              simp only [List.getElem?_toArray, List.getElem?_cons_zero, List.getElem?_cons_succ] at c0 c1 c2 c3
              have HUf := hid (gr_set (gr_set (gr_set (gr_set HUe.out (show w.heap.size ≤ w.heap.size + 1 by omega) (.int .i64 (-1)) (p := ⟨w.heap.size + 1, 0, none⟩)) (show w.heap.size ≤ w.heap.size + 1 by omega) (.int .i64 n) (p := ⟨w.heap.size + 1, 1, none⟩)) (show w.heap.size ≤ w.heap.size + 1 by omega) (.slice vra Rs.length vrc) (p := ⟨w.heap.size + 1, 2, none⟩)) (show w.heap.size ≤ w.heap.size + 1 by omega) (.slice (some ⟨b, 0, none⟩) L.length cap) (p := ⟨w.heap.size + 1, 3, none⟩))
              refine bodyPost_ret (by simp [results, Tryd.results63, go_sem, c0, c1, c2, c3]; try rfl) rfl ?_
              rw [hsg.out, HFs.out]
              exact ⟨_, b, cap, T, by first | rfl | rw [HLf.out], e2, e3, by first | exact hc1 | (rw [HLf.out]; exact hc1), hc2, hlo, HSep.out, HUf.out⟩
        · have hsg : Hid (fsg L = 1) := hid (by rw [HEsg.out, if_neg hneg])
          have hlo := hS.lo
          have hc1 := hS.cap1
          have hc2 := hS.cap2
          have HE := hid hS.toE
          have HUe := HU
          have HFs := hid (show frs L = L by unfold frs; rw [hsg.out]; simp)
          have HLf := hid (show L.length = L.length from rfl)
          have HSep := hid hS.sep
          clear hS HS HU
          have q0 := HE.out.bx.cell 0
          have q1 := HE.out.bx.cell 1
          have q2 := HE.out.bx.cell 2
          have q3 := HE.out.bx.cell 3
          have z0 := HE.out.res.cell 0
          have z1 := HE.out.res.cell 1
          have z2 := HE.out.res.cell 2
          have z3 := HE.out.res.cell 3
          have y0 := HE.out.res.frozen 0
          have y1 := HE.out.res.frozen 1
          have y2 := HE.out.res.frozen 2
          have y3 := HE.out.res.frozen 3
          simp at q0 q1 q2 q3 z0 z1 z2 z3
          go_wp2_with fail
          clear q0 q1 q2 q3 z0 z1 z2 z3 y0 y1 y2 y3
          obtain ⟨e1, e2, e3⟩ := HE.out.ret (.int .i64 1) (.int .i64 n) (.slice vra Rs.length vrc) (.slice (some ⟨b, 0, none⟩) L.length cap)
          have hsz9 := HUe.out.size
          have c0 := e1.cell 0
          have c1 := e1.cell 1
          have c2 := e1.cell 2
          have c3 := e1.cell 3
          simp only [List.getElem?_toArray, List.getElem?_cons_zero, List.getElem?_cons_succ] at c0 c1 c2 c3
          have HUf := hid (gr_set (gr_set (gr_set (gr_set HUe.out (show w.heap.size ≤ w.heap.size + 1 by omega) (.int .i64 1) (p := ⟨w.heap.size + 1, 0, none⟩)) (show w.heap.size ≤ w.heap.size + 1 by omega) (.int .i64 n) (p := ⟨w.heap.size + 1, 1, none⟩)) (show w.heap.size ≤ w.heap.size + 1 by omega) (.slice vra Rs.length vrc) (p := ⟨w.heap.size + 1, 2, none⟩)) (show w.heap.size ≤ w.heap.size + 1 by omega) (.slice (some ⟨b, 0, none⟩) L.length cap) (p := ⟨w.heap.size + 1, 3, none⟩))
          refine bodyPost_ret (by simp [results, Tryd.results63, go_sem, c0, c1, c2, c3]; try rfl) rfl ?_
          rw [hsg.out, HFs.out]
          exact ⟨_, b, cap, T, by first | rfl | rw [HLf.out], e2, e3, by first | exact hc1 | (rw [HLf.out]; exact hc1), hc2, hlo, HSep.out, HUf.out⟩


end Go.Proofs.YthheongdgcfngaaDoor
