/- Chapter 5: FactorForm, the model's. -/
import Derived.Test.YthheongdgcfngaaDoorZ13
import Derived.Test.YthheongdgcfngaaDoorFd
import Derived.Test.YthheongdgcfngaaDoorGv
import Derived.Test.YthheongdgcfngaaDoorC1h
import Derived.Deep.CutBlock
namespace Go.Proofs.YthheongdgcfngaaDoor
open Go.RowKit

theorem Bx.new' {w : World} {k : Nat} (xs : Array Value) (T : TypeId) (h : k = w.heap.size) : Bx (w.alloc (.cells xs T)) k xs T := by subst h; exact Bx.new w xs T
def lenV : Value → Nat
  | .slice _ n _ => n
  | _ => 0
/-- The first i numbers times the sign. -/
def sgL (sg : Int) (L : List Int) (i : Nat) : List Int := (L.take i).map (sg * ·) ++ L.drop i
theorem sgL_len (sg : Int) (L : List Int) {i : Nat} (h : i ≤ L.length) : (sgL sg L i).length = L.length := by simp [sgL]; omega
theorem sgL_get (sg : Int) (L : List Int) {i : Nat} (h : i < L.length) : (sgL sg L i).getD i 0 = L.getD i 0 := by
  simp [sgL, List.getD, List.getElem?_append_right, h, Nat.min_eq_left (Nat.le_of_lt h)]
theorem sgL_s (sg : Int) (L : List Int) {i : Nat} (h : i < L.length) : (sgL sg L i).set i (sg * L.getD i 0) = sgL sg L (i + 1) := by
  refine List.ext_getElem? fun j => ?_
  by_cases hj : j < L.length
  · rcases Nat.lt_trichotomy j i with e | e | e
    · rw [List.getElem?_set_ne (by omega)]
      simp only [sgL]
      rw [List.getElem?_append_left (by simp; omega), List.getElem?_append_left (by simp; omega)]
      simp [e, show j < i + 1 by omega]
    · subst e
      rw [List.getElem?_set_self (by rw [sgL_len sg L (by omega)]; exact hj)]
      simp only [sgL]
      rw [List.getElem?_append_left (by simp; omega)]
      simp [List.getD, hj]
    · rw [List.getElem?_set_ne (by omega)]
      simp only [sgL]
      rw [List.getElem?_append_right (by simp; omega), List.getElem?_append_right (by simp; omega)]
      simp only [List.length_map, List.length_take, List.getElem?_drop]
      congr 1; omega
  · rw [List.getElem?_eq_none (by rw [List.length_set, sgL_len sg L (by omega)]; omega), List.getElem?_eq_none (by rw [sgL_len sg L (by omega)]; omega)]
theorem sgL_0 (sg : Int) (L : List Int) : sgL sg L 0 = L := by simp [sgL]
theorem sgL_e (L : List Int) : sgL (fsg L) L L.length = frs L := by simp [sgL, frs]
theorem fsg_or (L : List Int) : fsg L = 1 ∨ fsg L = -1 := by unfold fsg; split <;> simp
/-- What the model's FactorForm answers. -/
def FfM (k sg n : Int) (Rs : List (List Int)) (L : List Int) (w : World) (e : Ending) (w' : World) : Prop :=
  Below w.heap.size w w' ∧ ((k ≠ 0 ∧ e = .returned (.tuple #[.int .i64 0, .int .i64 0, .slice none 0 0, .slice none 0 0, .int .i64 k])) ∨
    (k = 0 ∧ ∃ vr b cap T, e = .returned (.tuple #[.int .i64 sg, .int .i64 n, vr, .slice (some ⟨b, 0, none⟩) L.length cap, .int .i64 0]) ∧ Rwm w.heap.size w' vr Rs T ∧ RB w' b L ∧ L.length ≤ cap ∧ cap ≤ maxLen))
/-- The state of the model. -/
structure Mst (B : Nat) (w : World) (vr : Value) (b : Nat) (Rs : List (List Int)) (T : List (Nat × Nat)) (L : List Int) (va : Value) (RR : List (Int × Int × Int)) : Prop where
  rows : Rwm B w vr Rs T
  rest : RB w b L
  sep : ∀ t ∈ T, t.1 ≠ b
  all : RwX B w va 2 (RR.map rw2)
  ap : ∀ j, va.ownBlock = some j → vr.ownBlock ≠ some j
  lo : B ≤ b
theorem Mst.next {B : Nat} {w w' : World} {vr : Value} {b : Nat} {Rs : List (List Int)} {T : List (Nat × Nat)} {L : List Int} {va : Value} {RR : List (Int × Int × Int)} (h : Mst B w vr b Rs T L va RR) (hb : Below w.heap.size w w') : Mst B w' vr b Rs T L va RR :=
  ⟨h.rows.next hb, h.rest.next hb, h.sep, h.all.next hb, h.ap, h.lo⟩
theorem RwX.lt {B : Nat} {w : World} {v : Value} {s : Nat} {R : List (List Int)} (h : RwX B w v s R) : ∀ j, v.ownBlock = some j → B ≤ j ∧ j < w.heap.size := fun j hj => by
  obtain ⟨T, hT⟩ := h
  exact hT.own.lt j hj

set_option maxRecDepth 100000 in
set_option maxHeartbeats 8000000 in
theorem sFactorForm_any (a b c d : Int) (w : World) : Calls Tryd.prog 27 #[.agg #[.int .i64 a, .int .i64 b, .int .i64 c, .int .i64 d]] w (FfM (rrc a b c d) (fsg (fac a b c d).2) (cnt a b c d) (fac a b c d).1 (frs (fac a b c d).2) w) := by
  have q := eq_zero a b c d
  rw [← cnt_zero] at q
  have HR := hid (fun (hF : isF a b c d = true) (hN : mul0 (cnt a b c d) 0 = false) W => (show Calls Tryd.prog 65 #[.agg #[.int .i64 a, .int .i64 b, .int .i64 c, .int .i64 d]] W (RwOut 2 ((rrt a b c d).map rw2) W) by
    obtain ⟨ha, hb, hc, hd⟩ := isF_t hF
    obtain ⟨e, h1, h2⟩ := flK_N ha hb hc hd
    rw [flK_abs] at e
    obtain ⟨e1, e2⟩ := Prod.mk.inj e
    have n1 := nz_f hN
    have n2 := nz_l hN
    rw [rr_list ha hb hc hd hN]
    exact l05Rational_any a b c d _ _ W ha hb hc hd (by omega) (by omega) (by omega) (by omega) h1 h2))
  have A0 := Arr.new w a b c d 25
  have U0 := gr_alloc (Below.refl w.heap.size w) (.cells #[.int .i64 a, .int .i64 b, .int .i64 c, .int .i64 d] 25)
  obtain ⟨_, c0, c1, c2, c3, _⟩ := id A0
  go_enter Tryd.func27, Tryd.ntmps27
  go_wp2_with fail
  refine (l01Is_any a b c d _).mono ?_
  rintro e w1 ⟨rfl, hb1⟩
  have A1 := A0.next hb1
  have U1 := gr_trans U0 hb1
  clear c0 c1 c2 c3 A0 U0
  obtain ⟨_, c0, c1, c2, c3, _⟩ := id A1
  cases hF : isF a b c d with
  | false =>
    have HE := hid (rrc_n hF)
    clear q
    go_wp2_with fail
    refine bodyPost_ret (by simp [results, Tryd.results27, go_sem]; try rfl) rfl ?_
    rw [HE.out]
    exact ⟨U1, .inl ⟨by decide, rfl⟩⟩
  | true =>
    have HR1 := hid (HR.out hF)
    cases hN : mul0 (cnt a b c d) 0 with
    | true =>
      have HE := hid (rrc_5 hF hN)
      rw [hN] at q
      go_wp2_with fail
      refine bodyPost_ret (by simp [results, Tryd.results27, go_sem]; try rfl) rfl ?_
      rw [HE.out]
      exact ⟨U1, .inl ⟨by decide, rfl⟩⟩
    | false =>
      have HE := hid (rrc_0 hF hN)
      have HR2 := hid (HR1.out hN)
      rw [hN] at q
      obtain ⟨ha, hb, hc, hd⟩ := isF_t hF
      have HCn := hid (fun W => sCnt_any a b c d W ha hb hc hd)
      have hl := rrt_len ha hb hc hd
      have HI0 := hid (FInv_0 ha hb hc hd hN)
      have hn0 : cnt a b c d ≠ 0 := (ptl4_m hN).1
      obtain ⟨n, hn⟩ : ∃ n, n = cnt a b c d := ⟨_, rfl⟩
      have hnb : ¬ n = 0 := by rw [hn]; exact hn0
      obtain ⟨q0, hq0⟩ : ∃ n, n = a.tdiv (cnt a b c d) := ⟨_, rfl⟩
      obtain ⟨q1, hq1⟩ : ∃ n, n = b.tdiv (cnt a b c d) := ⟨_, rfl⟩
      obtain ⟨q2, hq2⟩ : ∃ n, n = c.tdiv (cnt a b c d) := ⟨_, rfl⟩
      obtain ⟨q3, hq3⟩ : ∃ n, n = d.tdiv (cnt a b c d) := ⟨_, rfl⟩
      have hpt : ptl4 a b c d = [q0, q1, q2, q3] := by rw [hq0, hq1, hq2, hq3]; rfl
      have HFI := hid (show fR (rrt a b c d) ([], [q0, q1, q2, q3]) = fac a b c d by rw [← hpt]; rfl)
      have HI := hid (show FInv ([], [q0, q1, q2, q3]) (rrt a b c d) by rw [← hpt]; exact HI0.out)
      have z0 := tdiv_bd (g := cnt a b c d) ha
      have z1 := tdiv_bd (g := cnt a b c d) hb
      have z2 := tdiv_bd (g := cnt a b c d) hc
      have z3 := tdiv_bd (g := cnt a b c d) hd
      have t0 : wrap64 (a.tdiv n) = q0 := by rw [hn, hq0]; exact wr_in (by omega)
      have t1 : wrap64 (b.tdiv n) = q1 := by rw [hn, hq1]; exact wr_in (by omega)
      have t2 : wrap64 (c.tdiv n) = q2 := by rw [hn, hq2]; exact wr_in (by omega)
      have t3 : wrap64 (d.tdiv n) = q3 := by rw [hn, hq3]; exact wr_in (by omega)
      have t0' : IntKind.i64.wrap (a.tdiv n) = q0 := by rw [IntWalk.i64_left]; exact t0
      have t1' : IntKind.i64.wrap (b.tdiv n) = q1 := by rw [IntWalk.i64_left]; exact t1
      have t2' : IntKind.i64.wrap (c.tdiv n) = q2 := by rw [IntWalk.i64_left]; exact t2
      have t3' : IntKind.i64.wrap (d.tdiv n) = q3 := by rw [IntWalk.i64_left]; exact t3
      clear t0 t1 t2 t3
      rw [← hn] at HCn
      have HNE := hid hn
      clear z0 z1 z2 z3 hq0 hq1 hq2 hq3 hpt HI0 hn0 hn ha hb hc hd hN HR HR1
      obtain ⟨RR, hRR⟩ : ∃ R, R = rrt a b c d := ⟨_, rfl⟩
      rw [← hRR] at HR2 hl HFI HI
      obtain ⟨FIN, hFIN⟩ : ∃ R, R = fac a b c d := ⟨_, rfl⟩
      rw [← hFIN] at HFI
      have HFN := hid hFIN
      clear hRR hFIN
      go_wp2_with fail
      refine (HCn.out _).mono ?_
      rintro e w2 ⟨rfl, hb2⟩
      have A2 := A1.next hb2
      have U2 := gr_trans U1 hb2
      have hal := A2.lt
      clear c0 c1 c2 c3 A1 U1 q
      go_upto_region 6 with fail
      go_cut [8, 9, 10] (fun s8 s9 s10 wx => ∃ b e, s8 = .slice (some ⟨b, 0, none⟩) 4 4 ∧ s9 = .slice (some ⟨e, 0, none⟩) 0 0 ∧ RwX w2.heap.size wx s10 2 (RR.map rw2) ∧ Bx wx b #[.int .i64 q0, .int .i64 q1, .int .i64 q2, .int .i64 q3] 2 ∧ Bx wx e #[] 35 ∧ Below w2.heap.size w2 wx ∧ w2.heap.size ≤ e ∧ (∀ j, s10.ownBlock = some j → j ≠ e) ∧ w2.heap.size ≤ b)
      case first =>
        go_region_held3 (fun W => W.cell? ⟨w.heap.size, 0, none⟩ = some (.int .i64 a) ∧ W.cell? ⟨w.heap.size, 1, none⟩ = some (.int .i64 b) ∧ W.cell? ⟨w.heap.size, 2, none⟩ = some (.int .i64 c) ∧ W.cell? ⟨w.heap.size, 3, none⟩ = some (.int .i64 d)) (refine cells4 ?_ <;> (repeat (first | with_reducible assumption | with_reducible exact Arr.box (by assumption) | with_reducible exact Box.new _ _ _ _ _ _ | with_reducible exact Arr.new _ _ _ _ _ _ | with_reducible refine Arr.drew ?_ | with_reducible refine Arr.drewN ?_ _ | with_reducible refine Arr.store4 ?_ | with_reducible refine Arr.alloc ?_ _ | with_reducible refine Box.drew ?_ | with_reducible refine Box.drewN ?_ _ | with_reducible refine Box.alloc ?_ _ | with_reducible refine Arr.next ?_ (by assumption) | with_reducible refine Box.next ?_ (by assumption) | refine Arr.oth ?_ (by first | (simp; done) | omega | (simp; omega)) _ | refine Box.oth ?_ (by first | (simp; done) | omega | (simp; omega)) _))) ((go_at_call 65; refine (HR2.out _).mono ?_; rintro e w5 ⟨v5, rfl, hX5, hb5⟩; have hz5 := hb5.size; (try simp at hz5)))
        all_goals (go_wp2_with fail; go_meet)
        all_goals refine ⟨_, _, rfl, rfl, ?_, ?_, ?_, ?_, ?_, ?_, ?_⟩
        all_goals first
          | (refine (RwX.base (by assumption) ?_).next ?_ <;> first | exact Nat.le_refl _ | (simp; done) | (repeat' (first | with_reducible exact Below.refl _ _ | with_reducible assumption | with_reducible refine gr_alloc ?_ _ | with_reducible refine gr_drew ?_ | with_reducible refine gr_drewN ?_ _ | with_reducible refine gr_trans ?_ (by assumption) | with_reducible refine gr_set ?_ ?_ _ | (simp; done) | omega | (simp; omega))))
          | (solve | (repeat (first | with_reducible assumption | with_reducible exact Bx.new' _ _ (by simp) | with_reducible refine Bx.drew ?_ | with_reducible refine Bx.drewN ?_ _ | with_reducible refine Bx.alloc ?_ _ | with_reducible refine Bx.next ?_ (by assumption))))
          | ((repeat' (first | with_reducible exact Below.refl _ _ | with_reducible assumption | with_reducible refine gr_alloc ?_ _ | with_reducible refine gr_drew ?_ | with_reducible refine gr_drewN ?_ _ | with_reducible refine gr_trans ?_ (by assumption) | with_reducible refine gr_set ?_ ?_ _ | (simp; done) | omega | (simp; omega))); done)
          | exact Nat.le_refl _
          | omega
          | (simp; omega)
          | (intro j hj; have hq := (show RwX _ _ _ _ _ by assumption).lt j hj; simp at hq; omega)
      case rest =>
        obtain ⟨b0, e0, rfl, rfl, hX, hB, hE, hbx, hle, hap, hlob⟩ := hcut
        have U3 := gr_trans U2 hbx
        have hz2 := U2.size
        have S0 : Mst w.heap.size wc (.slice (some ⟨e0, 0, none⟩) 0 0) b0 [] [] [q0, q1, q2, q3] u10 RR := ⟨⟨⟨rfl, .inr ⟨e0, 0, #[], rfl, by omega, hE, Nat.le_refl _, by decide, rfl, rfl⟩⟩, rfl, fun i hi => by simp at hi, fun r hr => by simp at hr⟩, ⟨_, _, hB, .inl rfl, fun i hi => by
          match i, hi with
          | 0, _ => rfl
          | 1, _ => rfl
          | 2, _ => rfl
          | 3, _ => rfl⟩, fun t ht => by simp at ht, hX.base hz2, fun j hj e => by simp [Value.ownBlock] at e; exact hap j hj e.symm, by omega⟩
        have HS0 := hid S0; have HU0 := hid U3
        have HIW := hid (fun i (hi : i < RR.length) => (show ∀ W va, RwX w.heap.size W va 2 (RR.map rw2) → ∃ a cap, va = .slice (some ⟨a, 0, none⟩) RR.length cap ∧ RR.length ≤ cap ∧ cap ≤ maxLen ∧ a < W.heap.size ∧ ∃ t, t < W.heap.size ∧ W.cell? ⟨a, i, none⟩ = some (.slice (some ⟨t, 0, none⟩) 2 2) ∧ W.cell? ⟨t, 0, none⟩ = some (.int .i64 (RR[i].1)) ∧ W.cell? ⟨t, 1, none⟩ = some (.int .i64 (RR[i].2.1)) from fun W va h => by
          obtain ⟨T, hC⟩ := h.toC
          rw [List.length_map] at hC
          obtain ⟨a, cap, rfl, h1, h2, _, h3, h4, _⟩ := hC
          obtain ⟨g, rfl, _, hg, hc⟩ := h3 (by omega)
          obtain ⟨_, hT, _, hcl⟩ := h4 i hi
          have e0 := (hcl 0 (by omega)).1
          have e1 := (hcl 1 (by omega)).1
          have em : (RR.map rw2).getD i [] = rw2 RR[i] := by simp [List.getD, hi]
          simp only [em] at e0 e1
          exact ⟨g, cap, rfl, h1, h2, by omega, T i, by omega, (hc i hi).1, e0, e1⟩))
        have hform : ∃ va cp, u10 = .slice va RR.length cp ∧ cp ≤ maxLen := by
          obtain ⟨T, hT⟩ := hX
          have hO := hT.own
          rw [List.length_map] at hO
          rcases hO.2 with ⟨e, h0⟩ | ⟨g, cp, cur, e, _, _, h2, h3, _⟩
          · exact ⟨none, 0, by rw [h0]; exact e, by decide⟩
          · exact ⟨_, cp, e, h3⟩
        obtain ⟨va, cp, rfl, hcpm⟩ := hform
        obtain ⟨i0, hi, hi0, hi1, hi2⟩ := info_parts info_fs
        have HI' := hid hi; have HZ0 := hid hi0; have HZ1 := hid hi1; have HZ2 := hid hi2
        clear hi hi0 hi1 hi2 S0 U3 hX hB hE hbx hle hap hlob A2 U2 hal hb2 HR2 HCn t0' t1' t2' t3' hnb
        unfold maxLen at hcpm
        go_wp2_with fail
        go_loopw [8, 9, 11] (fun s8 s9 s11 wr => ∃ (k : Nat) (st : List (List Int) × List Int) (vr : Value) (b : Nat) (T : List (Nat × Nat)), k ≤ RR.length ∧ s11 = .int .i64 ((k : Int)) ∧ s8 = .slice (some ⟨b, 0, none⟩) st.2.length st.2.length ∧ s9 = vr ∧ fR (RR.drop k) st = FIN ∧ FInv st (RR.drop k) ∧ Mst w.heap.size wr vr b st.1 T st.2 (.slice va RR.length cp) RR ∧ Below w.heap.size w wr) (fun _ _ s11 _ => RR.length - (intOf s11).toNat)
        case atStart => exact ⟨0, ([], [q0, q1, q2, q3]), _, _, _, Nat.zero_le _, rfl, rfl, rfl, HFI.out, HI.out, HS0.out, HU0.out⟩
        case round =>
          obtain ⟨k, st, vr, b, T, hk, rfl, rfl, rfl, hfr, hin, hS, hU⟩ := hrel
          have HFR := hid hfr; have HIN := hid hin; have HS := hid hS; have HU := hid hU
          have hsz := hU.size
          clear hfr hin hU HS0 HU0
          by_cases hlt : k < RR.length
          · have hdrop : RR.drop k = RR[k] :: RR.drop (k + 1) := List.drop_eq_getElem_cons hlt
            have hin' := HIN.out
            have hfr' := HFR.out
            rw [hdrop] at hin' hfr'
            have hJ := hin'.start
            rw [fR_cons] at hfr'
            have HJ := hid hJ; have HF2 := hid hfr'; have HIk := hid (HIW.out k hlt)
            clear hdrop hin' hJ hfr' HFR HIN hS
            generalize RR[k].1 = x at HJ HF2 HIk
            generalize RR[k].2.1 = y at HJ HF2 HIk
            generalize RR[k].2.2.toNat = s at HJ HF2
            go_wp2_with fail
            obtain ⟨wo, hwo⟩ : ∃ wo, wo = wr := ⟨_, rfl⟩
            subst hwo
            go_loopw [8, 9] (fun s8 s9 wr => ∃ (s : Nat) (st : List (List Int) × List Int) (vr : Value) (b : Nat) (T : List (Nat × Nat)), s8 = .slice (some ⟨b, 0, none⟩) st.2.length st.2.length ∧ s9 = vr ∧ fR (RR.drop (k + 1)) (fJ x y s st) = FIN ∧ FInJ st x y s (RR.drop (k + 1)) ∧ Mst w.heap.size wr vr b st.1 T st.2 (.slice va RR.length cp) RR ∧ Below w.heap.size w wr) (fun s8 _ _ => lenV s8)
            case atStart => exact ⟨s, st, _, _, _, rfl, rfl, HF2.out, HJ.out, HS.out, HU.out⟩
            case round =>
              obtain ⟨s, st, vr, b, T, rfl, rfl, hfr, hin, hS, hU⟩ := hrel
              have HF3 := hid hfr; have HJ3 := hid hin; have HS3 := hid hS; have HU3 := hid hU
              have hsz3 := hU.size
              obtain ⟨g, cap', e', hc1, hcm, hgl, t, htl, x0, x1, x2⟩ := HIk.out wr _ hS.all
              cases e'
              unfold maxLen at hcm
              obtain ⟨nn, hnn⟩ : ∃ nn, st.2.length = nn + 1 := ⟨st.2.length - 1, by have := hin.gl.1; omega⟩
              have hTl := hS.rows.lt
              have HD := hid (fun v W h => l05Divide_any v st.2 x y nn W h hin.gl hin.pt hnn)
              have HNN := hid hnn
              have h4 := hin.gl.2.1
              clear hfr hin hU HS HU HF2 HJ hnn
              go_wp2_with fail
              go_cut [12, 13] (fun s12 s13 wx => ∃ (b' : Nat) (ok : Bool), s12 = .slice (some ⟨b', 0, none⟩) nn nn ∧ s13 = .bool ok ∧ ok = decide (ev st.2 x y = 0) ∧ (ok = true → RB wx b' (dvd st.2 x y)) ∧ wr.heap.size ≤ b' ∧ Below wr.heap.size wr wx)
              case first =>
                have hRd := HS3.out.rest.rdP (cap := st.2.length) (Nat.le_refl _) (by unfold maxLen; omega)
                go_region_held3 (fun W => W.cell? ⟨g, k, none⟩ = some (.slice (some ⟨t, 0, none⟩) 2 2) ∧ W.cell? ⟨t, 0, none⟩ = some (.int .i64 x) ∧ W.cell? ⟨t, 1, none⟩ = some (.int .i64 y)) (first | exact ⟨by assumption, by assumption, by assumption⟩ | (refine ⟨?_, ?_, ?_⟩ <;> (refine (Below.cell (by assumption) ?_).trans (by assumption); (first | omega | (simp; omega))))) ((go_at_call 66; refine (HD.out _ _ (hRd.next (by (repeat' (first | with_reducible exact Below.refl _ _ | with_reducible assumption | with_reducible refine gr_alloc ?_ _ | with_reducible refine gr_drew ?_ | with_reducible refine gr_drewN ?_ _ | with_reducible refine gr_trans ?_ (by assumption) | with_reducible refine gr_set ?_ ?_ _ | (simp; done) | omega | (simp; omega)))))).mono ?_; rintro e w5 ⟨ok, rfl, hok, hR5, hb5⟩; have HOK := hid hok; have HR5 := hid hR5; clear hok hR5))
                all_goals (go_wp2_with fail; go_meet)
                all_goals exact ⟨_, _, rfl, rfl, Hid.out (by assumption), Hid.out (by assumption), by first | exact Nat.le_refl _ | simp, by (repeat' (first | with_reducible exact Below.refl _ _ | with_reducible assumption | with_reducible refine gr_alloc ?_ _ | with_reducible refine gr_drew ?_ | with_reducible refine gr_drewN ?_ _ | with_reducible refine gr_trans ?_ (by assumption) | with_reducible refine gr_set ?_ ?_ _ | (simp; done) | omega | (simp; omega)))⟩
              case rest =>
                obtain ⟨b', ok, rfl, rfl, hok, hR5, hlb, hbx⟩ := hcut
                have hS4 := HS3.out.next hbx
                have HU4 := hid (HU3.out.trans (hbx.mono hsz3))
                have x0' := (hbx.cell (p := ⟨g, k, none⟩) hgl).trans x0
                have x1' := (hbx.cell (p := ⟨t, 0, none⟩) htl).trans x1
                have x2' := (hbx.cell (p := ⟨t, 1, none⟩) htl).trans x2
                have hsz4 := hbx.size
                have HR5 := hid hR5
                have HS4 := hid hS4
                clear hR5 hS4 HS3 HU3 hbx x0 x1 x2 HD
                cases s with
                | zero =>
                  have hj := HJ3.out
                  have hok' : ok = false := by rw [hok]; simpa using hj.nz
                  subst hok'
                  have HIN2 := hid hj.fin
                  have HFR2 := hid (show fR (RR.drop (k + 1)) st = FIN from HF3.out)
                  clear hj HJ3 HF3 hok
                  go_wp2_with fail
                  exact ⟨⟨k + 1, st, _, b, T, by omega, by go_num, rfl, rfl, HFR2.out, HIN2.out, HS4.out, HU4.out⟩, by simp [intOf]; omega⟩
                | succ s =>
                  have hj := HJ3.out
                  obtain ⟨hj4, hl2⟩ := hj.step
                  have hok' : ok = true := by rw [hok]; simpa using hj.z
                  subst hok'
                  have HJ4 := hid hj4
                  have HF4 := hid (show fR (RR.drop (k + 1)) (fJ x y s (st.1 ++ [[x, y]], dvd st.2 x y)) = FIN from HF3.out)
                  have hlb2 : ¬ ((st.2.length : Int) < 2) := by omega
                  have HR6 := hid (HR5.out rfl)
                  have HDL := hid (dvd_len (x := x) (y := y) HNN.out)
                  have hl4 := hj.len
                  have HO := hid (fun W (hW : t < W.heap.size) h0 h1 => sOwn_any t 0 2 2 (fun j => if j = 0 then x else y) W hW (fun j hj => by
                    match j, hj with
                    | 0, _ => exact h0
                    | 1, _ => exact h1) (by omega))
                  clear hj hj4 HJ3 HF3 hok HR5
                  have HNM := hid (show nums 2 (fun j => if j = 0 then x else y) = [x, y].map (Value.int .i64) from rfl)
                  have hRn := fun W hb => HS4.out.rows.next (w' := W) hb
                  go_wp2_with (first | (go_at_call 67; refine (HO.out _ (by omega) x1' x2').mono ?_; rintro e w6 ⟨v6, rfl, hO6, hb6⟩; obtain ⟨t6, cp6, rfl, hr6, hlo6, hc61, hc62⟩ := RB.own (L := [x, y]) (HNM.out ▸ hO6) (by simp)) | (at_builtin; refine wpList_append_lies _ rfl _ _ 32 rfl w.heap.size 35 i0 (.slice none 0 0) 1 24 Tryd.underlying32 HI'.out HZ0.out HZ1.out HZ2.out rfl (by decide) _ _ _ rfl ((hRn w6 hb6).own.alloc _) ⟨w6.heap.size, 0, none⟩ 1 1 [.slice (some ⟨t6, 0, none⟩) 2 cp6] rfl rfl ?a1 ?b1 (by decide) ?c1 ?d1 ?e1 _ rfl ?_))
                  case a1 =>
                    intro j u hj
                    match j, hj with
                    | 0, hj => simp at hj; subst hj; simp [Addr.add, go_sem]
                  case b1 => first | (intro u hu; simp at hu; subst hu; rfl) | rfl | simp [Value.oneCell']
                  case c1 => unfold maxLen; omega
                  case d1 => omega
                  case e1 => have := hb6.size; simp; omega
                  intro gn cpn W1 O1 hg1 hor _
                  have hS6 := HS4.out.next hb6
                  have hsz6 := hb6.size
                  have hr7 := hS6.rows.app hr6 rfl hc61 hc62 hg1 O1
                  have hro := hS6.rows.own.alloc (.cells #[.slice (some ⟨t6, 0, none⟩) 2 cp6] 35)
                  have hrest7 : RB W1 b' (dvd st.2 x y) := ((HR6.out.next hb6).next ((Below.refl _ w6).alloc (Nat.le_refl _) _)).grown hro hg1
                  have hall7 : RwX w.heap.size W1 (.slice (some ⟨g, 0, none⟩) RR.length cp) 2 (RR.map rw2) := (hS6.all.next ((Below.refl _ w6).alloc (Nat.le_refl _) _)).grown hro (.inr fun e => hS6.ap g rfl (e.symm.trans rfl)) hg1
                  have HM := hid (show Mst w.heap.size W1 (.slice (some ⟨gn, 0, none⟩) (st.1.length + 1) cpn) b' (st.1 ++ [[x, y]]) (T ++ [(t6, cp6)]) (dvd st.2 x y) (.slice (some ⟨g, 0, none⟩) RR.length cp) RR from ⟨hr7, hrest7, fun p hp => by
                    rcases List.mem_append.1 hp with hp | hp
                    · have := hTl p hp; omega
                    · simp at hp; subst hp; have := HR6.out.lt; omega, hall7, fun j hj e => by
                    simp [Value.ownBlock] at hj e
                    subst hj
                    rcases hor with h | h
                    · exact hS6.ap g rfl (h.trans (by rw [e]))
                    · have := (hS6.all.lt g rfl).2; omega, by omega⟩)
                  have HUn := hid (gr_own (gr_alloc (gr_trans HU4.out hb6) _) hg1 (fun j hj => (hS6.rows.own.lt j hj).1))
                  clear hS6 hr7 hro hrest7 hall7 O1 hg1 hor HS4 HU4 hRn hr6
                  go_wp2_with fail
                  exact ⟨⟨s, (st.1 ++ [[x, y]], dvd st.2 x y), _, b', _, by simp only [HDL.out], rfl, HF4.out, HJ4.out, HM.out, HUn.out⟩, by simp [lenV, HNN.out]⟩
          · have e : k = RR.length := by omega
            subst e
            have hin' := HIN.out
            have hfr' := HFR.out
            rw [List.drop_length] at hin' hfr'
            have e : st = FIN := hfr'
            subst e
            clear HIN HFR
            obtain ⟨a0, L1, hL, ha0⟩ := hin'.head
            have hgl := hin'.gl
            obtain ⟨Rs, L⟩ := st
            simp only at hL hgl HS hS
            have HB0 := hid hgl.get
            have hll : 0 < L.length := by rw [hL]; simp
            have hl4 : L.length ≤ 4 := hgl.2.1
            have ea : L.getD 0 0 = a0 := by rw [hL]; rfl
            have HEsg := hid (show fsg L = if a0 < 0 then -1 else 1 by rw [hL]; rfl)
            have r0 : wr.cell? ⟨b, 0, none⟩ = some (.int .i64 a0) := by rw [← ea]; exact (hS.rest.cl.2 0 hll).1
            have hab : (a0 == 0) = false := by simpa using ha0
            have hll' : (0 : Int) < (L.length : Int) := by omega
            have HHS := hid hS
            clear hL ea hgl hin' hfr' hS HS
            go_upto_block 5 with fail
            go_cut [14] (fun s14 wx => s14 = .int .i64 (fsg L) ∧ wx = wr)
            case first =>
              go_wp2_with fail
              refine wp_loop_rounds 1 ?_
              rw [rounds_succ]
              by_cases hneg : a0 < 0
              · have e := HEsg.out
                rw [if_pos hneg] at e
                have HE1 := hid e
                clear e
                go_wp2_with fail
                go_meet
                exact ⟨by rw [HE1.out], rfl⟩
              · have e := HEsg.out
                rw [if_neg hneg] at e
                have HE1 := hid e
                clear e
                go_wp2_with fail
                go_meet
                exact ⟨by rw [HE1.out], rfl⟩
            case rest =>
              obtain ⟨rfl, rfl⟩ := hcut
              have HFS := hid (show frs L = sgL (fsg L) L L.length from (sgL_e L).symm)
              have hso := fsg_or L
              clear r0 hab HEsg
              generalize hsg : fsg L = sg at HFS hso ⊢
              have HSG := hid hsg
              clear hsg
              go_wp2_with fail
              go_loopw [16] (fun s16 wr => ∃ i : Nat, i ≤ L.length ∧ s16 = .int .i64 ((i : Int)) ∧ Rwm w.heap.size wr u9 Rs T ∧ RB wr b (sgL sg L i) ∧ Below w.heap.size w wr) (fun s16 _ => L.length - (intOf s16).toNat)
              case atStart => exact ⟨0, Nat.zero_le _, rfl, HHS.out.rows, by rw [sgL_0]; exact HHS.out.rest, HU.out⟩
              case round =>
                obtain ⟨i, hi, rfl, hW, hR, hU2⟩ := hrel
                have HW := hid hW; have HR := hid hR; have HU2 := hid hU2
                have hsz2 := hU2.size
                by_cases hil : i < L.length
                · obtain ⟨p0, p1⟩ := hR.cl.2 i (by rw [sgL_len sg L hi]; exact hil)
                  have p0' : wr.cell? ⟨b, i, none⟩ = some (.int .i64 (L.getD i 0)) := by rw [← sgL_get sg L hil]; exact p0
                  obtain ⟨d1, d2⟩ := HB0.out i hil
                  have hw : wrap64 (sg * L.getD i 0) = sg * L.getD i 0 := by rcases hso with rfl | rfl <;> exact wr_in (by omega)
                  have HN := hid (sgL_s sg L hil)
                  clear p0 hW hR hU2 d1 d2
                  generalize L.getD i 0 = q at p0' hw HN
                  go_wp2_with fail
                  try rw [hw]
                  have hR3 := HR.out.set i (sg * q)
                  rw [HN.out] at hR3
                  exact ⟨⟨i + 1, by omega, by go_num, HW.out.setB HR.out HHS.out.sep _ _, hR3, gr_set HU2.out HHS.out.lo _ (p := ⟨b, i, none⟩)⟩, by simp [intOf]; omega⟩
                · have e : i = L.length := by omega
                  subst e
                  have hlf : (frs L).length = L.length := by rw [HFS.out, sgL_len sg L (Nat.le_refl _)]
                  have HLF := hid hlf
                  rw [← HFS.out] at hR
                  have HR2 := hid hR
                  clear hR hW hU2 hlf
                  go_wp2_with fail
                  refine bodyPost_ret (by simp [results, Tryd.results27, go_sem]; try rfl) rfl ?_
                  rw [HE.out, ← HFN.out, ← HNE.out]
                  refine ⟨HU2.out, .inr ⟨rfl, u9, b, L.length, T, ?_, HW.out, HR2.out, ?_, ?_⟩⟩
                  · rw [HLF.out, HSG.out]
                  · rw [HLF.out]; exact Nat.le_refl _
                  · unfold maxLen; omega


end Go.Proofs.YthheongdgcfngaaDoor
