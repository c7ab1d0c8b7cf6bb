/- Chapter 9: resolvents of the program. -/
import Derived.Test.YtmhlolimaeejfaaDoorYm
import Derived.Test.YtmhlolimaeejfaaDoorYo
import Derived.Laws.StructEq
namespace Go.Proofs.YtmhlolimaeejfaaDoor
open Go.RowKit Go.Shelf
attribute [local go_sem] Oper.semAt_some

theorem part_r (i : Nat) (xs : Array Value) (v : Value) (w : World) (h : xs[i]? = some v) : (part 2 xs i).run Tryd.prog w = .ok v w := by
  have ha : (isAgg 2).run Tryd.prog w = .ok false w := by simp [isAgg, go_sem]; try rfl
  simp [part, Sem.run_bind, ha, h]
theorem ne_rs (a b c d : Int) (w : World) : (binOp .neq 64 (.agg #[.int .i64 a, .int .i64 b]) (.agg #[.int .i64 c, .int .i64 d])).run Tryd.prog w = .ok (.bool (!((a == c) && (b == d)))) w := by
  have hi : Tryd.prog.underlying 2 = some (.int .i64) := by kernel_rfl
  have h1 := run_equalIn_struct (P := Tryd.prog) w 9999 64 #[.int .i64 a, .int .i64 b] #[.int .i64 c, .int .i64 d] (by kernel_rfl) (by kernel_rfl)
  have q0 := fun (u v : Int) (w : World) => run_equalIn_int (P := Tryd.prog) w 9998 2 .i64 .i64 u v hi
  obtain ⟨f, g, hf, hfn, hft, hfo, hgn, hgt, hgo⟩ : ∃ f g : Field, (Tryd.prog.fieldsOf 64).toList = [f, g] ∧ f.name ≠ "_" ∧ f.type = 2 ∧ f.offset = 0 ∧ g.name ≠ "_" ∧ g.type = 2 ∧ g.offset = 1 := by
    have e : (Tryd.prog.fieldsOf 64).size = 2 := by kernel_rfl
    refine ⟨(Tryd.prog.fieldsOf 64)[0], (Tryd.prog.fieldsOf 64)[1], by kernel_rfl, ?_, by kernel_rfl, by kernel_rfl, ?_, by kernel_rfl, by kernel_rfl⟩
    · rw [show ((Tryd.prog.fieldsOf 64)[0]).name = "d" by kernel_rfl]; decide
    · rw [show ((Tryd.prog.fieldsOf 64)[1]).name = "f" by kernel_rfl]; decide
  rw [run_neq_struct, h1, hf]
  simp only [Op.eqFields, hfn, hgn, ne_eq, not_false_eq_true, if_true, hft, hgt, hfo, hgo, Sem.run_bind]
  rw [part_r 0 #[.int .i64 a, .int .i64 b] (.int .i64 a) w rfl, Result.andThen_ok, part_r 0 #[.int .i64 c, .int .i64 d] (.int .i64 c) w rfl, Result.andThen_ok, q0, Result.andThen_ok]
  cases h : (a == c) with
  | false => simp
  | true =>
    simp only [Bool.not_true, Bool.false_eq_true, if_false, Sem.run_bind]
    rw [part_r 1 #[.int .i64 a, .int .i64 b] (.int .i64 b) w rfl, Result.andThen_ok, part_r 1 #[.int .i64 c, .int .i64 d] (.int .i64 d) w rfl, Result.andThen_ok, q0, Result.andThen_ok]
    cases (b == d) <;> simp

set_option maxHeartbeats 1000000 in
theorem twiceIn_any (n : Int) (w : World) : Calls Tryd.prog 58 #[.int .i64 n] w fun e w' => e = .returned (.func (.func 72) #[] #[.pointer (some ⟨w.heap.size, 0, none⟩)]) ∧ (w'.cell? ⟨w.heap.size, 0, none⟩ = some (.int .i64 n) ∧ w'.heap.size = w.heap.size + 1) ∧ Below w.heap.size w w' := by
  go_enter Tryd.func58, Tryd.ntmps58
  go_wp2
  go_ret
  exact ⟨rfl, ⟨by simp [go_sem], by simp⟩, by (repeat' (first | with_reducible exact Below.refl _ _ | with_reducible assumption | with_reducible refine gr_alloc ?_ _ | with_reducible refine gr_drew ?_ | with_reducible refine gr_drewN ?_ _ | with_reducible refine gr_trans ?_ (by assumption) | with_reducible refine gr_set ?_ ?_ _ | (simp; done) | omega | (simp; omega)))⟩

/-- Below, but blocks that hold no cells lie as they lay (what a round of a range over a function must keep). -/
theorem kf_below {B : Nat} {W X Y : World} (h : KeepsFrom B W X) (hb : Below X.heap.size X Y) : KeepsFrom B W Y :=
  ⟨Nat.le_trans h.size hb.size, fun k o hB hk ho => by
    have hx := h.same k o hB hk ho
    exact (hb.block k (Array.getElem?_eq_some_iff.1 hx).1).trans hx⟩
theorem kf_set {B : Nat} {W X : World} (h : KeepsFrom B W X) {k : Nat} {xs : Array Value} {T : TypeId} (hx : Bx X k xs T) (i : Nat) (v : Value) : KeepsFrom B W (X.setCell ⟨k, i, none⟩ v) :=
  ⟨by rw [World.size_setCell]; exact h.size, fun j o hB hk ho => by
    have hj := h.same j o hB hk ho
    have hne : j ≠ k := fun e => by
      subst e
      rw [show X.heap[j]? = _ from hx] at hj
      cases hj
      cases ho
    rw [Below.heap_setCell _ _ _ j (by show j ≠ k; exact hne)]
    exact hj⟩
/-- The size of the number in block k. -/
def cellN (W : World) (k : Nat) : Nat := match W.cell? ⟨k, 0, none⟩ with | some (.int _ d) => d.natAbs | _ => 0
/-- What holds between two rounds. -/
def RvI (n : Int) (w : World) (pre : List Pn) (W : World) : Prop := (∃ d f, Bx W (w.heap.size + 1) #[.int .i64 d, .int .i64 (((f : Nat) : Int))] 64 ∧ Rv n d f ∧ ∀ p ∈ pre, Um d p.1) ∧ Bx W w.heap.size #[.int .i64 0, .int .i64 0] 64 ∧ Below w.heap.size w W ∧ w.heap.size + 3 ≤ W.heap.size
theorem rvi_own (n : Int) (w : World) (B : Nat) (hB : w.heap.size ≤ B) : OwnFrom B (RvI n w) := fun s X Y row ⟨⟨d, f, h1, h2, h3⟩, h4, h5, h6⟩ hg hr => by
  have hne : ∀ k xs T, Bx X k xs T → ∀ j, row = some j → j ≠ k := fun k xs T hx j e ej => by
    subst ej
    obtain ⟨_, o, ho, hc⟩ := hr j e
    rw [show X.heap[j]? = _ from hx] at ho
    cases ho
    cases hc
  exact ⟨⟨d, f, h1.grown hg (hne _ _ _ h1), h2, h3⟩, h4.grown hg (hne _ _ _ h4), h5.grown hg (Nat.le_trans (Nat.le_refl _) h5.size) (fun k e => Nat.le_trans hB (hr k e).1), Nat.le_trans h6 hg.size⟩
def RoPost (n : Int) (w : World) (e : Ending) (w' : World) : Prop := ∃ (d : Int) (f : Nat), e = .returned (.agg #[.int .i64 d, .int .i64 ((f : Int))]) ∧ (Rv n d f ∧ ∀ q, 2 ≤ q → Um d q) ∧ Below w.heap.size w w'

set_option maxRecDepth 100000 in
set_option maxHeartbeats 4000000 in
theorem resolventOf_any (n : Int) (w : World) (h0 : n ≠ 0) (hf : Fts n) (hb : -100000000000000 ≤ n ∧ n ≤ 100000000000000) : Calls Tryd.prog 44 #[.int .i64 n] w (RoPost n w) := by
  have HS := hid (Rv.start h0 hf)
  have HB := hid hb
  have HT := hid (fun s k W hk hlt hc => twice_stops n s k W hk h0 hb hlt hc)
  clear h0 hf hb
  have U0 := gr_alloc (gr_alloc (Below.refl w.heap.size w) (.cells #[.int .i64 0, .int .i64 0] 64)) (.cells #[.int .i64 n, .int .i64 1] 64)
  have X0 := (Bx.new w #[.int .i64 0, .int .i64 0] 64).alloc (.cells #[.int .i64 n, .int .i64 1] 64)
  have Y0 := Bx.new (w.alloc (.cells #[.int .i64 0, .int .i64 0] 64)) #[.int .i64 n, .int .i64 1] 64
  simp only [World.size_alloc] at Y0
  refine (callsIn_wide (n := 3)).1 ?_
  refine callsIn_of_wp_marks Tryd.func44 rfl trivial ?_ rfl
  simp only [Tryd.ntmps44, List.size_toArray, List.length_cons, List.length_nil, Nat.reduceAdd, Nat.reduceSub, Array.replicate_succ, Array.replicate_zero, List.push_toArray, List.append_toArray, List.nil_append, List.cons_append]
  gi_wp2_with fail
  refine ⟨trivial, (callsIn_wide.2 (twiceIn_any n _)).mono ?_⟩
  rintro e W0 ⟨rfl, ⟨hc, hz⟩, hb0⟩
  simp only [World.size_alloc] at hc hz
  have X1 := X0.next hb0
  have Y1 := Y0.next hb0
  have U1 := gr_trans U0 hb0
  clear X0 Y0 U0 hb0
  gi_wp2_with fail
  refine wpIn_rangeFunc_ownG (n := 3) rfl (by omega) (gf := 72) (lb := #[.pointer (some ⟨w.heap.size + 1 + 1, 0, none⟩)]) rfl trivial (enters_of Tryd.func72 (by kernel_rfl) rfl)
    (HT.out (w.heap.size + 1 + 1) 2 W0 (by omega) (by omega) hc) (fun _ _ => trivial) (fun _ _ _ _ _ _ _ _ => trivial) (Below.refl _ _) (fun _ => rfl)
    (RvI n w) (fun _ _ _ => False) (rvi_own n w _ (by omega)) (fun _ _ _ _ _ hs _ _ => hs)
    ⟨⟨n, 1, Y1, HS.out, fun p hp => by cases hp⟩, X1, U1, by omega⟩
    (fun x => { tmps := #[.int .i64 n, undef, .pointer (some ⟨w.heap.size, 0, none⟩), .pointer (some ⟨w.heap.size + 1, 0, none⟩), .int .i64 ((x.1 : Int)), undef, .int .i64 n, .agg #[.int .i64 n, .int .i64 1], .int .i64 n, .func (.func 72) #[] #[.pointer (some ⟨w.heap.size + 1 + 1, 0, none⟩)], .int .i64 ((x.1 : Int)), undef, undef, undef, undef, undef, undef, undef, undef, undef, undef, undef, undef], defers := [] }) ?assign ?body ?done ?stop
  case assign =>
    intro l x W K hK
    gi_wp2
    exact hK
  case body =>
    rintro l pre ⟨p, hp2, hp7⟩ W ⟨⟨d, f, hR, hv, hum⟩, hres, hU, hsz⟩ hlt
    dsimp only
    obtain ⟨hdb, hfb⟩ := hv.bd HB.out
    have r0 : W.cell? ⟨w.heap.size + 1, 0, none⟩ = some (.int .i64 d) := hR.cell 0
    have r1 : W.cell? ⟨w.heap.size + 1, 1, none⟩ = some (.int .i64 ((f : Int))) := hR.cell 1
    have HR := hid hR; have HV := hid hv; have HUM := hid hum; have HRS := hid hres; have HU := hid hU
    have hWs := hU.size
    have HM := hid (fun V => moved_any d f p V hdb hfb hp2 hp7)
    clear hR hv hum hres hU
    gi_wp2_with fail
    refine ⟨trivial, (CallsIn.inRound l (callsIn_wide.2 (HM.out _))).mono ?_⟩
    rintro e w1 ⟨rfl, hb1⟩
    have hz1 := hb1.size
    have HR1 := hid ((HR.out.next hb1).alloc (.cells #[.int .i64 (mvD d p), .int .i64 ((mvF d f p : Int))] 64))
    have HRS1 := hid ((HRS.out.next hb1).alloc (.cells #[.int .i64 (mvD d p), .int .i64 ((mvF d f p : Int))] 64))
    have HU1 := hid (gr_alloc (gr_trans HU.out hb1) (.cells #[.int .i64 (mvD d p), .int .i64 ((mvF d f p : Int))] 64))
    have HN1 := hid (Bx.new w1 #[.int .i64 (mvD d p), .int .i64 ((mvF d f p : Int))] 64)
    have HK1 := hid (kf_below (kf_below (KeepsFrom.refl W0.heap.size W) hb1) ((Below.refl _ w1).alloc (Nat.le_refl _) (.cells #[.int .i64 (mvD d p), .int .i64 ((mvF d f p : Int))] 64)))
    clear r0 r1 HM HR HRS HU
    gi_wp2_with fail
    gi_loopw [5] (fun s5 wr => ∃ (d : Int) (f nb : Nat), s5 = .pointer (some ⟨nb, 0, none⟩) ∧ Bx wr (w.heap.size + 1) #[.int .i64 d, .int .i64 ((f : Int))] 64 ∧ Bx wr nb #[.int .i64 (mvD d p), .int .i64 ((mvF d f p : Int))] 64 ∧ w.heap.size + 3 ≤ nb ∧ Rv n d f ∧ (∀ q ∈ pre, Um d q.1) ∧ Bx wr w.heap.size #[.int .i64 0, .int .i64 0] 64 ∧ Below w.heap.size w wr ∧ w.heap.size + 3 ≤ wr.heap.size ∧ KeepsFrom W0.heap.size W wr) (fun _ wr => cellN wr (w.heap.size + 1))
    case atStart => exact ⟨d, f, w1.heap.size, rfl, HR1.out, HN1.out, by omega, HV.out, HUM.out, HRS1.out, HU1.out, by simp; omega, HK1.out⟩
    case round =>
      clear HV HUM HR1 HRS1 HU1 HN1 HK1 hdb hfb
      obtain ⟨d, f, nb, rfl, hR, hN, hnb, hv, hum, hres, hU, hs3, hK⟩ := hrel
      have HR := hid hR; have HN := hid hN; have HV := hid hv; have HUM := hid hum; have HRS := hid hres; have HU := hid hU; have HK := hid hK
      have r0 : wr.cell? ⟨w.heap.size + 1, 0, none⟩ = some (.int .i64 d) := hR.cell 0
      have r1 : wr.cell? ⟨w.heap.size + 1, 1, none⟩ = some (.int .i64 ((f : Int))) := hR.cell 1
      have n0 : wr.cell? ⟨nb, 0, none⟩ = some (.int .i64 (mvD d p)) := hN.cell 0
      have n1 : wr.cell? ⟨nb, 1, none⟩ = some (.int .i64 ((mvF d f p : Int))) := hN.cell 1
      have rf0 := hR.frozen 0
      have rf1 := hR.frozen 1
      have hnlt := hN.lt
      have hcn : cellN wr (w.heap.size + 1) = d.natAbs := by simp [cellN, r0]
      have HCN := hid hcn
      have hfp := hv.pos
      clear hR hN hv hum hres hU hK hcn
      cases hm : mvb d p with
      | true =>
        obtain ⟨hrv, hlt2, hum2⟩ := mvb_rv hp2 HV.out hm
        have HV2 := hid hrv
        have HUM2 := hid (fun q hq => hum2 q.1 (HUM.out q hq) : ∀ q ∈ pre, Um (mvD d p) q.1)
        obtain ⟨hdb, hfb⟩ := hrv.bd HB.out
        have hne : ∀ V : World, (binOp .neq 64 (.agg #[.int .i64 (mvD d p), .int .i64 ((mvF d f p : Int))]) (.agg #[.int .i64 d, .int .i64 ((f : Int))])).run Tryd.prog V = .ok (.bool true) V := fun V => by
          rw [ne_rs]
          have e : mvF d f p = f * p := by simp [mvF, hm]
          have h2 : f * 2 ≤ f * p := Nat.mul_le_mul_left _ hp2
          have : ¬ ((mvF d f p : Nat) : Int) = (f : Int) := by rw [e]; omega
          simp [this]
        have HM := hid (fun V => moved_any (mvD d p) (mvF d f p) p V hdb hfb hp2 hp7)
        clear hrv hum2 hm HV HUM
        generalize mvD d p = d2 at *
        generalize mvF d f p = f2 at *
        have HS1 := hid (show Bx ((wr.setCell ⟨w.heap.size + 1, 0, none⟩ (.int .i64 d2)).setCell ⟨w.heap.size + 1, 1, none⟩ (.int .i64 ((f2 : Int)))) (w.heap.size + 1) #[.int .i64 d2, .int .i64 ((f2 : Int))] 64 by have := (HR.out.put 0 (.int .i64 d2)).put 1 (.int .i64 ((f2 : Int))); simpa using this)
        have HS2 := hid ((HRS.out.away (j := w.heap.size + 1) (by omega) 0 (.int .i64 d2)).away (j := w.heap.size + 1) (by omega) 1 (.int .i64 ((f2 : Int))))
        have HS3 := hid (gr_set (gr_set HU.out (p := ⟨w.heap.size + 1, 0, none⟩) (by show w.heap.size ≤ w.heap.size + 1; omega) (.int .i64 d2)) (p := ⟨w.heap.size + 1, 1, none⟩) (by show w.heap.size ≤ w.heap.size + 1; omega) (.int .i64 ((f2 : Int))))
        have HS4 := hid (kf_set (kf_set HK.out HR.out 0 (.int .i64 d2)) (HR.out.put 0 (.int .i64 d2)) 1 (.int .i64 ((f2 : Int))))
        have t0 : (((wr.setCell ⟨w.heap.size + 1, 0, none⟩ (.int .i64 d2)).setCell ⟨w.heap.size + 1, 1, none⟩ (.int .i64 ((f2 : Int)))).alloc (.cells #[.int .i64 d2, .int .i64 ((f2 : Int))] 64)).cell? ⟨w.heap.size + 1, 0, none⟩ = some (.int .i64 d2) := (HS1.out.alloc _).cell 0
        have t1 : (((wr.setCell ⟨w.heap.size + 1, 0, none⟩ (.int .i64 d2)).setCell ⟨w.heap.size + 1, 1, none⟩ (.int .i64 ((f2 : Int)))).alloc (.cells #[.int .i64 d2, .int .i64 ((f2 : Int))] 64)).cell? ⟨w.heap.size + 1, 1, none⟩ = some (.int .i64 ((f2 : Int))) := (HS1.out.alloc _).cell 1
        gi_wp2_with fail
        refine ⟨trivial, (CallsIn.inRound l (callsIn_wide.2 (HM.out _))).mono ?_⟩
        rintro e w2 ⟨rfl, hb2⟩
        have hszz : ((wr.setCell ⟨w.heap.size + 1, 0, none⟩ (.int .i64 d2)).setCell ⟨w.heap.size + 1, 1, none⟩ (.int .i64 ((f2 : Int)))).heap.size = wr.heap.size := by simp
        have HS1b := hid ((HS1.out.alloc (.cells #[.int .i64 d2, .int .i64 ((f2 : Int))] 64)).next hb2)
        have HS2b := hid ((HS2.out.alloc (.cells #[.int .i64 d2, .int .i64 ((f2 : Int))] 64)).next hb2)
        have HS3b := hid (gr_trans (gr_alloc HS3.out (.cells #[.int .i64 d2, .int .i64 ((f2 : Int))] 64)) hb2)
        have HS4b := hid (kf_below (kf_below HS4.out ((Below.refl _ _).alloc (Nat.le_refl _) (.cells #[.int .i64 d2, .int .i64 ((f2 : Int))] 64))) hb2)
        have HNb := hid (show Bx w2 wr.heap.size #[.int .i64 d2, .int .i64 ((f2 : Int))] 64 by have := (Bx.new ((wr.setCell ⟨w.heap.size + 1, 0, none⟩ (.int .i64 d2)).setCell ⟨w.heap.size + 1, 1, none⟩ (.int .i64 ((f2 : Int)))) #[.int .i64 d2, .int .i64 ((f2 : Int))] 64).next hb2; rwa [hszz] at this)
        have m0 : w2.cell? ⟨wr.heap.size, 0, none⟩ = some (.int .i64 d2) := HNb.out.cell 0
        have m1 : w2.cell? ⟨wr.heap.size, 1, none⟩ = some (.int .i64 ((f2 : Int))) := HNb.out.cell 1
        have mf0 := HNb.out.frozen 0
        have mf1 := HNb.out.frozen 1
        have hw2 := HNb.out.lt
        clear hb2 t0 t1 r0 r1 n0 n1 rf0 rf1 hszz HS1 HS2 HS3 HS4
        gi_wp2_with fail
        go_roundw
        case rel =>
          refine ⟨d2, f2, wr.heap.size, rfl, (HS1b.out.away (by omega) _ _).away (by omega) _ _, ?_, hs3, HV2.out, HUM2.out, (HS2b.out.away (by omega) _ _).away (by omega) _ _, gr_set (gr_set HS3b.out (by show w.heap.size ≤ wr.heap.size; omega) _) (by show w.heap.size ≤ wr.heap.size; omega) _, by simp; omega, kf_set (kf_set HS4b.out HNb.out _ _) (HNb.out.put _ _) _ _⟩
          have := (HNb.out.put 0 (.int .i64 (mvD d2 p))).put 1 (.int .i64 ((mvF d2 f2 p : Int)))
          simpa using this
        case measure =>
          rw [HCN.out]
          have hx := (HS1b.out.away (j := wr.heap.size) (by omega) 0 (.int .i64 (mvD d2 p))).away (j := wr.heap.size) (by omega) 1 (.int .i64 ((mvF d2 f2 p : Int)))
          have hy := hx.cell 0
          simp [cellN, hy]
          exact hlt2
      | false =>
        have hUp := mvb_um (by omega) hm
        have HUM2 := hid (show ∀ q ∈ pre ++ [(⟨p, hp2, hp7⟩ : Pn)], Um d q.1 by
          intro q hq
          rcases List.mem_append.1 hq with h | h
          · exact HUM.out q h
          · have := List.mem_singleton.1 h
            subst this
            exact hUp)
        have e1 : mvD d p = d := by simp [mvD, hm]
        have e2 : mvF d f p = f := by simp [mvF, hm]
        rw [e1] at n0
        rw [e2] at n1
        have hne : ∀ V : World, (binOp .neq 64 (.agg #[.int .i64 d, .int .i64 ((f : Int))]) (.agg #[.int .i64 d, .int .i64 ((f : Int))])).run Tryd.prog V = .ok (.bool false) V := fun V => by
          rw [ne_rs]; simp
        clear hm hUp e1 e2 HN
        gi_wp2_with fail
        exact ⟨HK.out, trivial, ⟨d, f, HR.out, HV.out, HUM2.out⟩, HRS.out, HU.out, hs3⟩
  case done =>
    rintro D ys W hD hS ⟨⟨d, f, hR, hv, hum⟩, hres, hU, hsz⟩ hK
    have r0 : W.cell? ⟨w.heap.size + 1, 0, none⟩ = some (.int .i64 d) := hR.cell 0
    have r1 : W.cell? ⟨w.heap.size + 1, 1, none⟩ = some (.int .i64 ((f : Int))) := hR.cell 1
    have q0 : W.cell? ⟨w.heap.size, 0, none⟩ = some (.int .i64 0) := hres.cell 0
    have q1 : W.cell? ⟨w.heap.size, 1, none⟩ = some (.int .i64 0) := hres.cell 1
    have qf0 := hres.frozen 0
    have qf1 := hres.frozen 1
    have HX := hid (show Bx ((W.setCell ⟨w.heap.size, 0, none⟩ (.int .i64 d)).setCell ⟨w.heap.size, 1, none⟩ (.int .i64 ((f : Int)))) w.heap.size #[.int .i64 d, .int .i64 ((f : Int))] 64 by have := (hres.put 0 (.int .i64 d)).put 1 (.int .i64 ((f : Int))); simpa using this)
    have HU2 := hid (gr_set (gr_set hU (p := ⟨w.heap.size, 0, none⟩) (by show w.heap.size ≤ w.heap.size; omega) (.int .i64 d)) (p := ⟨w.heap.size, 1, none⟩) (by show w.heap.size ≤ w.heap.size; omega) (.int .i64 ((f : Int))))
    have HUA := hid (um_all (fun q hq e he => by
      by_cases hd : q * q ∣ n.natAbs
      · have hm := hS.2 q hq hd
        obtain ⟨x, hx, rfl⟩ := List.mem_map.1 hm
        exact hum x hx e he
      · exfalso
        apply hd
        have : n = (q : Int) * q * (e * f * f) := by rw [hv.eq, he]; grind
        have h2 : ((q * q : Nat) : Int) ∣ n := ⟨e * f * f, by rw [this]; push_cast; rfl⟩
        exact Int.ofNat_dvd_left.1 h2))
    have HV := hid hv
    have HKD := hid hK
    clear hR hv hum hres hU hK hS
    gi_wp2_with fail
    have hKD2 : ((W.setCell ⟨w.heap.size, 0, none⟩ (.int .i64 d)).setCell ⟨w.heap.size, 1, none⟩ (.int .i64 ((f : Int)))).heap[D]? = some (.deferred (some [])) := by
      rw [Below.heap_setCell _ _ _ D (by show D ≠ w.heap.size; omega), Below.heap_setCell _ _ _ D (by show D ≠ w.heap.size; omega)]
      exact HKD.out
    have hD2 : w.heap.size ≠ D := by omega
    have hlt2 : D < ((W.setCell ⟨w.heap.size, 0, none⟩ (.int .i64 d)).setCell ⟨w.heap.size, 1, none⟩ (.int .i64 ((f : Int)))).heap.size := (Array.getElem?_eq_some_iff.1 hKD2).1
    refine ⟨by simp, .inl ⟨_, _, rfl, run_takeDeferred hKD2, ?_⟩⟩
    have HX2 := HX.out
    have HU3 := HU2.out
    generalize (W.setCell ⟨w.heap.size, 0, none⟩ (.int .i64 d)).setCell ⟨w.heap.size, 1, none⟩ (.int .i64 ((f : Int))) = V at *
    have hB2 : Bx (V.putObj D (.deferred none)) w.heap.size #[.int .i64 d, .int .i64 ((f : Int))] 64 := (World.putObj_heap_other hD2).trans HX2
    have hbp := belowK_b (w := w) (Nat.le_refl _) V D _ (.deferred none) (by omega) hKD2 rfl rfl
    have c0 := hB2.cell 0
    have c1 := hB2.cell 1
    have hres : (results Tryd.f44 #[.int .i64 n, undef, Value.pointer (some ⟨w.heap.size, 0, none⟩), Value.pointer (some ⟨w.heap.size + 1, 0, none⟩), undef, undef, .int .i64 n, Value.agg #[.int .i64 n, .int .i64 1], .int .i64 n, Value.func (Fn.func 72) #[] #[Value.pointer (some ⟨w.heap.size + 1 + 1, 0, none⟩)], undef, undef, undef, undef, undef, undef, undef, undef, undef, undef, undef, undef, Value.agg #[.int .i64 d, .int .i64 ((f : Int))]]).run Tryd.prog (V.putObj D (.deferred none)) = .ok (.agg #[.int .i64 d, .int .i64 ((f : Int))]) (V.putObj D (.deferred none)) := by
      simp [results, Tryd.results44, go_sem, c0, c1]
    exact ⟨_, hres, d, f, rfl, ⟨HV.out, HUA.out⟩, HU3.trans hbp⟩
  case stop =>
    rintro D c pre W _ _ h _
    exact h.elim


end Go.Proofs.YtmhlolimaeejfaaDoor
