/- Several texts in one: XFd, XFf, XFg, XFi. -/
import Derived.Test.YtgdbnaabbaimjaaDoorFc
import Derived.Test.YtgdbnaabbaimjaaDoorPa
import Derived.Test.YtgdbnaabbaimjaaDoorKB
import Derived.Deep.RegionHeld3

/- Chapter 5: FactorForm, the program's. -/
namespace Go.Proofs.YtgdbnaabbaimjaaDoor
open Go.RowKit

theorem keep4 {B : Nat} {w : World} {z : Nat} {vr : Value} {b : Nat} {Rs : List (List Int)} {T : List Nat} {L : List Int} {xs : Array Value} (hz : Bx w z xs 71) (hr : Rwb B w vr 2 Rs T) (hb : RB w b L) (v0 v1 v2 v3 : Value) :
    Rwb B ((((w.setCell ⟨z, 0, none⟩ v0).setCell ⟨z, 1, none⟩ v1).setCell ⟨z, 2, none⟩ v2).setCell ⟨z, 3, none⟩ v3) vr 2 Rs T ∧
    RB ((((w.setCell ⟨z, 0, none⟩ v0).setCell ⟨z, 1, none⟩ v1).setCell ⟨z, 2, none⟩ v2).setCell ⟨z, 3, none⟩ v3) b L := by
  have z1 := hz.set 0 v0
  have z2 := z1.set 1 v1
  have z3 := z2.set 2 v2
  refine ⟨?_, ?_⟩
  · exact (((hr.far hz (by decide) (by decide) _ _).far z1 (by decide) (by decide) _ _).far z2 (by decide) (by decide) _ _).far z3 (by decide) (by decide) _ _
  · exact (((hb.far hz (by decide) (by decide) _ _).far z1 (by decide) (by decide) _ _).far z2 (by decide) (by decide) _ _).far z3 (by decide) (by decide) _ _
theorem set4 {w : World} {z : Nat} {T : TypeId} {u0 u1 u2 u3 : Value} (hz : Bx w z #[u0, u1, u2, u3] T) (v0 v1 v2 v3 : Value) : Bx ((((w.setCell ⟨z, 0, none⟩ v0).setCell ⟨z, 1, none⟩ v1).setCell ⟨z, 2, none⟩ v2).setCell ⟨z, 3, none⟩ v3) z #[v0, v1, v2, v3] T := by
  have := (((hz.set 0 v0).set 1 v1).set 2 v2).set 3 v3
  simpa using this
theorem Rwb.base {B B' : Nat} {w : World} {v : Value} {s : Nat} {R : List (List Int)} {T : List Nat} (h : Rwb B w v s R T) (hB : B' ≤ B) : Rwb B' w v s R T :=
  ⟨owns_mono h.own hB, h.len, h.row, fun t ht => by have := h.bas t ht; omega, h.srt, h.wid⟩

set_option maxRecDepth 100000 in
set_option maxHeartbeats 1000000 in
theorem factorsOf_pan (a b c d : Int) (pv : Value) (w : World) (hg : Sen w pv) (hF : isF a b c d = true) (hN : mul0 (cnt a b c d) 0 = true) :
    Calls Tryd.prog 59 #[.agg #[.int .i64 a, .int .i64 b, .int .i64 c, .int .i64 d]] w (PanOut pv w) := by
  obtain ⟨ha, hb, hc, hd⟩ := isF_t hF
  have HR := hid (fun W hg => rootsOf_pan a b c d 0 pv W hg (by omega) (by omega) ha hb hc hd hN)
  clear ha hb hc hd hF hN
  have F0 := (Bx.new w #[.int .i64 a, .int .i64 b, .int .i64 c, .int .i64 d] 23).alloc (.cells #[.int .i64 0, .int .i64 0, .slice none 0 0, .slice none 0 0] 71)
  have U0 := gr_alloc (gr_alloc (Below.refl w.heap.size w) (.cells #[.int .i64 a, .int .i64 b, .int .i64 c, .int .i64 d] 23)) (.cells #[.int .i64 0, .int .i64 0, .slice none 0 0, .slice none 0 0] 71)
  have G0 := (hg.alloc (.cells #[.int .i64 a, .int .i64 b, .int .i64 c, .int .i64 d] 23)).alloc (.cells #[.int .i64 0, .int .i64 0, .slice none 0 0, .slice none 0 0] 71)
  go_enter Tryd.func59, Tryd.ntmps59
  obtain ⟨_, c0, c1, c2, c3, _⟩ := F0.arr4
  go_wp2_with fail
  refine (HR.out _ G0).mono ?_
  rintro e w1 ⟨rfl, hb1⟩
  exact ⟨rfl, rfl, gr_trans U0 hb1⟩

set_option maxRecDepth 100000 in
set_option maxHeartbeats 1000000 in
theorem fc1_ok (kf : Nat) (a b c d : Int) (w : World) (hK : Bx w kf #[.int .i64 a, .int .i64 b, .int .i64 c, .int .i64 d] 23) (hF : isF a b c d = true) (hN : mul0 (cnt a b c d) 0 = false) :
    Calls Tryd.prog 58 #[.pointer (some ⟨kf, 0, none⟩)] w (FcOut (cnt a b c d) (fsg (fac a b c d).2) (fac a b c d).1 (frs (fac a b c d).2) w) := by
  have H := hid (fun W => factorsOf_any a b c d W hF hN)
  clear hF hN
  generalize cnt a b c d = n at H ⊢
  generalize fsg (fac a b c d).2 = sg at H ⊢
  generalize frs (fac a b c d).2 = L at H ⊢
  generalize (fac a b c d).1 = Rs at H ⊢
  have F0 := hK.alloc (.cells #[.int .i64 0, .int .i64 0, .slice none 0 0, .slice none 0 0] 71)
  have Z0 := Bx.new w #[.int .i64 0, .int .i64 0, .slice none 0 0, .slice none 0 0] 71
  have U0 := gr_alloc (Below.refl w.heap.size w) (.cells #[.int .i64 0, .int .i64 0, .slice none 0 0, .slice none 0 0] 71)
  go_enter Tryd.func58, Tryd.ntmps58
  obtain ⟨_, c0, c1, c2, c3, _⟩ := F0.arr4
  go_wp2_with fail
  refine (H.out _).mono ?_
  rintro e w1 ⟨vr, b', cap, T, rfl, hr, hb, hc1, hc2, hlo, hsep, hb1⟩
  have Z1 := Z0.next hb1
  have U1 := gr_trans U0 hb1
  have hsz := U0.size
  have hzl := Z0.lt
  clear c0 c1 c2 c3 F0
  obtain ⟨vra, vrc, rfl⟩ := hr.form
  have z0 := Z1.cell 0
  have z1 := Z1.cell 1
  have z2 := Z1.cell 2
  have z3 := Z1.cell 3
  have y0 := Z1.frozen 0
  have y1 := Z1.frozen 1
  have y2 := Z1.frozen 2
  have y3 := Z1.frozen 3
  simp at z0 z1 z2 z3
  go_wp2_with fail
  obtain ⟨k1, k2⟩ := keep4 Z1 hr hb (.int .i64 sg) (.int .i64 n) (.slice vra Rs.length vrc) (.slice (some ⟨b', 0, none⟩) L.length cap)
  have e1 := set4 Z1 (.int .i64 sg) (.int .i64 n) (.slice vra Rs.length vrc) (.slice (some ⟨b', 0, none⟩) L.length cap)
  have c0 := e1.cell 0
  have c1 := e1.cell 1
  have c2 := e1.cell 2
  have c3 := e1.cell 3
  simp only [List.getElem?_toArray, List.getElem?_cons_zero, List.getElem?_cons_succ] at c0 c1 c2 c3
  have hle : w.heap.size ≤ w.heap.size := Nat.le_refl _
  have HUf := gr_set (gr_set (gr_set (gr_set U1 hle (.int .i64 sg) (p := ⟨w.heap.size, 0, none⟩)) hle (.int .i64 n) (p := ⟨w.heap.size, 1, none⟩)) hle (.slice vra Rs.length vrc) (p := ⟨w.heap.size, 2, none⟩)) hle (.slice (some ⟨b', 0, none⟩) L.length cap) (p := ⟨w.heap.size, 3, none⟩)
  refine bodyPost_ret (by simp [results, Tryd.results58, go_sem, c0, c1, c2, c3]; try rfl) rfl ?_
  exact ⟨_, b', cap, T, rfl, k1.base hsz, k2, hc1, hc2, by omega, hsep, HUf⟩

set_option maxRecDepth 100000 in
set_option maxHeartbeats 1000000 in
theorem fc1_err (kf : Nat) (a b c d : Int) (pv : Value) (w : World) (hg : Sen w pv) (hK : Bx w kf #[.int .i64 a, .int .i64 b, .int .i64 c, .int .i64 d] 23) (hF : isF a b c d = true) (hN : mul0 (cnt a b c d) 0 = true) :
    Calls Tryd.prog 58 #[.pointer (some ⟨kf, 0, none⟩)] w (PanOut pv w) := by
  have H := hid (fun W hg => factorsOf_pan a b c d pv W hg hF hN)
  clear hF hN
  have F0 := hK.alloc (.cells #[.int .i64 0, .int .i64 0, .slice none 0 0, .slice none 0 0] 71)
  have G0 := hg.alloc (.cells #[.int .i64 0, .int .i64 0, .slice none 0 0, .slice none 0 0] 71)
  have U0 := gr_alloc (Below.refl w.heap.size w) (.cells #[.int .i64 0, .int .i64 0, .slice none 0 0, .slice none 0 0] 71)
  go_enter Tryd.func58, Tryd.ntmps58
  obtain ⟨_, c0, c1, c2, c3, _⟩ := F0.arr4
  go_wp2_with fail
  refine (H.out _ G0).mono ?_
  rintro e w1 ⟨rfl, hb1⟩
  exact ⟨rfl, rfl, gr_trans U0 hb1⟩

/-- What the door gives. -/
def FcOk (n sg : Int) (Rs : List (List Int)) (L : List Int) (w : World) (e : Ending) (w' : World) : Prop :=
  ∃ vr b cap T, e = .returned (.tuple #[.agg #[.int .i64 sg, .int .i64 n, vr, .slice (some ⟨b, 0, none⟩) L.length cap], .nilIface]) ∧ Rwb w.heap.size w' vr 2 Rs T ∧ RB w' b L ∧ L.length ≤ cap ∧ cap ≤ maxLen ∧ w.heap.size ≤ b ∧ (∀ t ∈ T, t ≠ b) ∧ Below w.heap.size w w'

set_option maxRecDepth 100000 in
set_option maxHeartbeats 1000000 in
theorem orErrF_ok (kf : Nat) (n sg : Int) (Rs : List (List Int)) (L : List Int) (w : World) (hC : ∀ W, Below w.heap.size w W → Calls Tryd.prog 58 #[.pointer (some ⟨kf, 0, none⟩)] W (FcOut n sg Rs L W)) :
    Calls Tryd.prog 57 #[.func (.func 58) #[] #[.pointer (some ⟨kf, 0, none⟩)]] w (FcOk n sg Rs L w) := by
  have hmf : ∀ (fn : Fn) (first cap : Array Value) (w : World), (Instr.makeFunc fn first cap).run Tryd.prog w = .ok (.func fn first cap) w := fun _ _ _ _ => rfl
  have H := hid hC
  clear hC
  have Z0 := (Bx.new w #[.int .i64 0, .int .i64 0, .slice none 0 0, .slice none 0 0] 71).alloc (.cells #[.nilIface] 73)
  have E0 := Bx.new (w.alloc (.cells #[.int .i64 0, .int .i64 0, .slice none 0 0, .slice none 0 0] 71)) #[.nilIface] 73
  have U0 := gr_alloc (gr_alloc (Below.refl w.heap.size w) (.cells #[.int .i64 0, .int .i64 0, .slice none 0 0, .slice none 0 0] 71)) (.cells #[.nilIface] 73)
  simp only [World.size_alloc] at E0
  go_enter_defers Tryd.func57, Tryd.ntmps57
  go_wp2_with fail
  refine (H.out _ U0).mono ?_
  rintro e w1 ⟨vr, b', cap, T, rfl, hr, hb, hc1, hc2, hlo, hsep, hb1⟩
  have Z1 := Z0.next hb1
  have E1 := E0.next hb1
  have U1 := gr_trans U0 hb1
  have hsz := U0.size
  have hel := E0.lt
  obtain ⟨vra, vrc, rfl⟩ := hr.form
  have z0 := Z1.cell 0
  have z1 := Z1.cell 1
  have z2 := Z1.cell 2
  have z3 := Z1.cell 3
  have y0 := Z1.frozen 0
  have y1 := Z1.frozen 1
  have y2 := Z1.frozen 2
  have y3 := Z1.frozen 3
  have e0 := E1.cell 0
  have f0 := E1.frozen 0
  simp at z0 z1 z2 z3 e0
  go_wp2_with fail
  clear z0 z1 z2 z3 y0 y1 y2 y3 e0 f0
  obtain ⟨k1, k2⟩ := keep4 Z1 hr hb (.int .i64 sg) (.int .i64 n) (.slice vra Rs.length vrc) (.slice (some ⟨b', 0, none⟩) L.length cap)
  have e1 := set4 Z1 (.int .i64 sg) (.int .i64 n) (.slice vra Rs.length vrc) (.slice (some ⟨b', 0, none⟩) L.length cap)
  have hne : w.heap.size + 1 ≠ w.heap.size := by omega
  have E2 := (((E1.far hne 0 (.int .i64 sg)).far hne 1 (.int .i64 n)).far hne 2 (.slice vra Rs.length vrc)).far hne 3 (.slice (some ⟨b', 0, none⟩) L.length cap)
  have hle : w.heap.size ≤ w.heap.size := Nat.le_refl _
  have HUf := gr_set (gr_set (gr_set (gr_set U1 hle (.int .i64 sg) (p := ⟨w.heap.size, 0, none⟩)) hle (.int .i64 n) (p := ⟨w.heap.size, 1, none⟩)) hle (.slice vra Rs.length vrc) (p := ⟨w.heap.size, 2, none⟩)) hle (.slice (some ⟨b', 0, none⟩) L.length cap) (p := ⟨w.heap.size, 3, none⟩)
  generalize (((w1.setCell ⟨w.heap.size, 0, none⟩ (.int .i64 sg)).setCell ⟨w.heap.size, 1, none⟩ (.int .i64 n)).setCell ⟨w.heap.size, 2, none⟩ (.slice vra Rs.length vrc)).setCell ⟨w.heap.size, 3, none⟩ (.slice (some ⟨b', 0, none⟩) L.length cap) = W3 at k1 k2 e1 E2 HUf ⊢
  have e2 := e1.far hne.symm 0 .nilIface
  have E3 := E2.set 0 .nilIface
  have k1' := k1.far E2 (by decide) (by decide) 0 .nilIface
  have k2' := k2.far E2 (by decide) (by decide) 0 .nilIface
  have HUg := gr_set HUf (show w.heap.size ≤ w.heap.size + 1 by omega) .nilIface (p := ⟨w.heap.size + 1, 0, none⟩)
  refine leaves_cons (f := 80) (args := #[.pointer (some ⟨w.heap.size + 1, 0, none⟩)]) (by simp) (by simp [go_sem]) ?_
  refine (catchF_idle ⟨w.heap.size + 1, 0, none⟩ _).mono ?_
  rintro e u' w2 ⟨rfl, rfl, rfl⟩
  have c0 := e2.cell 0
  have c1 := e2.cell 1
  have c2 := e2.cell 2
  have c3 := e2.cell 3
  have c4 := E3.cell 0
  simp at c0 c1 c2 c3 c4
  refine ⟨.tuple #[.agg #[.int .i64 sg, .int .i64 n, .slice vra Rs.length vrc, .slice (some ⟨b', 0, none⟩) L.length cap], .nilIface], by simp [results, Tryd.results57, go_sem, c0, c1, c2, c3, c4], _, b', cap, T, rfl, k1'.base hsz, k2', hc1, hc2, by omega, hsep, HUg⟩

set_option maxRecDepth 100000 in
set_option maxHeartbeats 1000000 in
theorem orErrF_err (kf : Nat) (pv : Value) (w : World) (hC : ∀ W, Below w.heap.size w W → Calls Tryd.prog 58 #[.pointer (some ⟨kf, 0, none⟩)] W (PanOut pv W)) :
    Calls Tryd.prog 57 #[.func (.func 58) #[] #[.pointer (some ⟨kf, 0, none⟩)]] w fun e w' => e = .returned (.tuple #[.agg #[.int .i64 0, .int .i64 0, .slice none 0 0, .slice none 0 0], .iface 132 pv]) ∧ Below w.heap.size w w' := by
  have hmf : ∀ (fn : Fn) (first cap : Array Value) (w : World), (Instr.makeFunc fn first cap).run Tryd.prog w = .ok (.func fn first cap) w := fun _ _ _ _ => rfl
  have H := hid hC
  clear hC
  have Z0 := (Bx.new w #[.int .i64 0, .int .i64 0, .slice none 0 0, .slice none 0 0] 71).alloc (.cells #[.nilIface] 73)
  have E0 := Bx.new (w.alloc (.cells #[.int .i64 0, .int .i64 0, .slice none 0 0, .slice none 0 0] 71)) #[.nilIface] 73
  have U0 := gr_alloc (gr_alloc (Below.refl w.heap.size w) (.cells #[.int .i64 0, .int .i64 0, .slice none 0 0, .slice none 0 0] 71)) (.cells #[.nilIface] 73)
  simp only [World.size_alloc] at E0
  go_enter_defers Tryd.func57, Tryd.ntmps57
  go_wp2_with fail
  refine (H.out _ U0).mono ?_
  rintro e w1 ⟨rfl, hb1⟩
  have Z1 := Z0.next hb1
  have E1 := E0.next hb1
  have U1 := gr_trans U0 hb1
  have e0 := E1.cell 0
  have f0 := E1.frozen 0
  refine leaves_cons (f := 80) (args := #[.pointer (some ⟨w.heap.size + 1, 0, none⟩)]) (by simp) (by simp [go_sem]) ?_
  refine (catchF_panic ⟨w.heap.size + 1, 0, none⟩ .nilIface pv [] _ (by rw [e0]; rfl) f0).mono ?_
  rintro e u' w2 ⟨rfl, rfl, rfl⟩
  have hne : w.heap.size ≠ w.heap.size + 1 := by omega
  have Z2 := Z1.far hne 0 (.iface 132 pv)
  have E3 := E1.set 0 (.iface 132 pv)
  have c0 := Z2.cell 0
  have c1 := Z2.cell 1
  have c2 := Z2.cell 2
  have c3 := Z2.cell 3
  have c4 := E3.cell 0
  simp at c0 c1 c2 c3 c4
  refine ⟨.tuple #[.agg #[.int .i64 0, .int .i64 0, .slice none 0 0, .slice none 0 0], .iface 132 pv], by simp [results, Tryd.results57, go_sem, c0, c1, c2, c3, c4], rfl, ?_⟩
  exact gr_set U1 (show w.heap.size ≤ w.heap.size + 1 by omega) _ (p := ⟨w.heap.size + 1, 0, none⟩)

/-- What FactorForm answers. -/
def FfOut (k sg n : Int) (Rs : List (List Int)) (L : List Int) (w : World) (e : Ending) (w' : World) : Prop :=
  Below w.heap.size w w' ∧ ((k ≠ 0 ∧ e = .returned (.tuple #[.int .i64 0, .int .i64 0, .slice none 0 0, .slice none 0 0, .int .i64 k])) ∨
    (k = 0 ∧ ∃ vr b cap T, e = .returned (.tuple #[.int .i64 sg, .int .i64 n, vr, .slice (some ⟨b, 0, none⟩) L.length cap, .int .i64 0]) ∧ Rwb w.heap.size w' vr 2 Rs T ∧ RB w' b L ∧ L.length ≤ cap ∧ cap ≤ maxLen ∧ w.heap.size ≤ b ∧ (∀ t ∈ T, t ≠ b)))

set_option maxRecDepth 100000 in
set_option maxHeartbeats 4000000 in
theorem iFactorForm_any (a b c d : Int) (pv : Value) (w : World) (hg : Sen w pv) : Calls Tryd.prog 19 #[.agg #[.int .i64 a, .int .i64 b, .int .i64 c, .int .i64 d]] w (FfOut (rrc a b c d) (fsg (fac a b c d).2) (cnt a b c d) (fac a b c d).1 (frs (fac a b c d).2) w) := by
  have hmf : ∀ (fn : Fn) (first cap : Array Value) (w : World), (Instr.makeFunc fn first cap).run Tryd.prog w = .ok (.func fn first cap) w := fun _ _ _ _ => rfl
  have HC := hid (fun W => iIsForm_any a b c d W)
  have F0 := Bx.new w #[.int .i64 a, .int .i64 b, .int .i64 c, .int .i64 d] 23
  have U0 := gr_alloc (Below.refl w.heap.size w) (.cells #[.int .i64 a, .int .i64 b, .int .i64 c, .int .i64 d] 23)
  have G0 := hg.alloc (.cells #[.int .i64 a, .int .i64 b, .int .i64 c, .int .i64 d] 23)
  have q1 := ne_nilI
  have q2 := ne_errI pv
  go_enter Tryd.func19, Tryd.ntmps19
  obtain ⟨_, c0, c1, c2, c3, _⟩ := F0.arr4
  go_wp2_with fail
  refine (HC.out _).mono ?_
  rintro e w1 ⟨rfl, hb1⟩
  have F1 := F0.next hb1
  have U1 := gr_trans U0 hb1
  have G1 := G0.next hb1
  clear c0 c1 c2 c3 F0 U0 G0
  cases hF : isF a b c d with
  | true =>
    cases hN : mul0 (cnt a b c d) 0 with
    | true =>
      have HE := hid (rrc_5 hF hN)
      have HO := hid (orErrF_err w.heap.size pv w1 (fun W hb => fc1_err w.heap.size a b c d pv W (G1.next hb) (F1.next hb) hF hN))
      clear hN
      go_wp2_with fail
      refine HO.out.mono ?_
      rintro e w2 ⟨rfl, hb2⟩
      go_wp2_with fail
      refine bodyPost_ret (by simp [results, Tryd.results19, go_sem]; try rfl) rfl ?_
      rw [HE.out]
      exact ⟨gr_alloc (gr_trans U1 hb2) _, .inl ⟨by decide, rfl⟩⟩
    | false =>
      have HE := hid (rrc_0 hF hN)
      have HO := hid (orErrF_ok w.heap.size (cnt a b c d) (fsg (fac a b c d).2) (fac a b c d).1 (frs (fac a b c d).2) w1 (fun W hb => fc1_ok w.heap.size a b c d W (F1.next hb) hF hN))
      clear hN
      obtain ⟨n, hn⟩ : ∃ n, n = cnt a b c d := ⟨_, rfl⟩
      obtain ⟨sg, hsg⟩ : ∃ n, n = fsg (fac a b c d).2 := ⟨_, rfl⟩
      obtain ⟨L, hL⟩ : ∃ n, n = frs (fac a b c d).2 := ⟨_, rfl⟩
      obtain ⟨Rs, hRs⟩ : ∃ n, n = (fac a b c d).1 := ⟨_, rfl⟩
      rw [← hn, ← hsg, ← hL, ← hRs] at HO
      have K1 := hid hn; have K2 := hid hsg; have K3 := hid hL; have K4 := hid hRs
      clear hn hsg hL hRs
      go_wp2_with fail
      refine HO.out.mono ?_
      rintro e w2 ⟨vr, b', cap, T, rfl, hr, hb, hc1, hc2, hlo, hsep, hb2⟩
      obtain ⟨vra, vrc, rfl⟩ := hr.form
      have hz1 := U1.size
      have V := Bx.new w2 #[.int .i64 sg, .int .i64 n, .slice vra Rs.length vrc, .slice (some ⟨b', 0, none⟩) L.length cap] 71
      have hr' := hr.next ((Below.refl _ w2).alloc (Nat.le_refl _) (.cells #[.int .i64 sg, .int .i64 n, .slice vra Rs.length vrc, .slice (some ⟨b', 0, none⟩) L.length cap] 71))
      have hb' := hb.next ((Below.refl _ w2).alloc (Nat.le_refl _) (.cells #[.int .i64 sg, .int .i64 n, .slice vra Rs.length vrc, .slice (some ⟨b', 0, none⟩) L.length cap] 71))
      have U3 := gr_alloc (gr_trans U1 hb2) (.cells #[.int .i64 sg, .int .i64 n, .slice vra Rs.length vrc, .slice (some ⟨b', 0, none⟩) L.length cap] 71)
      have HR := hid hr'; have HB := hid hb'; have HU := hid U3; have HSP := hid hsep
      clear hr' hb' U3 hr hb hb2 U1 G1 F1 hsep
      go_wp2_with fail
      generalize hk : w2.heap.size = k at V ⊢
      generalize w2.alloc (.cells #[.int .i64 sg, .int .i64 n, .slice vra Rs.length vrc, .slice (some ⟨b', 0, none⟩) L.length cap] 71) = W3 at V HR HB HU ⊢
      have c0 := V.cell 0
      have c1 := V.cell 1
      have c2 := V.cell 2
      have c3 := V.cell 3
      simp at c0 c1 c2 c3
      go_quiet (fail)
      rename_i nq
      have HU2 := hid (gr_drewN HU.out nq)
      have HR2 := hid (HR.out.next (gr_drewN (Below.refl _ _) nq))
      have HB2 := hid (HB.out.next (gr_drewN (Below.refl _ _) nq))
      go_wp2_with fail
      refine bodyPost_ret (by simp [results, Tryd.results19, go_sem]; try rfl) rfl ?_
      rw [HE.out, ← K1.out, ← K2.out, ← K3.out, ← K4.out]
      exact ⟨HU2.out, .inr ⟨rfl, _, b', cap, T, rfl, HR2.out.base hz1, HB2.out, hc1, hc2, by omega, HSP.out⟩⟩
  | false =>
    have HE := hid (rrc_n hF)
    go_wp2_with fail
    refine bodyPost_ret (by simp [results, Tryd.results19, go_sem]; try rfl) rfl ?_
    rw [HE.out]
    exact ⟨U1, .inl ⟨by decide, rfl⟩⟩


end Go.Proofs.YtgdbnaabbaimjaaDoor

/- Chapter 5: division by y X - x Y, the model's. -/
namespace Go.Proofs.YtgdbnaabbaimjaaDoor
open Go.RowKit

theorem ev_10 {L : List Int} (h : GL L) : ev L 1 0 = L.getD 0 0 := by
  rcases h.cases with ⟨a, rfl⟩ | ⟨a, b, rfl⟩ | ⟨a, b, c, rfl⟩ | ⟨a, b, c, d, rfl⟩
  · rw [ev1]; rfl
  · rw [ev2]; simp
  · rw [ev3]; simp
  · rw [ev4]; simp [vx]
theorem GL.get {L : List Int} (hgl : GL L) : ∀ i, i < L.length → -1003003001000 ≤ L.getD i 0 ∧ L.getD i 0 ≤ 1003003001000 := fun i hi => by
  have h3 := hgl.2.2.1 _ (getD_mem L i 0 hi)
  have h1 := hgl.1
  have h2 := hgl.2.1
  rcases (show L.length = 1 ∨ L.length = 2 ∨ L.length = 3 ∨ L.length = 4 by omega) with e | e | e | e <;> rw [e] at h3 <;> simp only [bdF] at h3 <;> omega
/-- A list in the making. -/
def outL (qs : List Int) (n : Nat) : List Int := qs ++ List.replicate (n - qs.length) 0
theorem outL_len {qs : List Int} {n : Nat} (h : qs.length ≤ n) : (outL qs n).length = n := by simp [outL]; omega
theorem outL_set {qs : List Int} {n : Nat} (h : qs.length < n) (q : Int) : (outL qs n).set qs.length q = outL (qs ++ [q]) n := by
  unfold outL
  rw [List.set_append_right _ _ (Nat.le_refl _), Nat.sub_self]
  obtain ⟨m, hm⟩ : ∃ m, n - qs.length = m + 1 := ⟨n - qs.length - 1, by omega⟩
  rw [hm, List.replicate_succ, List.length_append, List.length_singleton, show n - (qs.length + 1) = m by omega]
  simp
theorem outL_e {qs : List Int} {n : Nat} (h : qs.length = n) : outL qs n = qs := by simp [outL, h]
theorem RB.made (w : World) (n : Nat) : RB (w.alloc (.cells (madeCells #[.int .i64 0] n) 2)) w.heap.size (outL [] n) := by
  refine ⟨_, _, Bx.new _ _ _, .inl rfl, fun i hi => ?_⟩
  have hn : i < n := by simpa [outL] using hi
  simp [outL, madeCells, List.getD, hn, Nat.mod_one]
theorem tm_t {o y : Int} (h : y ∣ o) : (o.tmod y == 0) = true := by simpa using Int.tmod_eq_zero_of_dvd h
theorem tm_f {o y : Int} (h : ¬ y ∣ o) : (o.tmod y == 0) = false := by simpa [Int.dvd_iff_tmod_eq_zero] using h

def DviOut (L : List Int) (x y : Int) (n : Nat) (w : World) (e : Ending) (w' : World) : Prop :=
  ∃ ok : Bool, e = .returned (.tuple #[.slice (some ⟨w.heap.size, 0, none⟩) n n, .bool ok]) ∧ ok = decide (ev L x y = 0) ∧ (ok = true → RB w' w.heap.size (dvd L x y)) ∧ Below w.heap.size w w'

set_option maxRecDepth 100000 in
set_option maxHeartbeats 4000000 in
theorem l05Divide_any (v : Value) (L : List Int) (x y : Int) (n : Nat) (w : World) (h : RdP w v L) (hL : GL L) (hp : PT x y) (hn : L.length = n + 1) :
    Calls Tryd.prog 61 #[v, .int .i64 x, .int .i64 y] w (DviOut L x y n w) := by
  obtain ⟨b, cap, rfl, hlc, hcm, hb, hc⟩ := h
  have HC := hid hc
  have HL := hid hL
  have HN := hid hn
  have HP := hid hp
  have hn3 : n ≤ 3 := by have := hL.2.1; omega
  rw [hn] at hlc ⊢
  clear hc hn
  unfold maxLen at hcm
  have hmk := run_make_row' (P := Tryd.prog) 41 2 (.int .i64 0) 8 Tryd.underlying41 info_l64 rfl .i64 .i64 n (by omega) (by omega) w
  have R0 := hid (RB.made w n)
  have U0 := hid (gr_alloc (Below.refl w.heap.size w) (.cells (madeCells #[Value.int .i64 0] n) 2))
  by_cases hy : y = 0
  · subst hy
    have hx1 : x = 1 := by rcases hp with ⟨e, _⟩ | ⟨e, _⟩ <;> omega
    subst hx1
    have hE := ev_10 hL
    have ce := HC.out 0 (by rw [HN.out]; omega)
    have c0 : (w.alloc (.cells (madeCells #[Value.int .i64 0] n) 2)).cell? ⟨b, 0, none⟩ = some (.int .i64 (L.getD 0 0)) := (U0.out.cell (p := ⟨b, 0, none⟩) hb).trans ce
    have HE := hid hE
    clear hE ce hp hL
    go_enter Tryd.func61, Tryd.ntmps61
    by_cases hz : L.getD 0 0 = 0
    · rw [hz] at c0
      have HEZ := hid (HE.out.trans hz)
      clear hz
      go_wp2_with fail
      clear c0 hmk
      generalize (w.alloc (.cells (madeCells #[Value.int .i64 0] n) 2)) = W0 at R0 U0 ⊢
      go_loopw [10] (fun s10 wr => ∃ i : Nat, i ≤ n ∧ s10 = .int .i64 ((i : Int)) ∧ RB wr w.heap.size (outL (ngK L i) n) ∧ Below w.heap.size w wr) (fun s10 _ => n - (intOf s10).toNat)
      case atStart => exact ⟨0, Nat.zero_le _, rfl, R0.out, U0.out⟩
      case round =>
        obtain ⟨i, hi, rfl, hR, hU⟩ := hrel
        have HR := hid hR; have HU := hid hU
        have hsz := hU.size
        by_cases hil : i < n
        · have ck : wr.cell? ⟨b, i + 1, none⟩ = some (.int .i64 (L.getD (i + 1) 0)) := (hU.cell (p := ⟨b, i + 1, none⟩) hb).trans (HC.out (i + 1) (by rw [HN.out]; omega))
          have hkl := ngK_len HN.out hi
          obtain ⟨p0, p1⟩ := hR.cl.2 i (by rw [outL_len (by omega)]; exact hil)
          have HS := hid (ngK_s HN.out hil)
          have HT := hid (outL_set (qs := ngK L i) (n := n) (by omega) (wrap64 (-(L.getD (i + 1) 0))))
          have HKL := hid hkl
          generalize L.getD (i + 1) 0 = q at ck HS HT
          clear hR hU hkl
          simp only at p0
          generalize (outL (ngK L i) n).getD i 0 = q0 at p0
          have hbl := HR.out.lt
          go_wp2_with fail
          have hX := HR.out.set i (wrap64 (-q))
          rw [show (outL (ngK L i) n).set i (wrap64 (-q)) = outL (ngK L (i + 1)) n by rw [HS.out, ← HT.out, HKL.out]] at hX
          exact ⟨⟨i + 1, by omega, by go_num, hX, gr_set HU.out (Nat.le_refl _) _ (p := ⟨w.heap.size, i, none⟩)⟩, by simp [intOf]; omega⟩
        · have e : i = n := by omega
          subst e
          have hD : outL (ngK L i) i = dvd L 1 0 := by rw [outL_e (ngK_len HN.out (Nat.le_refl _)), ngK_e HN.out]
          rw [hD] at hR
          have HR2 := hid hR
          clear hR hU HR
          go_wp2_with fail
          go_ret2
          exact ⟨true, rfl, by simp [HEZ.out], fun _ => HR2.out, HU.out⟩
    · have hzb : (L.getD 0 0 == 0) = false := by simpa using hz
      have HEZ := hid (show ev L 1 0 ≠ 0 by rw [HE.out]; exact hz)
      clear hz
      generalize L.getD 0 0 = q at c0 hzb
      go_wp2_with fail
      go_ret2
      exact ⟨false, rfl, by simp [HEZ.out], fun h => (by cases h), U0.out⟩
  · have hyb : (y == 0) = false := by simpa using hy
    have HY := hid hy
    obtain ⟨⟨hx1, hx2⟩, ⟨hy1, hy2⟩⟩ := hp.bd
    have HQ0 := hid (Pq.nil (x := x) (y := y) (L := L) (by rw [HN.out]; omega))
    have HG := hid hL.get
    clear hy hp hL
    go_enter Tryd.func61, Tryd.ntmps61
    go_wp2_with fail
    clear hmk
    generalize (w.alloc (.cells (madeCells #[Value.int .i64 0] n) 2)) = W0 at R0 U0 ⊢
    go_loopw [11, 12] (fun s11 s12 wr => ∃ qs : List Int, qs.length ≤ n ∧ s12 = .int .i64 ((qs.length : Int)) ∧ s11 = .int .i64 (x * lastD qs) ∧ Pq x y L qs ∧ RB wr w.heap.size (outL qs n) ∧ Below w.heap.size w wr) (fun _ s12 _ => n - (intOf s12).toNat)
    case atStart => exact ⟨[], Nat.zero_le _, rfl, by simp [lastD], HQ0.out, R0.out, U0.out⟩
    case round =>
      obtain ⟨qs, hi, rfl, rfl, hP, hR, hU⟩ := hrel
      have HR := hid hR; have HU := hid hU; have HPq := hid hP
      have hsz := hU.size
      obtain ⟨k1, k2⟩ := hP.bd HL.out HP.out HY.out
      have mc := mulb (A := 1000) (B := 1003003001000) (by omega : -1000 ≤ x ∧ x ≤ 1000) ⟨k1, k2⟩
      simp only [Int.reduceMul] at mc
      have ck : wr.cell? ⟨b, qs.length, none⟩ = some (.int .i64 (L.getD qs.length 0)) := (hU.cell (p := ⟨b, qs.length, none⟩) hb).trans (HC.out _ (by rw [HN.out]; omega))
      obtain ⟨g1, g2⟩ := HG.out qs.length (by rw [HN.out]; omega)
      obtain ⟨o, ho⟩ : ∃ o, o = L.getD qs.length 0 + x * lastD qs := ⟨_, rfl⟩
      have hw : wrap64 (L.getD qs.length 0 + x * lastD qs) = o := by rw [ho]; exact wr_in (by omega)
      by_cases hil : qs.length < n
      · obtain ⟨p0, p1⟩ := hR.cl.2 qs.length (by rw [outL_len (by omega)]; exact hil)
        simp only at p0
        have hbl := hR.lt
        by_cases hdv : y ∣ o
        · have ht := tm_t hdv
          obtain ⟨q, hq⟩ := hdv
          have hq' : wrap64 (o.tdiv y) = q := by
            rw [hq, Int.mul_tdiv_cancel_left _ HY.out]
            have hP2 : Pq x y L (qs ++ [q]) := hP.step (by rw [HN.out]; omega) (by omega)
            have := hP2.bd HL.out HP.out HY.out
            rw [lastD_app] at this
            exact wr_in (by omega)
          have HP2 := hid (hP.step (q := q) (by rw [HN.out]; omega) (by omega))
          have hq2 := HP2.out.bd HL.out HP.out HY.out
          rw [lastD_app] at hq2
          have mc2 := mulb (A := 1000) (B := 1003003001000) (by omega : -1000 ≤ x ∧ x ≤ 1000) hq2
          simp only [Int.reduceMul] at mc2
          have hw2 : wrap64 (x * q) = x * q := wr_in (by omega)
          have HT := hid (outL_set (qs := qs) (n := n) hil q)
          have HLD := hid (lastD_app qs q)
          clear hP hR hU HPq ho hq hq2 mc2 mc k1 k2 g1 g2
          generalize hLq : L.getD qs.length 0 = l0 at ck hw
          generalize hxl : x * lastD qs = c at hw ⊢
          generalize (outL qs n).getD qs.length 0 = q0 at p0
          clear hLq hxl
          go_wp2_with fail
          exact ⟨⟨qs ++ [q], by simp; omega, by simp, by rw [HLD.out, hw2], HP2.out, by rw [← HT.out]; exact HR.out.set qs.length q, gr_set HU.out (Nat.le_refl _) _ (p := ⟨w.heap.size, qs.length, none⟩)⟩, by simp [intOf]; omega⟩
        · have ht := tm_f hdv
          have HNO := hid (hP.no HL.out HP.out HY.out (by rw [HN.out]; omega) (by rw [← ho]; exact hdv))
          clear hP hR hU HPq ho hdv mc k1 k2 g1 g2 p0 p1
          generalize L.getD qs.length 0 = l0 at ck hw
          generalize x * lastD qs = c at hw ⊢
          go_wp2_with fail
          go_ret2
          exact ⟨false, rfl, by simp [HNO.out], fun h => (by cases h), HU.out⟩
      · have e : qs.length = n := by omega
        obtain ⟨f1, f2⟩ := hP.fin HL.out HP.out HY.out (by rw [HN.out]; omega)
        rw [← ho] at f1
        rw [outL_e e] at hR
        have HR2 := hid hR; have HF1 := hid f1; have HF2 := hid f2
        clear hP hR hU HPq ho f1 f2 mc k1 k2 g1 g2 HR
        rw [e] at ck hw ⊢
        generalize L.getD n 0 = l0 at ck hw
        generalize x * lastD qs = c at hw ⊢
        clear hil
        go_wp2_with fail
        go_quiet (fail)
        rename_i nq
        have HU2 := hid (gr_drewN HU.out nq)
        have HR3 := hid (HR2.out.next (gr_drewN (Below.refl _ _) nq))
        go_wp2_with fail
        go_ret2
        refine ⟨(o == 0), rfl, ?_, fun h => ?_, HU2.out⟩
        · rw [Bool.eq_iff_iff]; simp [HF1.out]
        · rw [HF2.out (HF1.out.1 (by simpa using h))]; exact HR3.out


end Go.Proofs.YtgdbnaabbaimjaaDoor

/- Chapter 5: copies of lists, rows of the model in the making, rows that are the same. -/
namespace Go.Proofs.YtgdbnaabbaimjaaDoor
open Go.RowKit

def nums (n : Nat) (g : Nat → Int) : List Value := (List.range n).map fun j => .int .i64 (g j)
theorem nums_get {n : Nat} {g : Nat → Int} {j : Nat} {u : Value} (h : (nums n g)[j]? = some u) : j < n ∧ u = .int .i64 (g j) := by
  unfold nums at h
  rw [List.getElem?_map] at h
  cases hj : (List.range n)[j]? with
  | none => rw [hj] at h; cases h
  | some x =>
    rw [hj] at h
    obtain ⟨h1, h2⟩ := List.getElem?_eq_some_iff.1 hj
    simp at h1 h2 h
    subst h2
    exact ⟨h1, h.symm⟩

set_option maxRecDepth 100000 in
set_option maxHeartbeats 1000000 in
theorem sOwn_any (b off len cap : Nat) (g : Nat → Int) (w : World) (hb : b < w.heap.size) (hcell : ∀ j, j < len → w.cell? ⟨b, off + j, none⟩ = some (.int .i64 (g j))) (hlen : len ≤ 1000) :
    Calls Tryd.prog 62 #[.slice (some ⟨b, off, none⟩) len cap] w fun e w' => ∃ v, e = .returned v ∧ w'.ownsRow w.heap.size 2 1 v len (nums len g) ∧ Below w.heap.size w w' := by
  obtain ⟨i0, hi, hz0, hz1, hz2⟩ := info_parts info_l64
  have HI := hid hi; have HZ0 := hid hz0; have HZ1 := hid hz1; have HZ2 := hid hz2
  clear hi hz0 hz1 hz2
  have O0 : (w.alloc (.cells #[] 2)).ownsRow w.heap.size 2 1 (.slice (some ⟨w.heap.size, 0, none⟩) 0 0) 0 [] :=
    ⟨rfl, .inr ⟨w.heap.size, 0, #[], rfl, Nat.le_refl _, heap_alloc_new w _, Nat.le_refl _, by decide, rfl, rfl⟩⟩
  have hU := gr_alloc (Below.refl w.heap.size w) (.cells #[] 2)
  have HC := hid hcell
  clear hcell
  go_enter Tryd.func62, Tryd.ntmps62
  go_wp2_with (at_builtin; refine wpList_append_own _ rfl _ _ 41 rfl w.heap.size 2 i0 (.int .i64 0) 1 8 Tryd.underlying41 HI.out HZ0.out HZ1.out HZ2.out rfl (by decide) _ _ _ rfl O0 ⟨b, off, none⟩ len cap (nums len g) rfl ?l1 ?a1 ?b1 ?c1 ?d1 ?e1 ?_)
  case l1 => simp [nums]
  case a1 =>
    intro j u hj
    obtain ⟨h1, rfl⟩ := nums_get hj
    have hadd : (⟨b, off, none⟩ : Addr).add j = ⟨b, off + j, none⟩ := by unfold Addr.add; split <;> simp_all
    rw [hadd]
    exact (hU.cell (p := ⟨b, off + j, none⟩) hb).trans (HC.out j h1)
  case b1 =>
    intro u hu
    obtain ⟨j, hj, rfl⟩ := List.mem_map.1 hu
    rfl
  case c1 => unfold maxLen; omega
  case d1 => omega
  case e1 => simp
  intro y1 z1 P1 hg1 _
  have W1 := gr_own hU hg1 (fun j hj => by simp [Value.ownBlock] at hj; omega)
  go_wp2
  go_ret
  exact ⟨_, rfl, by simpa using P1, W1⟩
/-- Rows that can be read, of whatever capacities. -/
def RdRw (w : World) (v : Value) (s n : Nat) (G : Nat → Nat → Int) (T : Nat → Nat × Nat) : Prop :=
  ∃ a cap, v = .slice a n cap ∧ n ≤ cap ∧ cap ≤ maxLen ∧ (0 < n → ∃ g, a = some ⟨g, 0, none⟩ ∧ g < w.heap.size ∧ ∀ i, i < n → w.cell? ⟨g, i, none⟩ = some (.slice (some ⟨(T i).1, 0, none⟩) s (T i).2)) ∧
    (∀ i, i < n → Rd w (.slice (some ⟨(T i).1, 0, none⟩) s (T i).2) s (G i))

set_option maxRecDepth 100000 in
set_option maxHeartbeats 1000000 in
theorem eqRowsM_any (B C : Nat) (u v : Value) (s n : Nat) (G : Nat → Nat → Int) (T : Nat → Nat) (T' : Nat → Nat × Nat) (w : World) (hs : s ≤ 1000) (hu : RowsC B C w u s n G T) (hv : RdRw w v s n G T') :
    Calls Tryd.prog 30 #[u, v] w fun e w' => e = .returned (.bool true) ∧ Below w.heap.size w w' := by
  have HU := hid hu; have HV := hid hv
  obtain ⟨a, cap, rfl, hc1, hm1, hw1, ha, hr, _⟩ := hu
  obtain ⟨a', cap', rfl, hc2, hm2, ha', hr'⟩ := hv
  have HA := hid ha; have HA' := hid ha'; have HR := hid hr; have HR' := hid hr'
  clear ha ha' hr hr'
  unfold maxLen at hm1 hm2
  go_enter Tryd.func30, Tryd.ntmps30
  go_wp2_with fail
  go_loopw [5] (fun i wr => ∃ k : Nat, k ≤ n ∧ i = .int .i64 k ∧ Below w.heap.size w wr) (fun i _ => n - (intOf i).toNat)
  case atStart => exact ⟨0, Nat.zero_le _, rfl, Below.refl _ _⟩
  case round =>
    obtain ⟨k, hk, rfl, hB⟩ := hrel
    by_cases hlt : k < n
    · obtain ⟨g, rfl, _, hg, hcell⟩ := HA.out (by omega)
      obtain ⟨g', rfl, hg', hcell'⟩ := HA'.out (by omega)
      have c0 := (hB.cell (p := ⟨g, k, none⟩) (by show g < _; omega)).trans (hcell k hlt).1
      have d0 := (hB.cell (p := ⟨g', k, none⟩) (by show g' < _; omega)).trans (hcell' k hlt)
      have A0 := ((HR.out k hlt).2.2.rd (by unfold maxLen; omega)).next hB
      have D0 := (HR'.out k hlt).next hB
      have hsz := hB.size
      have hgs : g < w.heap.size := by omega
      have hgs' : g' < w.heap.size := by omega
      clear hcell hcell'
      generalize T k = t at c0 A0
      generalize (T' k).1 = t' at d0 D0
      generalize (T' k).2 = cp' at d0 D0
      generalize G k = gk at A0 D0
      go_wp2_with fail
      go_region_held3 (fun W => W.cell? ⟨g, k, none⟩ = some (.slice (some ⟨t, 0, none⟩) s s) ∧ W.cell? ⟨g', k, none⟩ = some (.slice (some ⟨t', 0, none⟩) s cp')) (first | exact ⟨by assumption, by assumption⟩ | (refine ⟨?_, ?_⟩ <;> (refine (Below.cell (by assumption) ?_).trans (by assumption); (first | omega | (simp; omega))))) ((go_at_call 31; refine (eqI_any _ _ s gk _ (A0.next (by (repeat' (first | with_reducible exact Below.refl _ _ | with_reducible assumption | with_reducible refine gr_alloc ?_ _ | with_reducible refine gr_drew ?_ | with_reducible refine gr_drewN ?_ _ | with_reducible refine gr_trans ?_ (by assumption) | with_reducible refine gr_set ?_ ?_ _ | (simp; done) | omega | (simp; omega))))) (D0.next (by (repeat' (first | with_reducible exact Below.refl _ _ | with_reducible assumption | with_reducible refine gr_alloc ?_ _ | with_reducible refine gr_drew ?_ | with_reducible refine gr_drewN ?_ _ | with_reducible refine gr_trans ?_ (by assumption) | with_reducible refine gr_set ?_ ?_ _ | (simp; done) | omega | (simp; omega)))))).mono ?_; rintro e z1 ⟨rfl, hz1⟩; have hs1 := hz1.size; (try simp at hs1)))
      have hB1 : Below w.heap.size w z1 := by (repeat' (first | with_reducible exact Below.refl _ _ | with_reducible assumption | with_reducible refine gr_alloc ?_ _ | with_reducible refine gr_drew ?_ | with_reducible refine gr_drewN ?_ _ | with_reducible refine gr_trans ?_ (by assumption) | with_reducible refine gr_set ?_ ?_ _ | (simp; done) | omega | (simp; omega)))
      clear c0 d0 A0 D0
      go_wp2_with fail
      go_roundw
      case rel => exact ⟨k + 1, by omega, by go_num, hB1⟩
      case measure => simp [intOf]; omega
    · have e : k = n := by omega
      subst e
      go_wp2_with fail
      go_ret
      exact ⟨rfl, hB⟩

/-- Rows of the model in the making. -/
structure Rwm (B : Nat) (w : World) (v : Value) (R : List (List Int)) (T : List (Nat × Nat)) : Prop where
  own : w.ownsRow B 41 1 v R.length (T.map fun t => Value.slice (some ⟨t.1, 0, none⟩) 2 t.2)
  len : T.length = R.length
  row : ∀ i, i < R.length → RB w (T.getD i (0, 0)).1 (R.getD i []) ∧ 2 ≤ (T.getD i (0, 0)).2 ∧ (T.getD i (0, 0)).2 ≤ maxLen
  wid : ∀ r ∈ R, r.length = 2
theorem Rwm.next {B : Nat} {w w' : World} {v : Value} {R : List (List Int)} {T : List (Nat × Nat)} (h : Rwm B w v R T) (hb : Below w.heap.size w w') : Rwm B w' v R T :=
  ⟨owns_next h.own hb, h.len, fun i hi => ⟨(h.row i hi).1.next hb, (h.row i hi).2⟩, h.wid⟩
theorem RB.grown {w W : World} {b : Nat} {L : List Int} (h : RB w b L) {B s n : Nat} {v : Value} {ys : List Value} (h' : w.ownsRow B 41 s v n ys) (hg : w.grownBy W v.ownBlock) : RB W b L := by
  obtain ⟨cur, T, g1, g2, g3⟩ := h
  exact ⟨cur, T, g1.grown hg (g1.own h' (by rcases g2 with rfl | rfl <;> decide)), g2, g3⟩
theorem Rwm.app {B : Nat} {w W : World} {v v' : Value} {R : List (List Int)} {T : List (Nat × Nat)} (h : Rwm B w v R T) {r : List Int} {t cp : Nat} (hr : RB w t r) (hl : r.length = 2) (hc : 2 ≤ cp) (hm : cp ≤ maxLen) {o : Obj} (hg : (w.alloc o).grownBy W v.ownBlock)
    (hO : W.ownsRow B 41 1 v' (R.length + 1) ((T.map fun t => Value.slice (some ⟨t.1, 0, none⟩) 2 t.2) ++ [.slice (some ⟨t, 0, none⟩) 2 cp])) : Rwm B W v' (R ++ [r]) (T ++ [(t, cp)]) := by
  have keep : ∀ {b : Nat} {L : List Int}, RB w b L → RB W b L := fun hb => (hb.next ((Below.refl _ w).alloc (Nat.le_refl _) o)).grown (h.own.alloc o) hg
  refine ⟨by simpa using hO, by simp [h.len], fun i hi => ?_, fun x hx => ?_⟩
  · rw [List.length_append, List.length_singleton] at hi
    by_cases e : i < R.length
    · rw [show (T ++ [(t, cp)]).getD i (0, 0) = T.getD i (0, 0) by simp [List.getD, List.getElem?_append_left (show i < T.length by rw [h.len]; exact e)], show (R ++ [r]).getD i [] = R.getD i [] by simp [List.getD, List.getElem?_append_left e]]
      exact ⟨keep (h.row i e).1, (h.row i e).2⟩
    · have e' : i = R.length := by omega
      subst e'
      rw [show (T ++ [(t, cp)]).getD R.length (0, 0) = (t, cp) by rw [← h.len]; simp [List.getD], show (R ++ [r]).getD R.length [] = r by simp [List.getD]]
      exact ⟨keep hr, hc, hm⟩
  · rcases List.mem_append.1 hx with hx | hx
    · exact h.wid x hx
    · simp at hx; subst hx; exact hl
theorem Rwm.lt {B : Nat} {w : World} {v : Value} {R : List (List Int)} {T : List (Nat × Nat)} (h : Rwm B w v R T) : ∀ p ∈ T, p.1 < w.heap.size := fun p hp => by
  obtain ⟨i, hi, rfl⟩ := List.getElem_of_mem hp
  have := (h.row i (by rw [← h.len]; exact hi)).1.lt
  simpa [List.getD, hi] using this
theorem Rwm.rd {B : Nat} {w : World} {v : Value} {R : List (List Int)} {T : List (Nat × Nat)} (h : Rwm B w v R T) : RdRw w v 2 R.length (fun i j => (R.getD i []).getD j 0) (fun i => T.getD i (0, 0)) := by
  obtain ⟨a, cap, rfl, hcm, hnc, hcell⟩ := owns_form h.own
  refine ⟨a, cap, rfl, hnc, hcm, fun hn => ?_, fun i hi => ?_⟩
  · obtain ⟨g, rfl, hg, hc⟩ := hcell hn
    refine ⟨g, rfl, hg, fun i hi => hc i _ ?_⟩
    have hi' : i < T.length := by rw [h.len]; exact hi
    simp [List.getD, hi']
  · obtain ⟨h1, h2, h3⟩ := h.row i hi
    have hw := h.wid _ (getD_mem R i [] hi)
    exact .inr ⟨_, _, rfl, h2, h3, h1.lt, fun j hj => (h1.cl.2 j (by omega)).1⟩
theorem RwX.grown {B B' : Nat} {w W : World} {va vr : Value} {s n : Nat} {R : List (List Int)} {ys : List Value} (h : RwX B w va s R) (h' : w.ownsRow B' 41 1 vr n ys) (hne : va.ownBlock = none ∨ va.ownBlock ≠ vr.ownBlock) (hg : w.grownBy W vr.ownBlock) : RwX B W va s R := by
  obtain ⟨T, hT⟩ := h
  refine ⟨T, hT.own.kept hg hne, hT.len, fun i hi => (hT.row i hi).grown hg ((hT.row i hi).own h' (by decide)), fun t ht => ⟨(hT.bas t ht).1, Nat.lt_of_lt_of_le (hT.bas t ht).2 hg.size⟩, hT.srt, hT.wid⟩
theorem Rwm.setB {B : Nat} {w : World} {v : Value} {R : List (List Int)} {T : List (Nat × Nat)} (h : Rwm B w v R T) {b : Nat} {L : List Int} (hb : RB w b L) (hs : ∀ t ∈ T, t.1 ≠ b) (i : Nat) (u : Value) : Rwm B (w.setCell ⟨b, i, none⟩ u) v R T := by
  obtain ⟨cur, T', g1, g2, _⟩ := hb
  refine ⟨h.own.kept (grown_set w b i u) (by
    cases hv : v.ownBlock with
    | none => exact .inl rfl
    | some g => exact .inr (fun e => g1.own h.own (by rcases g2 with rfl | rfl <;> decide) g hv (by simpa using e))), h.len, fun j hj => ⟨?_, (h.row j hj).2⟩, h.wid⟩
  obtain ⟨c2, T2, k1, k2, k3⟩ := (h.row j hj).1
  exact ⟨c2, T2, k1.far (hs _ (getD_mem T j (0, 0) (by rw [h.len]; exact hj))) i u, k2, k3⟩


end Go.Proofs.YtgdbnaabbaimjaaDoor

/- Chapter 5: marks in two lists, one behind the other; nil lists. -/
namespace Go.Proofs.YtgdbnaabbaimjaaDoor
open Go.RowKit

set_option maxRecDepth 100000 in
set_option maxHeartbeats 1000000 in
theorem markRows2K_any (B C : Nat) (u : Value) (n : Nat) (G : Nat → Nat → Int) (T : Nat → Nat) (w : World) (hn : n ≤ 10000000) (hu : RowsC B C w u 2 n G T) :
    Calls Tryd.prog 32 #[u, .int .i64 1] w fun e w' => e = .returned (.int .i64 (1 + 2 * n)) ∧ RowsC B C w' u 2 n (fun i j => 1 + 2 * i + j) T ∧ Below B w w' ∧ ∀ j, j < w.heap.size → (∀ i, i < n → T i ≠ j) → w'.heap[j]? = w.heap[j]? := by
  have HU := hid hu
  obtain ⟨a, cap, rfl, hc1, hm1, hw1, ha, hr, hso⟩ := hu
  have HSO := hid hso
  clear ha hr hso
  unfold maxLen at hm1
  go_enter Tryd.func32, Tryd.ntmps32
  go_wp2_with fail
  go_loopw [5, 1] (fun i m wr => ∃ k : Nat, k ≤ n ∧ i = .int .i64 k ∧ m = .int .i64 (1 + 2 * k) ∧ RowsC B C wr (.slice a n cap) 2 n (fun i j => if i < k then 1 + 2 * (i : Int) + j else G i j) T ∧ Below B w wr ∧ ∀ j, j < w.heap.size → (∀ i, i < n → T i ≠ j) → wr.heap[j]? = w.heap[j]?) (fun i _ _ => n - (intOf i).toNat)
  case atStart => exact ⟨0, Nat.zero_le _, rfl, by simp, by simpa using HU.out, Below.refl _ _, fun _ _ _ => rfl⟩
  case round =>
    obtain ⟨k, hk, rfl, rfl, hR, hB, hJ⟩ := hrel
    have HJ := hid hJ
    clear hJ
    obtain ⟨a1, cap1, e1, _, _, hC, ha, hr, _⟩ := hR
    cases e1
    by_cases hlt : k < n
    · obtain ⟨g, rfl, hgB, hg, hcell⟩ := ha (by omega)
      obtain ⟨hTB, hTC, hcl⟩ := hr k hlt
      have c0 := (hcell k hlt).1
      have HC := hid hcell; have HR := hid hr; have HB := hid hB; have HL := hid hcl
      clear hcell hr hB ha hcl
      go_wp2_with fail
      refine (markK_any (T k) 2 2 (1 + 2 * k) _ _ HL.out (by omega) (by omega) (by omega) (by omega)).mono ?_
      rintro e w1 ⟨rfl, hcl1, hkb⟩
      have hsz := hkb.2.2.2.1
      have HX := hid hcl1; have HK := hid hkb
      clear hcl1 hkb c0
      go_wp2_with fail
      go_roundw
      case rel => exact ⟨k + 1, by omega, by go_num, by go_num, ⟨_, cap, rfl, hc1, by unfold maxLen; omega, by omega, fun _ => ⟨g, rfl, hgB, hg, fun i hi => ⟨(HK.out.cell (by omega) (by have := (HC.out k hlt).2; omega)).trans (HC.out i hi).1, (HC.out i hi).2⟩⟩, fun i hi => by
          by_cases e : i = k
          · subst e
            exact ⟨hTB, hTC, HX.out.congr (fun j _ => by simp)⟩
          · have hne : T i ≠ T k := by
              rcases Nat.lt_or_gt_of_ne e with h | h
              · have := HSO.out i k h hlt; omega
              · have := HSO.out k i h hi; omega
            exact ⟨(HR.out i hi).1, (HR.out i hi).2.1, ((HR.out i hi).2.2.kb HK.out hne).congr (fun j _ => by
              by_cases h : i < k
              · simp [h, show i < k + 1 by omega]
              · simp [h, show ¬ i < k + 1 by omega])⟩, HSO.out⟩, HB.out.trans (HK.out.below hTB (by omega)), fun j hj hne => (HK.out.2.2.2.2 j (Nat.lt_of_lt_of_le hj HB.out.size) (fun e => hne k hlt e.symm)).trans (HJ.out j hj hne)⟩
      case measure => simp [intOf]; omega
    · have e : k = n := by omega
      subst e
      have HA := hid ha; have HR := hid hr
      clear ha hr
      go_wp2_with fail
      go_ret
      exact ⟨rfl, ⟨_, cap, rfl, hc1, by unfold maxLen; omega, hC, HA.out, fun i hi => ⟨(HR.out i hi).1, (HR.out i hi).2.1, (HR.out i hi).2.2.congr (fun j _ => by simp [hi])⟩, HSO.out⟩, hB, HJ.out⟩


set_option maxRecDepth 100000 in
set_option maxHeartbeats 1000000 in
theorem markNil_any (s : Int) (w : World) :
    Calls Tryd.prog 33 #[.slice none 0 0, .int .i64 s] w fun e w' => e = .returned (.int .i64 s) ∧ w' = w := by
  go_enter Tryd.func33, Tryd.ntmps33
  go_wp2_with fail
  refine wp_loop_rounds 1 ?_
  rw [rounds_succ]
  go_wp2_with fail
  go_ret
  exact ⟨rfl, rfl⟩

set_option maxRecDepth 100000 in
set_option maxHeartbeats 1000000 in
theorem heldNil_any (s : Int) (w : World) :
    Calls Tryd.prog 35 #[.slice none 0 0, .int .i64 s] w fun e w' => e = .returned (.int .i64 s) ∧ w' = w := by
  go_enter Tryd.func35, Tryd.ntmps35
  go_wp2_with fail
  refine wp_loop_rounds 1 ?_
  rw [rounds_succ]
  go_wp2_with fail
  go_ret
  exact ⟨rfl, rfl⟩

set_option maxRecDepth 100000 in
set_option maxHeartbeats 1000000 in
theorem markNilR_any (s : Int) (w : World) : Calls Tryd.prog 32 #[.slice none 0 0, .int .i64 s] w fun e w' => e = .returned (.int .i64 s) ∧ w' = w := by
  go_enter Tryd.func32, Tryd.ntmps32
  go_wp2_with fail
  refine wp_loop_rounds 1 ?_
  rw [rounds_succ]
  go_wp2_with fail
  go_ret
  exact ⟨rfl, rfl⟩

set_option maxRecDepth 100000 in
set_option maxHeartbeats 1000000 in
theorem heldNilR_any (s : Int) (w : World) : Calls Tryd.prog 34 #[.slice none 0 0, .int .i64 s] w fun e w' => e = .returned (.int .i64 s) ∧ w' = w := by
  go_enter Tryd.func34, Tryd.ntmps34
  go_wp2_with fail
  refine wp_loop_rounds 1 ?_
  rw [rounds_succ]
  go_wp2_with fail
  go_ret
  exact ⟨rfl, rfl⟩

set_option maxRecDepth 100000 in
set_option maxHeartbeats 1000000 in
theorem eqInt64SS_nil (w : World) : Calls Tryd.prog 30 #[.slice none 0 0, .slice none 0 0] w fun e w' => e = .returned (.bool true) ∧ w' = w := by
  go_enter Tryd.func30, Tryd.ntmps30
  go_wp2_with fail
  refine wp_loop_rounds 1 ?_
  rw [rounds_succ]
  go_wp2_with fail
  go_ret
  exact ⟨rfl, rfl⟩

set_option maxRecDepth 100000 in
set_option maxHeartbeats 1000000 in
theorem eqInt64S_nil (w : World) : Calls Tryd.prog 31 #[.slice none 0 0, .slice none 0 0] w fun e w' => e = .returned (.bool true) ∧ w' = w := by
  go_enter Tryd.func31, Tryd.ntmps31
  go_wp2_with fail
  refine wp_loop_rounds 1 ?_
  rw [rounds_succ]
  go_wp2_with fail
  go_ret
  exact ⟨rfl, rfl⟩

/-- Blocks that are not turned. -/
theorem RowsC.keep {B C : Nat} {w w' : World} {v : Value} {s n : Nat} {G : Nat → Nat → Int} {T : Nat → Nat} (h : RowsC B C w v s n G T) {b : Nat} (hk : KB b w w') (ht : ∀ i, i < n → T i ≠ b) (hv : ∀ j, v.ownBlock = some j → j ≠ b) : RowsC B C w' v s n G T := by
  obtain ⟨a, cap, rfl, h1, h2, h3, h4, h5, h6⟩ := h
  have hz := hk.2.2.2.1
  refine ⟨a, cap, rfl, h1, h2, by omega, fun hn => ?_, fun i hi => ?_, h6⟩
  · obtain ⟨g, rfl, g1, g2, g3⟩ := h4 hn
    exact ⟨g, rfl, g1, g2, fun i hi => ⟨(hk.cell (by omega) (hv g rfl)).trans (g3 i hi).1, (g3 i hi).2⟩⟩
  · obtain ⟨k1, k2, k3⟩ := h5 i hi
    exact ⟨k1, k2, k3.kb hk (ht i hi)⟩
theorem Cl.same {w w' : World} {k len : Nat} {g : Nat → Int} (h : Cl w k len g) (hz : w.heap.size ≤ w'.heap.size) (hb : w'.heap[k]? = w.heap[k]?) : Cl w' k len g :=
  ⟨Nat.lt_of_lt_of_le h.1 hz, fun i hi => ⟨(World.cell?_of_block (a := ⟨k, i, none⟩) hb).trans (h.2 i hi).1, (World.frozen?_of_block (a := ⟨k, i, none⟩) hb).trans (h.2 i hi).2⟩⟩
theorem RdRw.next {w w' : World} {v : Value} {s n : Nat} {G : Nat → Nat → Int} {T : Nat → Nat × Nat} (h : RdRw w v s n G T) (hb : Below w.heap.size w w') : RdRw w' v s n G T := by
  obtain ⟨a, cap, rfl, h1, h2, h3, h4⟩ := h
  refine ⟨a, cap, rfl, h1, h2, fun hn => ?_, fun i hi => (h4 i hi).next hb⟩
  obtain ⟨g, rfl, g1, g2⟩ := h3 hn
  exact ⟨g, rfl, Nat.lt_of_lt_of_le g1 hb.size, fun i hi => (hb.cell (p := ⟨g, i, none⟩) g1).trans (g2 i hi)⟩
theorem RB.rd {w : World} {b cap : Nat} {L : List Int} (h : RB w b L) (h1 : L.length ≤ cap) (h2 : cap ≤ maxLen) : Rd w (.slice (some ⟨b, 0, none⟩) L.length cap) L.length (fun i => L.getD i 0) :=
  .inr ⟨b, cap, rfl, h1, h2, h.lt, fun i hi => (h.cl.2 i hi).1⟩
/-- The rows of the program, as they are read; their table is not the block of the rest. -/
theorem Rwb.toC {B : Nat} {w : World} {v : Value} {R : List (List Int)} {T : List Nat} (h : Rwb B w v 2 R T) {b : Nat} {L : List Int} (hb : RB w b L) (hs : ∀ t ∈ T, t ≠ b) :
    ∃ T', RowsC B w.heap.size w v 2 R.length (fun i j => (R.getD i []).getD j 0) T' ∧ (∀ i, i < R.length → T' i ≠ b) ∧ ∀ j, v.ownBlock = some j → j ≠ b := by
  refine ⟨fun i => T.getD i 0, ?_, fun i hi => hs _ (getD_mem T i 0 (by rw [h.len]; exact hi)), fun j hj => ?_⟩
  · skip
    obtain ⟨a, cap, rfl, hcm, hnc, hcell⟩ := owns_form h.own
    refine ⟨a, cap, rfl, hnc, hcm, Nat.le_refl _, fun hn => ?_, fun i hi => ?_, fun i j hij hj => ?_⟩
    · obtain ⟨g, rfl, hg, hc⟩ := hcell hn
      refine ⟨g, rfl, (h.own.lt g rfl).1, hg, fun i hi => ⟨hc i _ ?_, ?_⟩⟩
      · have hi' : i < T.length := by rw [h.len]; exact hi
        simp [List.getD, hi']
      · exact fun e => (h.row i hi).own h.own (by decide) g rfl e.symm
    · have hb := h.bas _ (getD_mem T i 0 (by rw [h.len]; exact hi))
      have hw := h.wid _ (getD_mem R i [] hi)
      have hr := h.row i hi
      refine ⟨hb.1, hb.2, hb.2, fun j hj => ⟨?_, hr.frozen j⟩⟩
      rw [hr.cell]
      exact cI_get _ _ (by omega)
    · have hj' : j < T.length := by rw [h.len]; exact hj
      have := List.pairwise_iff_getElem.1 h.srt i j (by omega) hj' hij
      simpa [List.getD, hj', show i < T.length by omega] using this
  · obtain ⟨cur, T', g1, g2, _⟩ := hb
    exact g1.own h.own (by rcases g2 with rfl | rfl <;> decide) j hj


end Go.Proofs.YtgdbnaabbaimjaaDoor
