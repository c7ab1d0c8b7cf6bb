/- Chapter 5: FactorForm, the program's. -/
import Derived.Test.YthheongdgcfngaaDoorFc
namespace Go.Proofs.YthheongdgcfngaaDoor
open Go.RowKit

theorem keep4 {B : Nat} {w : World} {z : Nat} {vr : Value} {b : Nat} {Rs : List (List Int)} {T : List Nat} {L : List Int} {xs : Array Value} (hz : Bx w z xs 86) (hr : Rwb B w vr 2 Rs T) (hb : RB w b L) (v0 v1 v2 v3 : Value) :
    Rwb B ((((w.setCell ⟨z, 0, none⟩ v0).setCell ⟨z, 1, none⟩ v1).setCell ⟨z, 2, none⟩ v2).setCell ⟨z, 3, none⟩ v3) vr 2 Rs T ∧
    RB ((((w.setCell ⟨z, 0, none⟩ v0).setCell ⟨z, 1, none⟩ v1).setCell ⟨z, 2, none⟩ v2).setCell ⟨z, 3, none⟩ v3) b L := by
  have z1 := hz.set 0 v0
  have z2 := z1.set 1 v1
  have z3 := z2.set 2 v2
  refine ⟨?_, ?_⟩
  · exact (((hr.far hz (by decide) (by decide) _ _).far z1 (by decide) (by decide) _ _).far z2 (by decide) (by decide) _ _).far z3 (by decide) (by decide) _ _
  · exact (((hb.far hz (by decide) (by decide) _ _).far z1 (by decide) (by decide) _ _).far z2 (by decide) (by decide) _ _).far z3 (by decide) (by decide) _ _
theorem set4 {w : World} {z : Nat} {T : TypeId} {u0 u1 u2 u3 : Value} (hz : Bx w z #[u0, u1, u2, u3] T) (v0 v1 v2 v3 : Value) : Bx ((((w.setCell ⟨z, 0, none⟩ v0).setCell ⟨z, 1, none⟩ v1).setCell ⟨z, 2, none⟩ v2).setCell ⟨z, 3, none⟩ v3) z #[v0, v1, v2, v3] T := by
  have := (((hz.set 0 v0).set 1 v1).set 2 v2).set 3 v3
  simpa using this
theorem Rwb.base {B B' : Nat} {w : World} {v : Value} {s : Nat} {R : List (List Int)} {T : List Nat} (h : Rwb B w v s R T) (hB : B' ≤ B) : Rwb B' w v s R T :=
  ⟨owns_mono h.own hB, h.len, h.row, fun t ht => by have := h.bas t ht; omega, h.srt, h.wid⟩

set_option maxRecDepth 100000 in
set_option maxHeartbeats 1000000 in
theorem factorsOf_pan (a b c d : Int) (pv : Value) (w : World) (hg : Sen w pv) (hF : isF a b c d = true) (hN : mul0 (cnt a b c d) 0 = true) :
    Calls Tryd.prog 63 #[.agg #[.int .i64 a, .int .i64 b, .int .i64 c, .int .i64 d]] w (PanOut pv w) := by
  obtain ⟨ha, hb, hc, hd⟩ := isF_t hF
  have HR := hid (fun W hg => rootsOf_pan a b c d 0 pv W hg (by omega) (by omega) ha hb hc hd hN)
  clear ha hb hc hd hF hN
  have F0 := (Bx.new w #[.int .i64 a, .int .i64 b, .int .i64 c, .int .i64 d] 25).alloc (.cells #[.int .i64 0, .int .i64 0, .slice none 0 0, .slice none 0 0] 86)
  have U0 := gr_alloc (gr_alloc (Below.refl w.heap.size w) (.cells #[.int .i64 a, .int .i64 b, .int .i64 c, .int .i64 d] 25)) (.cells #[.int .i64 0, .int .i64 0, .slice none 0 0, .slice none 0 0] 86)
  have G0 := (hg.alloc (.cells #[.int .i64 a, .int .i64 b, .int .i64 c, .int .i64 d] 25)).alloc (.cells #[.int .i64 0, .int .i64 0, .slice none 0 0, .slice none 0 0] 86)
  go_enter Tryd.func63, Tryd.ntmps63
  obtain ⟨_, c0, c1, c2, c3, _⟩ := F0.arr4
  go_wp2_with fail
  refine (HR.out _ G0).mono ?_
  rintro e w1 ⟨rfl, hb1⟩
  exact ⟨rfl, rfl, gr_trans U0 hb1⟩

set_option maxRecDepth 100000 in
set_option maxHeartbeats 1000000 in
theorem fc1_ok (kf : Nat) (a b c d : Int) (w : World) (hK : Bx w kf #[.int .i64 a, .int .i64 b, .int .i64 c, .int .i64 d] 25) (hF : isF a b c d = true) (hN : mul0 (cnt a b c d) 0 = false) :
    Calls Tryd.prog 62 #[.pointer (some ⟨kf, 0, none⟩)] w (FcOut (cnt a b c d) (fsg (fac a b c d).2) (fac a b c d).1 (frs (fac a b c d).2) w) := by
  have H := hid (fun W => factorsOf_any a b c d W hF hN)
  clear hF hN
  generalize cnt a b c d = n at H ⊢
  generalize fsg (fac a b c d).2 = sg at H ⊢
  generalize frs (fac a b c d).2 = L at H ⊢
  generalize (fac a b c d).1 = Rs at H ⊢
  have F0 := hK.alloc (.cells #[.int .i64 0, .int .i64 0, .slice none 0 0, .slice none 0 0] 86)
  have Z0 := Bx.new w #[.int .i64 0, .int .i64 0, .slice none 0 0, .slice none 0 0] 86
  have U0 := gr_alloc (Below.refl w.heap.size w) (.cells #[.int .i64 0, .int .i64 0, .slice none 0 0, .slice none 0 0] 86)
  go_enter Tryd.func62, Tryd.ntmps62
  obtain ⟨_, c0, c1, c2, c3, _⟩ := F0.arr4
  go_wp2_with fail
  refine (H.out _).mono ?_
  rintro e w1 ⟨vr, b', cap, T, rfl, hr, hb, hc1, hc2, hlo, hsep, hb1⟩
  have Z1 := Z0.next hb1
  have U1 := gr_trans U0 hb1
  have hsz := U0.size
  have hzl := Z0.lt
  clear c0 c1 c2 c3 F0
  obtain ⟨vra, vrc, rfl⟩ := hr.form
  have z0 := Z1.cell 0
  have z1 := Z1.cell 1
  have z2 := Z1.cell 2
  have z3 := Z1.cell 3
  have y0 := Z1.frozen 0
  have y1 := Z1.frozen 1
  have y2 := Z1.frozen 2
  have y3 := Z1.frozen 3
  simp at z0 z1 z2 z3
  go_wp2_with fail
  obtain ⟨k1, k2⟩ := keep4 Z1 hr hb (.int .i64 sg) (.int .i64 n) (.slice vra Rs.length vrc) (.slice (some ⟨b', 0, none⟩) L.length cap)
  have e1 := set4 Z1 (.int .i64 sg) (.int .i64 n) (.slice vra Rs.length vrc) (.slice (some ⟨b', 0, none⟩) L.length cap)
  have c0 := e1.cell 0
  have c1 := e1.cell 1
  have c2 := e1.cell 2
  have c3 := e1.cell 3
  simp only [List.getElem?_toArray, List.getElem?_cons_zero, List.getElem?_cons_succ] at c0 c1 c2 c3
  have hle : w.heap.size ≤ w.heap.size := Nat.le_refl _
  have HUf := gr_set (gr_set (gr_set (gr_set U1 hle (.int .i64 sg) (p := ⟨w.heap.size, 0, none⟩)) hle (.int .i64 n) (p := ⟨w.heap.size, 1, none⟩)) hle (.slice vra Rs.length vrc) (p := ⟨w.heap.size, 2, none⟩)) hle (.slice (some ⟨b', 0, none⟩) L.length cap) (p := ⟨w.heap.size, 3, none⟩)
  refine bodyPost_ret (by simp [results, Tryd.results62, go_sem, c0, c1, c2, c3]; try rfl) rfl ?_
  exact ⟨_, b', cap, T, rfl, k1.base hsz, k2, hc1, hc2, by omega, hsep, HUf⟩

set_option maxRecDepth 100000 in
set_option maxHeartbeats 1000000 in
theorem fc1_err (kf : Nat) (a b c d : Int) (pv : Value) (w : World) (hg : Sen w pv) (hK : Bx w kf #[.int .i64 a, .int .i64 b, .int .i64 c, .int .i64 d] 25) (hF : isF a b c d = true) (hN : mul0 (cnt a b c d) 0 = true) :
    Calls Tryd.prog 62 #[.pointer (some ⟨kf, 0, none⟩)] w (PanOut pv w) := by
  have H := hid (fun W hg => factorsOf_pan a b c d pv W hg hF hN)
  clear hF hN
  have F0 := hK.alloc (.cells #[.int .i64 0, .int .i64 0, .slice none 0 0, .slice none 0 0] 86)
  have G0 := hg.alloc (.cells #[.int .i64 0, .int .i64 0, .slice none 0 0, .slice none 0 0] 86)
  have U0 := gr_alloc (Below.refl w.heap.size w) (.cells #[.int .i64 0, .int .i64 0, .slice none 0 0, .slice none 0 0] 86)
  go_enter Tryd.func62, Tryd.ntmps62
  obtain ⟨_, c0, c1, c2, c3, _⟩ := F0.arr4
  go_wp2_with fail
  refine (H.out _ G0).mono ?_
  rintro e w1 ⟨rfl, hb1⟩
  exact ⟨rfl, rfl, gr_trans U0 hb1⟩

/-- What the door gives. -/
def FcOk (n sg : Int) (Rs : List (List Int)) (L : List Int) (w : World) (e : Ending) (w' : World) : Prop :=
  ∃ vr b cap T, e = .returned (.tuple #[.agg #[.int .i64 sg, .int .i64 n, vr, .slice (some ⟨b, 0, none⟩) L.length cap], .nilIface]) ∧ Rwb w.heap.size w' vr 2 Rs T ∧ RB w' b L ∧ L.length ≤ cap ∧ cap ≤ maxLen ∧ w.heap.size ≤ b ∧ (∀ t ∈ T, t ≠ b) ∧ Below w.heap.size w w'

set_option maxRecDepth 100000 in
set_option maxHeartbeats 1000000 in
theorem orErrF_ok (kf : Nat) (n sg : Int) (Rs : List (List Int)) (L : List Int) (w : World) (hC : ∀ W, Below w.heap.size w W → Calls Tryd.prog 62 #[.pointer (some ⟨kf, 0, none⟩)] W (FcOut n sg Rs L W)) :
    Calls Tryd.prog 61 #[.func (.func 62) #[] #[.pointer (some ⟨kf, 0, none⟩)]] w (FcOk n sg Rs L w) := by
  have hmf : ∀ (fn : Fn) (first cap : Array Value) (w : World), (Instr.makeFunc fn first cap).run Tryd.prog w = .ok (.func fn first cap) w := fun _ _ _ _ => rfl
  have H := hid hC
  clear hC
  have Z0 := (Bx.new w #[.int .i64 0, .int .i64 0, .slice none 0 0, .slice none 0 0] 86).alloc (.cells #[.nilIface] 60)
  have E0 := Bx.new (w.alloc (.cells #[.int .i64 0, .int .i64 0, .slice none 0 0, .slice none 0 0] 86)) #[.nilIface] 60
  have U0 := gr_alloc (gr_alloc (Below.refl w.heap.size w) (.cells #[.int .i64 0, .int .i64 0, .slice none 0 0, .slice none 0 0] 86)) (.cells #[.nilIface] 60)
  simp only [World.size_alloc] at E0
  go_enter_defers Tryd.func61, Tryd.ntmps61
  go_wp2_with fail
  refine (H.out _ U0).mono ?_
  rintro e w1 ⟨vr, b', cap, T, rfl, hr, hb, hc1, hc2, hlo, hsep, hb1⟩
  have Z1 := Z0.next hb1
  have E1 := E0.next hb1
  have U1 := gr_trans U0 hb1
  have hsz := U0.size
  have hel := E0.lt
  obtain ⟨vra, vrc, rfl⟩ := hr.form
  have z0 := Z1.cell 0
  have z1 := Z1.cell 1
  have z2 := Z1.cell 2
  have z3 := Z1.cell 3
  have y0 := Z1.frozen 0
  have y1 := Z1.frozen 1
  have y2 := Z1.frozen 2
  have y3 := Z1.frozen 3
  have e0 := E1.cell 0
  have f0 := E1.frozen 0
  simp at z0 z1 z2 z3 e0
  go_wp2_with fail
  clear z0 z1 z2 z3 y0 y1 y2 y3 e0 f0
  obtain ⟨k1, k2⟩ := keep4 Z1 hr hb (.int .i64 sg) (.int .i64 n) (.slice vra Rs.length vrc) (.slice (some ⟨b', 0, none⟩) L.length cap)
  have e1 := set4 Z1 (.int .i64 sg) (.int .i64 n) (.slice vra Rs.length vrc) (.slice (some ⟨b', 0, none⟩) L.length cap)
  have hne : w.heap.size + 1 ≠ w.heap.size := by omega
  have E2 := (((E1.far hne 0 (.int .i64 sg)).far hne 1 (.int .i64 n)).far hne 2 (.slice vra Rs.length vrc)).far hne 3 (.slice (some ⟨b', 0, none⟩) L.length cap)
  have hle : w.heap.size ≤ w.heap.size := Nat.le_refl _
  have HUf := gr_set (gr_set (gr_set (gr_set U1 hle (.int .i64 sg) (p := ⟨w.heap.size, 0, none⟩)) hle (.int .i64 n) (p := ⟨w.heap.size, 1, none⟩)) hle (.slice vra Rs.length vrc) (p := ⟨w.heap.size, 2, none⟩)) hle (.slice (some ⟨b', 0, none⟩) L.length cap) (p := ⟨w.heap.size, 3, none⟩)
  generalize (((w1.setCell ⟨w.heap.size, 0, none⟩ (.int .i64 sg)).setCell ⟨w.heap.size, 1, none⟩ (.int .i64 n)).setCell ⟨w.heap.size, 2, none⟩ (.slice vra Rs.length vrc)).setCell ⟨w.heap.size, 3, none⟩ (.slice (some ⟨b', 0, none⟩) L.length cap) = W3 at k1 k2 e1 E2 HUf ⊢
  have e2 := e1.far hne.symm 0 .nilIface
  have E3 := E2.set 0 .nilIface
  have k1' := k1.far E2 (by decide) (by decide) 0 .nilIface
  have k2' := k2.far E2 (by decide) (by decide) 0 .nilIface
  have HUg := gr_set HUf (show w.heap.size ≤ w.heap.size + 1 by omega) .nilIface (p := ⟨w.heap.size + 1, 0, none⟩)
  refine leaves_cons (f := 84) (args := #[.pointer (some ⟨w.heap.size + 1, 0, none⟩)]) (by simp) (by simp [go_sem]) ?_
  refine (catchF_idle ⟨w.heap.size + 1, 0, none⟩ _).mono ?_
  rintro e u' w2 ⟨rfl, rfl, rfl⟩
  have c0 := e2.cell 0
  have c1 := e2.cell 1
  have c2 := e2.cell 2
  have c3 := e2.cell 3
  have c4 := E3.cell 0
  simp at c0 c1 c2 c3 c4
  refine ⟨.tuple #[.agg #[.int .i64 sg, .int .i64 n, .slice vra Rs.length vrc, .slice (some ⟨b', 0, none⟩) L.length cap], .nilIface], by simp [results, Tryd.results61, go_sem, c0, c1, c2, c3, c4], _, b', cap, T, rfl, k1'.base hsz, k2', hc1, hc2, by omega, hsep, HUg⟩

set_option maxRecDepth 100000 in
set_option maxHeartbeats 1000000 in
theorem orErrF_err (kf : Nat) (pv : Value) (w : World) (hC : ∀ W, Below w.heap.size w W → Calls Tryd.prog 62 #[.pointer (some ⟨kf, 0, none⟩)] W (PanOut pv W)) :
    Calls Tryd.prog 61 #[.func (.func 62) #[] #[.pointer (some ⟨kf, 0, none⟩)]] w fun e w' => e = .returned (.tuple #[.agg #[.int .i64 0, .int .i64 0, .slice none 0 0, .slice none 0 0], .iface 129 pv]) ∧ Below w.heap.size w w' := by
  have hmf : ∀ (fn : Fn) (first cap : Array Value) (w : World), (Instr.makeFunc fn first cap).run Tryd.prog w = .ok (.func fn first cap) w := fun _ _ _ _ => rfl
  have H := hid hC
  clear hC
  have Z0 := (Bx.new w #[.int .i64 0, .int .i64 0, .slice none 0 0, .slice none 0 0] 86).alloc (.cells #[.nilIface] 60)
  have E0 := Bx.new (w.alloc (.cells #[.int .i64 0, .int .i64 0, .slice none 0 0, .slice none 0 0] 86)) #[.nilIface] 60
  have U0 := gr_alloc (gr_alloc (Below.refl w.heap.size w) (.cells #[.int .i64 0, .int .i64 0, .slice none 0 0, .slice none 0 0] 86)) (.cells #[.nilIface] 60)
  simp only [World.size_alloc] at E0
  go_enter_defers Tryd.func61, Tryd.ntmps61
  go_wp2_with fail
  refine (H.out _ U0).mono ?_
  rintro e w1 ⟨rfl, hb1⟩
  have Z1 := Z0.next hb1
  have E1 := E0.next hb1
  have U1 := gr_trans U0 hb1
  have e0 := E1.cell 0
  have f0 := E1.frozen 0
  refine leaves_cons (f := 84) (args := #[.pointer (some ⟨w.heap.size + 1, 0, none⟩)]) (by simp) (by simp [go_sem]) ?_
  refine (catchF_panic ⟨w.heap.size + 1, 0, none⟩ .nilIface pv [] _ (by rw [e0]; rfl) f0).mono ?_
  rintro e u' w2 ⟨rfl, rfl, rfl⟩
  have hne : w.heap.size ≠ w.heap.size + 1 := by omega
  have Z2 := Z1.far hne 0 (.iface 129 pv)
  have E3 := E1.set 0 (.iface 129 pv)
  have c0 := Z2.cell 0
  have c1 := Z2.cell 1
  have c2 := Z2.cell 2
  have c3 := Z2.cell 3
  have c4 := E3.cell 0
  simp at c0 c1 c2 c3 c4
  refine ⟨.tuple #[.agg #[.int .i64 0, .int .i64 0, .slice none 0 0, .slice none 0 0], .iface 129 pv], by simp [results, Tryd.results61, go_sem, c0, c1, c2, c3, c4], rfl, ?_⟩
  exact gr_set U1 (show w.heap.size ≤ w.heap.size + 1 by omega) _ (p := ⟨w.heap.size + 1, 0, none⟩)

/-- What FactorForm answers. -/
def FfOut (k sg n : Int) (Rs : List (List Int)) (L : List Int) (w : World) (e : Ending) (w' : World) : Prop :=
  Below w.heap.size w w' ∧ ((k ≠ 0 ∧ e = .returned (.tuple #[.int .i64 0, .int .i64 0, .slice none 0 0, .slice none 0 0, .int .i64 k])) ∨
    (k = 0 ∧ ∃ vr b cap T, e = .returned (.tuple #[.int .i64 sg, .int .i64 n, vr, .slice (some ⟨b, 0, none⟩) L.length cap, .int .i64 0]) ∧ Rwb w.heap.size w' vr 2 Rs T ∧ RB w' b L ∧ L.length ≤ cap ∧ cap ≤ maxLen ∧ w.heap.size ≤ b ∧ (∀ t ∈ T, t ≠ b)))

set_option maxRecDepth 100000 in
set_option maxHeartbeats 4000000 in
theorem iFactorForm_any (a b c d : Int) (pv : Value) (w : World) (hg : Sen w pv) : Calls Tryd.prog 26 #[.agg #[.int .i64 a, .int .i64 b, .int .i64 c, .int .i64 d]] w (FfOut (rrc a b c d) (fsg (fac a b c d).2) (cnt a b c d) (fac a b c d).1 (frs (fac a b c d).2) w) := by
  have hmf : ∀ (fn : Fn) (first cap : Array Value) (w : World), (Instr.makeFunc fn first cap).run Tryd.prog w = .ok (.func fn first cap) w := fun _ _ _ _ => rfl
  have HC := hid (fun W => iIsForm_any a b c d W)
  have F0 := Bx.new w #[.int .i64 a, .int .i64 b, .int .i64 c, .int .i64 d] 25
  have U0 := gr_alloc (Below.refl w.heap.size w) (.cells #[.int .i64 a, .int .i64 b, .int .i64 c, .int .i64 d] 25)
  have G0 := hg.alloc (.cells #[.int .i64 a, .int .i64 b, .int .i64 c, .int .i64 d] 25)
  have q1 := ne_nilI
  have q2 := ne_errI pv
  go_enter Tryd.func26, Tryd.ntmps26
  obtain ⟨_, c0, c1, c2, c3, _⟩ := F0.arr4
  go_wp2_with fail
  refine (HC.out _).mono ?_
  rintro e w1 ⟨rfl, hb1⟩
  have F1 := F0.next hb1
  have U1 := gr_trans U0 hb1
  have G1 := G0.next hb1
  clear c0 c1 c2 c3 F0 U0 G0
  cases hF : isF a b c d with
  | true =>
    cases hN : mul0 (cnt a b c d) 0 with
    | true =>
      have HE := hid (rrc_5 hF hN)
      have HO := hid (orErrF_err w.heap.size pv w1 (fun W hb => fc1_err w.heap.size a b c d pv W (G1.next hb) (F1.next hb) hF hN))
      clear hN
      go_wp2_with fail
      refine HO.out.mono ?_
      rintro e w2 ⟨rfl, hb2⟩
      go_wp2_with fail
      refine bodyPost_ret (by simp [results, Tryd.results26, go_sem]; try rfl) rfl ?_
      rw [HE.out]
      exact ⟨gr_alloc (gr_trans U1 hb2) _, .inl ⟨by decide, rfl⟩⟩
    | false =>
      have HE := hid (rrc_0 hF hN)
      have HO := hid (orErrF_ok w.heap.size (cnt a b c d) (fsg (fac a b c d).2) (fac a b c d).1 (frs (fac a b c d).2) w1 (fun W hb => fc1_ok w.heap.size a b c d W (F1.next hb) hF hN))
      clear hN
      obtain ⟨n, hn⟩ : ∃ n, n = cnt a b c d := ⟨_, rfl⟩
      obtain ⟨sg, hsg⟩ : ∃ n, n = fsg (fac a b c d).2 := ⟨_, rfl⟩
      obtain ⟨L, hL⟩ : ∃ n, n = frs (fac a b c d).2 := ⟨_, rfl⟩
      obtain ⟨Rs, hRs⟩ : ∃ n, n = (fac a b c d).1 := ⟨_, rfl⟩
      rw [← hn, ← hsg, ← hL, ← hRs] at HO
      have K1 := hid hn; have K2 := hid hsg; have K3 := hid hL; have K4 := hid hRs
      clear hn hsg hL hRs
      go_wp2_with fail
      refine HO.out.mono ?_
      rintro e w2 ⟨vr, b', cap, T, rfl, hr, hb, hc1, hc2, hlo, hsep, hb2⟩
      obtain ⟨vra, vrc, rfl⟩ := hr.form
      have hz1 := U1.size
      have V := Bx.new w2 #[.int .i64 sg, .int .i64 n, .slice vra Rs.length vrc, .slice (some ⟨b', 0, none⟩) L.length cap] 86
      have hr' := hr.next ((Below.refl _ w2).alloc (Nat.le_refl _) (.cells #[.int .i64 sg, .int .i64 n, .slice vra Rs.length vrc, .slice (some ⟨b', 0, none⟩) L.length cap] 86))
      have hb' := hb.next ((Below.refl _ w2).alloc (Nat.le_refl _) (.cells #[.int .i64 sg, .int .i64 n, .slice vra Rs.length vrc, .slice (some ⟨b', 0, none⟩) L.length cap] 86))
      have U3 := gr_alloc (gr_trans U1 hb2) (.cells #[.int .i64 sg, .int .i64 n, .slice vra Rs.length vrc, .slice (some ⟨b', 0, none⟩) L.length cap] 86)
      have HR := hid hr'; have HB := hid hb'; have HU := hid U3; have HSP := hid hsep
      clear hr' hb' U3 hr hb hb2 U1 G1 F1 hsep
      go_wp2_with fail
      generalize hk : w2.heap.size = k at V ⊢
      generalize w2.alloc (.cells #[.int .i64 sg, .int .i64 n, .slice vra Rs.length vrc, .slice (some ⟨b', 0, none⟩) L.length cap] 86) = W3 at V HR HB HU ⊢
      have c0 := V.cell 0
      have c1 := V.cell 1
      have c2 := V.cell 2
      have c3 := V.cell 3
      simp at c0 c1 c2 c3
      go_quiet (fail)
      rename_i nq
      have HU2 := hid (gr_drewN HU.out nq)
      have HR2 := hid (HR.out.next (gr_drewN (Below.refl _ _) nq))
      have HB2 := hid (HB.out.next (gr_drewN (Below.refl _ _) nq))
      go_wp2_with fail
      refine bodyPost_ret (by simp [results, Tryd.results26, go_sem]; try rfl) rfl ?_
      rw [HE.out, ← K1.out, ← K2.out, ← K3.out, ← K4.out]
      exact ⟨HU2.out, .inr ⟨rfl, _, b', cap, T, rfl, HR2.out.base hz1, HB2.out, hc1, hc2, by omega, HSP.out⟩⟩
  | false =>
    have HE := hid (rrc_n hF)
    go_wp2_with fail
    refine bodyPost_ret (by simp [results, Tryd.results26, go_sem]; try rfl) rfl ?_
    rw [HE.out]
    exact ⟨U1, .inl ⟨by decide, rfl⟩⟩


end Go.Proofs.YthheongdgcfngaaDoor
