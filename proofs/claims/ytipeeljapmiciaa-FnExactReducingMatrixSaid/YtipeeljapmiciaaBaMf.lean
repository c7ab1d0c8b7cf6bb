/- Chapter 2: the least of a row of forms, of matrices. -/
import Derived.Test.YtipeeljapmiciaaBaMr
import Derived.Test.YtipeeljapmiciaaBaZ12
import Derived.Laws.EntriesVeiled
namespace Go.Proofs.Ytipeeljapmiciaa
open Go.RowKit

/-- A row that can be read: four numbers a place. -/
def Rd4 (w : World) (v : Value) (L : List Red.F4) : Prop := ∃ g cap, v = .slice (some ⟨g, 0, none⟩) L.length cap ∧ L.length ≤ cap ∧ cap ≤ maxLen ∧ ∀ k q, L[k]? = some q → At4 w g (k * 4) q.1 q.2.1 q.2.2.1 q.2.2.2
theorem Rd4.of {w : World} {B : Nat} {T : TypeId} {v : Value} {L : List Red.F4} (h : w.ownsRow B T 4 v L.length (L.flatMap hm4)) (hne : L ≠ []) : Rd4 w v L := by
  have hpos : 0 < L.length := List.length_pos_iff.2 hne
  rcases h.2 with ⟨_, hn⟩ | ⟨g, cap, cur, rfl, hb, hg, hnc, hcm, hs, ht⟩
  · omega
  · have hlt := (Array.getElem?_eq_some_iff.1 hg).1
    refine ⟨g, cap, rfl, hnc, hcm, fun k q hk => ?_⟩
    have hkl := (List.getElem?_eq_some_iff.1 hk).1
    have key : ∀ i, i < 4 * L.length → w.cell? ⟨g, i, none⟩ = some (.int .i64 ((L.flatMap gm4).getD i 0)) := fun i hi => by
      have hl := gm4_len L
      have hx : (L.flatMap hm4)[i]? = some (.int .i64 ((L.flatMap gm4).getD i 0)) := by
        have hlt : i < (L.flatMap gm4).length := by omega
        rw [hm4_map, List.getElem?_map, List.getElem?_eq_getElem hlt]
        simp only [Option.map_some, List.getD, List.getElem?_eq_getElem hlt, Option.getD_some]
      rw [← ht, List.getElem?_take] at hx
      split at hx
      · simp [World.cell?, hg]
        simpa using hx
      · cases hx
    obtain ⟨e0, e1, e2, e3⟩ := flat_at hk
    refine ⟨hlt, ?_, ?_, ?_, ?_⟩
    · rw [← e0]; exact key (k * 4) (by omega)
    · rw [← e1]; exact key (k * 4 + 1) (by omega)
    · rw [← e2]; exact key (k * 4 + 2) (by omega)
    · rw [← e3]; exact key (k * 4 + 3) (by omega)
theorem Rd4.next {w w' : World} {v : Value} {L : List Red.F4} (h : Rd4 w v L) (hb : Below w.heap.size w w') : Rd4 w' v L := by
  obtain ⟨g, cap, h1, h2, h3, h4⟩ := h
  exact ⟨g, cap, h1, h2, h3, fun k q hk => (h4 k q hk).next hb (h4 k q hk).lt⟩
namespace Rd
def mnS (m y : Red.F4) : Red.F4 := if cm4 y m < 0 then y else m
/-- The first of the least. -/
def mn : List Red.F4 → Red.F4
  | [] => (0, 0, 0, 0)
  | x :: r => r.foldl mnS x
theorem mn_snoc {l : List Red.F4} (hl : l ≠ []) (q : Red.F4) : mn (l ++ [q]) = mnS (mn l) q := by
  cases l with
  | nil => exact absurd rfl hl
  | cons x r => simp [mn]
end Rd
theorem Arr.oth4M {w : World} {j i : Nat} {a b c d : Int} (h : Arr w j a b c d) (hne : j ≠ i) (x y z u : Value) : Arr ((((w.setCell ⟨i, 0, none⟩ x).setCell ⟨i, 1, none⟩ y).setCell ⟨i, 2, none⟩ z).setCell ⟨i, 3, none⟩ u) j a b c d :=
  (((h.oth (p := ⟨i, 0, none⟩) hne _).oth (p := ⟨i, 1, none⟩) hne _).oth (p := ⟨i, 2, none⟩) hne _).oth (p := ⟨i, 3, none⟩) hne _
theorem cells8M {W : World} {i o j : Nat} {a b c d p q r s : Int} (A : At4 W i o a b c d) (B : Arr W j p q r s) :
    W.cell? ⟨i, o, none⟩ = some (.int .i64 a) ∧ W.cell? ⟨i, o + 1, none⟩ = some (.int .i64 b) ∧ W.cell? ⟨i, o + 2, none⟩ = some (.int .i64 c) ∧ W.cell? ⟨i, o + 3, none⟩ = some (.int .i64 d) ∧ W.cell? ⟨j, 0, none⟩ = some (.int .i64 p) ∧ W.cell? ⟨j, 1, none⟩ = some (.int .i64 q) ∧ W.cell? ⟨j, 2, none⟩ = some (.int .i64 r) ∧ W.cell? ⟨j, 3, none⟩ = some (.int .i64 s) :=
  ⟨A.c0, A.c1, A.c2, A.c3, B.c0, B.c1, B.c2, B.c3⟩

set_option maxRecDepth 100000 in
set_option maxHeartbeats 4000000 in
theorem minF_any (v : Value) (L : List Red.F4) (hne : L ≠ []) (hlen : L.length ≤ 1000000) (w : World) (h : Rd4 w v L) :
    Calls Try.prog 71 #[v, .func (.func 50) #[] #[]] w fun e w' => e = .returned (vF (Rd.mn L)) ∧ Below w.heap.size w w' := by
  obtain ⟨g, cap, rfl, hc1, hc2, hat⟩ := h
  unfold maxLen at hc2
  have hpos : 0 < L.length := List.length_pos_iff.2 hne
  obtain ⟨q, hq⟩ : ∃ q, L[0]? = some q := ⟨_, List.getElem?_eq_getElem hpos⟩
  have A0 := hat 0 q hq
  have HAT := hid hat
  have HMN : Hid (Rd.mn (L.take 1) = q) := hid (by
    cases L with
    | nil => exact absurd rfl hne
    | cons x r => simp at hq; subst hq; simp [Rd.mn])
  have HLN := hid hlen
  have HNE := hid hne
  clear hat hlen hne hq
  generalize hn : L.length = n at *
  have HN := hid hn
  clear hn
  obtain ⟨q0, q1, q2, q3⟩ := q
  simp only [Nat.zero_mul] at A0
  have B0 := A0.alloc (.cells #[.int .i64 0, .int .i64 0, .int .i64 0, .int .i64 0] 23)
  have U0 := gr_alloc (Below.refl w.heap.size w) (.cells #[.int .i64 0, .int .i64 0, .int .i64 0, .int .i64 0] 23)
  have e1 : decide ((n : Int) < 1) = false := by simp; omega
  obtain ⟨_, a0, a1, a2, a3⟩ := id B0
  go_enter Try.func71, Try.ntmps71
  go_upto_region 4 with fail
  have M0 := Arr.new (w.alloc (.cells #[.int .i64 0, .int .i64 0, .int .i64 0, .int .i64 0] 23)) q0 q1 q2 q3 23
  simp only [World.size_alloc] at M0
  have R0 := (Arr.new w 0 0 0 0 23).alloc (.cells #[.int .i64 q0, .int .i64 q1, .int .i64 q2, .int .i64 q3] 23)
  have U1 := gr_alloc U0 (.cells #[.int .i64 q0, .int .i64 q1, .int .i64 q2, .int .i64 q3] 23)
  have hU1 : Below w.heap.size w ((w.alloc (.cells #[.int .i64 0, .int .i64 0, .int .i64 0, .int .i64 0] 23)).alloc (.cells #[.int .i64 q0, .int .i64 q1, .int .i64 q2, .int .i64 q3] 23)) := U1
  clear a0 a1 a2 a3 B0 U0 A0
  generalize (w.alloc (.cells #[.int .i64 0, .int .i64 0, .int .i64 0, .int .i64 0] 23)).alloc (.cells #[.int .i64 q0, .int .i64 q1, .int .i64 q2, .int .i64 q3] 23) = W0 at M0 R0 U1 hU1 ⊢
  clear hU1
  have HM0 := hid M0; have HR0 := hid R0; have HU1 := hid U1
  clear M0 R0 U1
  go_wp2_with fail
  go_loopw [6] (fun s6 wr => ∃ k : Nat, s6 = .int .i64 ((k : Int)) ∧ 1 ≤ k ∧ k ≤ n ∧ Arr wr (w.heap.size + 1) (Rd.mn (L.take k)).1 (Rd.mn (L.take k)).2.1 (Rd.mn (L.take k)).2.2.1 (Rd.mn (L.take k)).2.2.2 ∧ Arr wr w.heap.size 0 0 0 0 ∧ Below w.heap.size w wr) (fun s6 _ => n - (intOf s6).toNat)
  case atStart => exact ⟨1, rfl, Nat.le_refl _, hpos, by rw [HMN.out]; exact HM0.out, HR0.out, HU1.out⟩
  case round =>
    obtain ⟨k, rfl, hk1, hk, hM, hR, hU⟩ := hrel
    by_cases hlt : k < n
    · obtain ⟨y, hy⟩ : ∃ y, L[k]? = some y := ⟨_, List.getElem?_eq_getElem (by have := HN.out; omega)⟩
      have HT : Hid (Rd.mn (L.take (k + 1)) = Rd.mnS (Rd.mn (L.take k)) y) := hid (by
        rw [List.take_add_one, hy]
        exact Rd.mn_snoc (by intro e; have := congrArg List.length e; rw [List.length_take, HN.out] at this; simp only [List.length_nil] at this; omega) y)
      have Y0 := (HAT.out k y hy).next hU (HAT.out k y hy).lt
      clear hy
      generalize Rd.mn (L.take k) = m at HT hM
      obtain ⟨m0, m1, m2, m3⟩ := m
      obtain ⟨y0, y1, y2, y3⟩ := y
      dsimp only at hM Y0
      have hln := HLN.out
      have HM := hid hM; have HRr := hid hR; have HU := hid hU
      clear hM hR hU
      obtain ⟨_, c0, c1, c2, c3⟩ := id Y0
      obtain ⟨_, d0, d1, d2, d3, _⟩ := id HM.out
      have e2 : decide ((k : Int) < (n : Int)) = true := by simp; omega
      have hk0 : (0 : Int) ≤ (k : Int) := by omega
      have hkn : (k : Int) < (n : Int) := by omega
      go_upto_region 7 with fail
      go_region_held3 (fun W => W.cell? ⟨g, k * 4, none⟩ = some (.int .i64 y0) ∧ W.cell? ⟨g, k * 4 + 1, none⟩ = some (.int .i64 y1) ∧ W.cell? ⟨g, k * 4 + 2, none⟩ = some (.int .i64 y2) ∧ W.cell? ⟨g, k * 4 + 3, none⟩ = some (.int .i64 y3) ∧ W.cell? ⟨w.heap.size + 1, 0, none⟩ = some (.int .i64 m0) ∧ W.cell? ⟨w.heap.size + 1, 1, none⟩ = some (.int .i64 m1) ∧ W.cell? ⟨w.heap.size + 1, 2, none⟩ = some (.int .i64 m2) ∧ W.cell? ⟨w.heap.size + 1, 3, none⟩ = some (.int .i64 m3)) (first | exact cells8M Y5 M5 | exact cells8M (Y0.drew) (HM.out.drew)) ((go_at_call 50; refine (cmpF_any y0 y1 y2 y3 m0 m1 m2 m3 _).mono ?_; rintro e w5 ⟨rfl, hb5⟩; have Y5 := (Y0.drew).next hb5 (Y0.drew).lt; have M5 := (HM.out.drew).next hb5; have R5 := (HRr.out.drew).next hb5; have U5 := gr_trans (gr_drew HU.out) hb5))
      clear c0 c1 c2 c3 d0 d1 d2 d3 HM HRr HU Y0
      have HY5 := hid Y5; have HM5 := hid M5; have HR5 := hid R5; have HU5 := hid U5
      clear Y5 M5 R5 U5 hb5
      by_cases hz : Rd.cm4 (y0, y1, y2, y3) (m0, m1, m2, m3) < 0
      · have e3 : decide (Rd.cm4 (y0, y1, y2, y3) (m0, m1, m2, m3) < 0) = true := by simpa using hz
        have HT2 := hid (HT.out.trans (show Rd.mnS (m0, m1, m2, m3) (y0, y1, y2, y3) = (y0, y1, y2, y3) from if_pos hz))
        generalize Rd.cm4 (y0, y1, y2, y3) (m0, m1, m2, m3) = cz at *
        obtain ⟨_, c0, c1, c2, c3⟩ := id HY5.out
        obtain ⟨_, d0, d1, d2, d3, f0, f1, f2, f3⟩ := id HM5.out
        go_wp2_with fail
        have M6 := Arr.store4 HM5.out.box (x := y0) (y := y1) (z := y2) (u := y3)
        have R6 := HR5.out.oth4M (i := w.heap.size + 1) (by omega) (.int .i64 y0) (.int .i64 y1) (.int .i64 y2) (.int .i64 y3)
        go_roundw
        case rel => exact ⟨k + 1, by go_num, by omega, by omega, by rw [HT2.out]; exact M6, R6, by have hU5 := HU5.out; (repeat' (first | with_reducible exact Below.refl _ _ | with_reducible assumption | with_reducible refine gr_alloc ?_ _ | with_reducible refine gr_drew ?_ | with_reducible refine gr_drewN ?_ _ | with_reducible refine gr_trans ?_ (by assumption) | with_reducible refine gr_set ?_ ?_ _ | (simp; done) | omega | (simp; omega)))⟩
        case measure => simp [intOf]; omega
      · have e3 : decide (Rd.cm4 (y0, y1, y2, y3) (m0, m1, m2, m3) < 0) = false := by simpa using hz
        have HT2 := hid (HT.out.trans (show Rd.mnS (m0, m1, m2, m3) (y0, y1, y2, y3) = (m0, m1, m2, m3) from if_neg hz))
        generalize Rd.cm4 (y0, y1, y2, y3) (m0, m1, m2, m3) = cz at *
        go_wp2_with fail
        go_roundw
        case rel => exact ⟨k + 1, by go_num, by omega, by omega, by rw [HT2.out]; exact HM5.out, HR5.out, HU5.out⟩
        case measure => simp [intOf]; omega
    · have e2 : decide ((k : Int) < (n : Int)) = false := by simp; omega
      have hk' : k = n := by omega
      subst hk'
      have HE : Hid (L.take k = L) := hid (by rw [← HN.out, List.take_length])
      rw [HE.out] at hM
      generalize hmn : Rd.mn L = m at hM
      obtain ⟨m0, m1, m2, m3⟩ := m
      have HF := hid hmn
      clear hmn
      dsimp only at hM
      obtain ⟨_, d0, d1, d2, d3, f0, f1, f2, f3⟩ := id hM
      obtain ⟨_, x0, x1, x2, x3, g0, g1, g2, g3⟩ := id hR
      go_wp2_with fail
      refine bodyPost_ret (res_A1 (e := 2) rfl Try.underlying23 (by kernel_rfl) rfl (Arr.store4 hR.box)) rfl ?_
      exact ⟨by rw [HF.out]; rfl, by (repeat' (first | with_reducible exact Below.refl _ _ | with_reducible assumption | with_reducible refine gr_alloc ?_ _ | with_reducible refine gr_drew ?_ | with_reducible refine gr_drewN ?_ _ | with_reducible refine gr_trans ?_ (by assumption) | with_reducible refine gr_set ?_ ?_ _ | (simp; done) | omega | (simp; omega)))⟩

set_option maxRecDepth 100000 in
set_option maxHeartbeats 4000000 in
theorem minM_any (v : Value) (L : List Red.F4) (hne : L ≠ []) (hlen : L.length ≤ 1000000) (w : World) (h : Rd4 w v L) :
    Calls Try.prog 54 #[v, .func (.func 55) #[] #[]] w fun e w' => e = .returned (vF (Rd.mn L)) ∧ Below w.heap.size w w' := by
  obtain ⟨g, cap, rfl, hc1, hc2, hat⟩ := h
  unfold maxLen at hc2
  have hpos : 0 < L.length := List.length_pos_iff.2 hne
  obtain ⟨q, hq⟩ : ∃ q, L[0]? = some q := ⟨_, List.getElem?_eq_getElem hpos⟩
  have A0 := hat 0 q hq
  have HAT := hid hat
  have HMN : Hid (Rd.mn (L.take 1) = q) := hid (by
    cases L with
    | nil => exact absurd rfl hne
    | cons x r => simp at hq; subst hq; simp [Rd.mn])
  have HLN := hid hlen
  have HNE := hid hne
  clear hat hlen hne hq
  generalize hn : L.length = n at *
  have HN := hid hn
  clear hn
  obtain ⟨q0, q1, q2, q3⟩ := q
  simp only [Nat.zero_mul] at A0
  have B0 := A0.alloc (.cells #[.int .i64 0, .int .i64 0, .int .i64 0, .int .i64 0] 34)
  have U0 := gr_alloc (Below.refl w.heap.size w) (.cells #[.int .i64 0, .int .i64 0, .int .i64 0, .int .i64 0] 34)
  have e1 : decide ((n : Int) < 1) = false := by simp; omega
  obtain ⟨_, a0, a1, a2, a3⟩ := id B0
  go_enter Try.func54, Try.ntmps54
  go_upto_region 4 with fail
  have M0 := Arr.new (w.alloc (.cells #[.int .i64 0, .int .i64 0, .int .i64 0, .int .i64 0] 34)) q0 q1 q2 q3 34
  simp only [World.size_alloc] at M0
  have R0 := (Arr.new w 0 0 0 0 34).alloc (.cells #[.int .i64 q0, .int .i64 q1, .int .i64 q2, .int .i64 q3] 34)
  have U1 := gr_alloc U0 (.cells #[.int .i64 q0, .int .i64 q1, .int .i64 q2, .int .i64 q3] 34)
  have hU1 : Below w.heap.size w ((w.alloc (.cells #[.int .i64 0, .int .i64 0, .int .i64 0, .int .i64 0] 34)).alloc (.cells #[.int .i64 q0, .int .i64 q1, .int .i64 q2, .int .i64 q3] 34)) := U1
  clear a0 a1 a2 a3 B0 U0 A0
  generalize (w.alloc (.cells #[.int .i64 0, .int .i64 0, .int .i64 0, .int .i64 0] 34)).alloc (.cells #[.int .i64 q0, .int .i64 q1, .int .i64 q2, .int .i64 q3] 34) = W0 at M0 R0 U1 hU1 ⊢
  clear hU1
  have HM0 := hid M0; have HR0 := hid R0; have HU1 := hid U1
  clear M0 R0 U1
  go_wp2_with fail
  go_loopw [6] (fun s6 wr => ∃ k : Nat, s6 = .int .i64 ((k : Int)) ∧ 1 ≤ k ∧ k ≤ n ∧ Arr wr (w.heap.size + 1) (Rd.mn (L.take k)).1 (Rd.mn (L.take k)).2.1 (Rd.mn (L.take k)).2.2.1 (Rd.mn (L.take k)).2.2.2 ∧ Arr wr w.heap.size 0 0 0 0 ∧ Below w.heap.size w wr) (fun s6 _ => n - (intOf s6).toNat)
  case atStart => exact ⟨1, rfl, Nat.le_refl _, hpos, by rw [HMN.out]; exact HM0.out, HR0.out, HU1.out⟩
  case round =>
    obtain ⟨k, rfl, hk1, hk, hM, hR, hU⟩ := hrel
    by_cases hlt : k < n
    · obtain ⟨y, hy⟩ : ∃ y, L[k]? = some y := ⟨_, List.getElem?_eq_getElem (by have := HN.out; omega)⟩
      have HT : Hid (Rd.mn (L.take (k + 1)) = Rd.mnS (Rd.mn (L.take k)) y) := hid (by
        rw [List.take_add_one, hy]
        exact Rd.mn_snoc (by intro e; have := congrArg List.length e; rw [List.length_take, HN.out] at this; simp only [List.length_nil] at this; omega) y)
      have Y0 := (HAT.out k y hy).next hU (HAT.out k y hy).lt
      clear hy
      generalize Rd.mn (L.take k) = m at HT hM
      obtain ⟨m0, m1, m2, m3⟩ := m
      obtain ⟨y0, y1, y2, y3⟩ := y
      dsimp only at hM Y0
      have hln := HLN.out
      have HM := hid hM; have HRr := hid hR; have HU := hid hU
      clear hM hR hU
      obtain ⟨_, c0, c1, c2, c3⟩ := id Y0
      obtain ⟨_, d0, d1, d2, d3, _⟩ := id HM.out
      have e2 : decide ((k : Int) < (n : Int)) = true := by simp; omega
      have hk0 : (0 : Int) ≤ (k : Int) := by omega
      have hkn : (k : Int) < (n : Int) := by omega
      go_upto_region 7 with fail
      go_region_held3 (fun W => W.cell? ⟨g, k * 4, none⟩ = some (.int .i64 y0) ∧ W.cell? ⟨g, k * 4 + 1, none⟩ = some (.int .i64 y1) ∧ W.cell? ⟨g, k * 4 + 2, none⟩ = some (.int .i64 y2) ∧ W.cell? ⟨g, k * 4 + 3, none⟩ = some (.int .i64 y3) ∧ W.cell? ⟨w.heap.size + 1, 0, none⟩ = some (.int .i64 m0) ∧ W.cell? ⟨w.heap.size + 1, 1, none⟩ = some (.int .i64 m1) ∧ W.cell? ⟨w.heap.size + 1, 2, none⟩ = some (.int .i64 m2) ∧ W.cell? ⟨w.heap.size + 1, 3, none⟩ = some (.int .i64 m3)) (first | exact cells8M Y5 M5 | exact cells8M (Y0.drew) (HM.out.drew)) ((go_at_call 55; refine (cmpM_any y0 y1 y2 y3 m0 m1 m2 m3 _).mono ?_; rintro e w5 ⟨rfl, hb5⟩; have Y5 := (Y0.drew).next hb5 (Y0.drew).lt; have M5 := (HM.out.drew).next hb5; have R5 := (HRr.out.drew).next hb5; have U5 := gr_trans (gr_drew HU.out) hb5))
      clear c0 c1 c2 c3 d0 d1 d2 d3 HM HRr HU Y0
      have HY5 := hid Y5; have HM5 := hid M5; have HR5 := hid R5; have HU5 := hid U5
      clear Y5 M5 R5 U5 hb5
      by_cases hz : Rd.cm4 (y0, y1, y2, y3) (m0, m1, m2, m3) < 0
      · have e3 : decide (Rd.cm4 (y0, y1, y2, y3) (m0, m1, m2, m3) < 0) = true := by simpa using hz
        have HT2 := hid (HT.out.trans (show Rd.mnS (m0, m1, m2, m3) (y0, y1, y2, y3) = (y0, y1, y2, y3) from if_pos hz))
        generalize Rd.cm4 (y0, y1, y2, y3) (m0, m1, m2, m3) = cz at *
        obtain ⟨_, c0, c1, c2, c3⟩ := id HY5.out
        obtain ⟨_, d0, d1, d2, d3, f0, f1, f2, f3⟩ := id HM5.out
        go_wp2_with fail
        have M6 := Arr.store4 HM5.out.box (x := y0) (y := y1) (z := y2) (u := y3)
        have R6 := HR5.out.oth4M (i := w.heap.size + 1) (by omega) (.int .i64 y0) (.int .i64 y1) (.int .i64 y2) (.int .i64 y3)
        go_roundw
        case rel => exact ⟨k + 1, by go_num, by omega, by omega, by rw [HT2.out]; exact M6, R6, by have hU5 := HU5.out; (repeat' (first | with_reducible exact Below.refl _ _ | with_reducible assumption | with_reducible refine gr_alloc ?_ _ | with_reducible refine gr_drew ?_ | with_reducible refine gr_drewN ?_ _ | with_reducible refine gr_trans ?_ (by assumption) | with_reducible refine gr_set ?_ ?_ _ | (simp; done) | omega | (simp; omega)))⟩
        case measure => simp [intOf]; omega
      · have e3 : decide (Rd.cm4 (y0, y1, y2, y3) (m0, m1, m2, m3) < 0) = false := by simpa using hz
        have HT2 := hid (HT.out.trans (show Rd.mnS (m0, m1, m2, m3) (y0, y1, y2, y3) = (m0, m1, m2, m3) from if_neg hz))
        generalize Rd.cm4 (y0, y1, y2, y3) (m0, m1, m2, m3) = cz at *
        go_wp2_with fail
        go_roundw
        case rel => exact ⟨k + 1, by go_num, by omega, by omega, by rw [HT2.out]; exact HM5.out, HR5.out, HU5.out⟩
        case measure => simp [intOf]; omega
    · have e2 : decide ((k : Int) < (n : Int)) = false := by simp; omega
      have hk' : k = n := by omega
      subst hk'
      have HE : Hid (L.take k = L) := hid (by rw [← HN.out, List.take_length])
      rw [HE.out] at hM
      generalize hmn : Rd.mn L = m at hM
      obtain ⟨m0, m1, m2, m3⟩ := m
      have HF := hid hmn
      clear hmn
      dsimp only at hM
      obtain ⟨_, d0, d1, d2, d3, f0, f1, f2, f3⟩ := id hM
      obtain ⟨_, x0, x1, x2, x3, g0, g1, g2, g3⟩ := id hR
      go_wp2_with fail
      refine bodyPost_ret (res_A1 (e := 2) rfl Try.underlying34 (by kernel_rfl) rfl (Arr.store4 hR.box)) rfl ?_
      exact ⟨by rw [HF.out]; rfl, by (repeat' (first | with_reducible exact Below.refl _ _ | with_reducible assumption | with_reducible refine gr_alloc ?_ _ | with_reducible refine gr_drew ?_ | with_reducible refine gr_drewN ?_ _ | with_reducible refine gr_trans ?_ (by assumption) | with_reducible refine gr_set ?_ ?_ _ | (simp; done) | omega | (simp; omega)))⟩

end Go.Proofs.Ytipeeljapmiciaa
