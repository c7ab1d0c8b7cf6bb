/- Several texts in one: XMf, XRo2. -/
import Derived.Test.YtikmjefbjejbkaaBbZ19
import Derived.Test.YtikmjefbjejbkaaBbZ18
import Derived.Laws.EntriesVeiled

/- Chapter 2: the least of a row of forms, of matrices. -/
namespace Go.Proofs.Ytikmjefbjejbkaa
open Go.RowKit

/-- A row that can be read: four numbers a place. -/
def Rd4 (w : World) (v : Value) (L : List Red.F4) : Prop := ∃ g cap, v = .slice (some ⟨g, 0, none⟩) L.length cap ∧ L.length ≤ cap ∧ cap ≤ maxLen ∧ ∀ k q, L[k]? = some q → At4 w g (k * 4) q.1 q.2.1 q.2.2.1 q.2.2.2
theorem Rd4.of {w : World} {B : Nat} {T : TypeId} {v : Value} {L : List Red.F4} (h : w.ownsRow B T 4 v L.length (L.flatMap hm4)) (hne : L ≠ []) : Rd4 w v L := by
  have hpos : 0 < L.length := List.length_pos_iff.2 hne
  rcases h.2 with ⟨_, hn⟩ | ⟨g, cap, cur, rfl, hb, hg, hnc, hcm, hs, ht⟩
  · omega
  · have hlt := (Array.getElem?_eq_some_iff.1 hg).1
    refine ⟨g, cap, rfl, hnc, hcm, fun k q hk => ?_⟩
    have hkl := (List.getElem?_eq_some_iff.1 hk).1
    have key : ∀ i, i < 4 * L.length → w.cell? ⟨g, i, none⟩ = some (.int .i64 ((L.flatMap gm4).getD i 0)) := fun i hi => by
      have hl := gm4_len L
      have hx : (L.flatMap hm4)[i]? = some (.int .i64 ((L.flatMap gm4).getD i 0)) := by
        have hlt : i < (L.flatMap gm4).length := by omega
        rw [hm4_map, List.getElem?_map, List.getElem?_eq_getElem hlt]
        simp only [Option.map_some, List.getD, List.getElem?_eq_getElem hlt, Option.getD_some]
      rw [← ht, List.getElem?_take] at hx
      split at hx
      · simp [World.cell?, hg]
        simpa using hx
      · cases hx
    obtain ⟨e0, e1, e2, e3⟩ := flat_at hk
    refine ⟨hlt, ?_, ?_, ?_, ?_⟩
    · rw [← e0]; exact key (k * 4) (by omega)
    · rw [← e1]; exact key (k * 4 + 1) (by omega)
    · rw [← e2]; exact key (k * 4 + 2) (by omega)
    · rw [← e3]; exact key (k * 4 + 3) (by omega)
theorem Rd4.next {w w' : World} {v : Value} {L : List Red.F4} (h : Rd4 w v L) (hb : Below w.heap.size w w') : Rd4 w' v L := by
  obtain ⟨g, cap, h1, h2, h3, h4⟩ := h
  exact ⟨g, cap, h1, h2, h3, fun k q hk => (h4 k q hk).next hb (h4 k q hk).lt⟩
namespace Rd
def mnS (m y : Red.F4) : Red.F4 := if cm4 y m < 0 then y else m
/-- The first of the least. -/
def mn : List Red.F4 → Red.F4
  | [] => (0, 0, 0, 0)
  | x :: r => r.foldl mnS x
theorem mn_snoc {l : List Red.F4} (hl : l ≠ []) (q : Red.F4) : mn (l ++ [q]) = mnS (mn l) q := by
  cases l with
  | nil => exact absurd rfl hl
  | cons x r => simp [mn]
end Rd
theorem Arr.oth4M {w : World} {j i : Nat} {a b c d : Int} (h : Arr w j a b c d) (hne : j ≠ i) (x y z u : Value) : Arr ((((w.setCell ⟨i, 0, none⟩ x).setCell ⟨i, 1, none⟩ y).setCell ⟨i, 2, none⟩ z).setCell ⟨i, 3, none⟩ u) j a b c d :=
  (((h.oth (p := ⟨i, 0, none⟩) hne _).oth (p := ⟨i, 1, none⟩) hne _).oth (p := ⟨i, 2, none⟩) hne _).oth (p := ⟨i, 3, none⟩) hne _
theorem cells8M {W : World} {i o j : Nat} {a b c d p q r s : Int} (A : At4 W i o a b c d) (B : Arr W j p q r s) :
    W.cell? ⟨i, o, none⟩ = some (.int .i64 a) ∧ W.cell? ⟨i, o + 1, none⟩ = some (.int .i64 b) ∧ W.cell? ⟨i, o + 2, none⟩ = some (.int .i64 c) ∧ W.cell? ⟨i, o + 3, none⟩ = some (.int .i64 d) ∧ W.cell? ⟨j, 0, none⟩ = some (.int .i64 p) ∧ W.cell? ⟨j, 1, none⟩ = some (.int .i64 q) ∧ W.cell? ⟨j, 2, none⟩ = some (.int .i64 r) ∧ W.cell? ⟨j, 3, none⟩ = some (.int .i64 s) :=
  ⟨A.c0, A.c1, A.c2, A.c3, B.c0, B.c1, B.c2, B.c3⟩

set_option maxRecDepth 100000 in
set_option maxHeartbeats 4000000 in
theorem minF_any (v : Value) (L : List Red.F4) (hne : L ≠ []) (hlen : L.length ≤ 1000000) (w : World) (h : Rd4 w v L) :
    Calls Try.prog 100 #[v, .func (.func 68) #[] #[]] w fun e w' => e = .returned (vF (Rd.mn L)) ∧ Below w.heap.size w w' := by
  obtain ⟨g, cap, rfl, hc1, hc2, hat⟩ := h
  unfold maxLen at hc2
  have hpos : 0 < L.length := List.length_pos_iff.2 hne
  obtain ⟨q, hq⟩ : ∃ q, L[0]? = some q := ⟨_, List.getElem?_eq_getElem hpos⟩
  have A0 := hat 0 q hq
  have HAT := hid hat
  have HMN : Hid (Rd.mn (L.take 1) = q) := hid (by
    cases L with
    | nil => exact absurd rfl hne
    | cons x r => simp at hq; subst hq; simp [Rd.mn])
  have HLN := hid hlen
  have HNE := hid hne
  clear hat hlen hne hq
  generalize hn : L.length = n at *
  have HN := hid hn
  clear hn
  obtain ⟨q0, q1, q2, q3⟩ := q
  simp only [Nat.zero_mul] at A0
  have B0 := A0.alloc (.cells #[.int .i64 0, .int .i64 0, .int .i64 0, .int .i64 0] 26)
  have U0 := gr_alloc (Below.refl w.heap.size w) (.cells #[.int .i64 0, .int .i64 0, .int .i64 0, .int .i64 0] 26)
  have e1 : decide ((n : Int) < 1) = false := by simp; omega
  obtain ⟨_, a0, a1, a2, a3⟩ := id B0
  go_enter Try.func100, Try.ntmps100
  go_upto_region 4 with fail
  have M0 := Arr.new (w.alloc (.cells #[.int .i64 0, .int .i64 0, .int .i64 0, .int .i64 0] 26)) q0 q1 q2 q3 26
  simp only [World.size_alloc] at M0
  have R0 := (Arr.new w 0 0 0 0 26).alloc (.cells #[.int .i64 q0, .int .i64 q1, .int .i64 q2, .int .i64 q3] 26)
  have U1 := gr_alloc U0 (.cells #[.int .i64 q0, .int .i64 q1, .int .i64 q2, .int .i64 q3] 26)
  have hU1 : Below w.heap.size w ((w.alloc (.cells #[.int .i64 0, .int .i64 0, .int .i64 0, .int .i64 0] 26)).alloc (.cells #[.int .i64 q0, .int .i64 q1, .int .i64 q2, .int .i64 q3] 26)) := U1
  clear a0 a1 a2 a3 B0 U0 A0
  generalize (w.alloc (.cells #[.int .i64 0, .int .i64 0, .int .i64 0, .int .i64 0] 26)).alloc (.cells #[.int .i64 q0, .int .i64 q1, .int .i64 q2, .int .i64 q3] 26) = W0 at M0 R0 U1 hU1 ⊢
  clear hU1
  have HM0 := hid M0; have HR0 := hid R0; have HU1 := hid U1
  clear M0 R0 U1
  go_wp2_with fail
  go_loopw [6] (fun s6 wr => ∃ k : Nat, s6 = .int .i64 ((k : Int)) ∧ 1 ≤ k ∧ k ≤ n ∧ Arr wr (w.heap.size + 1) (Rd.mn (L.take k)).1 (Rd.mn (L.take k)).2.1 (Rd.mn (L.take k)).2.2.1 (Rd.mn (L.take k)).2.2.2 ∧ Arr wr w.heap.size 0 0 0 0 ∧ Below w.heap.size w wr) (fun s6 _ => n - (intOf s6).toNat)
  case atStart => exact ⟨1, rfl, Nat.le_refl _, hpos, by rw [HMN.out]; exact HM0.out, HR0.out, HU1.out⟩
  case round =>
    obtain ⟨k, rfl, hk1, hk, hM, hR, hU⟩ := hrel
    by_cases hlt : k < n
    · obtain ⟨y, hy⟩ : ∃ y, L[k]? = some y := ⟨_, List.getElem?_eq_getElem (by have := HN.out; omega)⟩
      have HT : Hid (Rd.mn (L.take (k + 1)) = Rd.mnS (Rd.mn (L.take k)) y) := hid (by
        rw [List.take_add_one, hy]
        exact Rd.mn_snoc (by intro e; have := congrArg List.length e; rw [List.length_take, HN.out] at this; simp only [List.length_nil] at this; omega) y)
      have Y0 := (HAT.out k y hy).next hU (HAT.out k y hy).lt
      clear hy
      generalize Rd.mn (L.take k) = m at HT hM
      obtain ⟨m0, m1, m2, m3⟩ := m
      obtain ⟨y0, y1, y2, y3⟩ := y
      dsimp only at hM Y0
      have hln := HLN.out
      have HM := hid hM; have HRr := hid hR; have HU := hid hU
      clear hM hR hU
      obtain ⟨_, c0, c1, c2, c3⟩ := id Y0
      obtain ⟨_, d0, d1, d2, d3, _⟩ := id HM.out
      have e2 : decide ((k : Int) < (n : Int)) = true := by simp; omega
      have hk0 : (0 : Int) ≤ (k : Int) := by omega
      have hkn : (k : Int) < (n : Int) := by omega
      go_upto_region 7 with fail
      go_region_held3 (fun W => W.cell? ⟨g, k * 4, none⟩ = some (.int .i64 y0) ∧ W.cell? ⟨g, k * 4 + 1, none⟩ = some (.int .i64 y1) ∧ W.cell? ⟨g, k * 4 + 2, none⟩ = some (.int .i64 y2) ∧ W.cell? ⟨g, k * 4 + 3, none⟩ = some (.int .i64 y3) ∧ W.cell? ⟨w.heap.size + 1, 0, none⟩ = some (.int .i64 m0) ∧ W.cell? ⟨w.heap.size + 1, 1, none⟩ = some (.int .i64 m1) ∧ W.cell? ⟨w.heap.size + 1, 2, none⟩ = some (.int .i64 m2) ∧ W.cell? ⟨w.heap.size + 1, 3, none⟩ = some (.int .i64 m3)) (first | exact cells8M Y5 M5 | exact cells8M (Y0.drew) (HM.out.drew)) ((go_at_call 68; refine (cmpF_any y0 y1 y2 y3 m0 m1 m2 m3 _).mono ?_; rintro e w5 ⟨rfl, hb5⟩; have Y5 := (Y0.drew).next hb5 (Y0.drew).lt; have M5 := (HM.out.drew).next hb5; have R5 := (HRr.out.drew).next hb5; have U5 := gr_trans (gr_drew HU.out) hb5))
      clear c0 c1 c2 c3 d0 d1 d2 d3 HM HRr HU Y0
      have HY5 := hid Y5; have HM5 := hid M5; have HR5 := hid R5; have HU5 := hid U5
      clear Y5 M5 R5 U5 hb5
      by_cases hz : Rd.cm4 (y0, y1, y2, y3) (m0, m1, m2, m3) < 0
      · have e3 : decide (Rd.cm4 (y0, y1, y2, y3) (m0, m1, m2, m3) < 0) = true := by simpa using hz
        have HT2 := hid (HT.out.trans (show Rd.mnS (m0, m1, m2, m3) (y0, y1, y2, y3) = (y0, y1, y2, y3) from if_pos hz))
        generalize Rd.cm4 (y0, y1, y2, y3) (m0, m1, m2, m3) = cz at *
        obtain ⟨_, c0, c1, c2, c3⟩ := id HY5.out
        obtain ⟨_, d0, d1, d2, d3, f0, f1, f2, f3⟩ := id HM5.out
        go_wp2_with fail
        have M6 := Arr.store4 HM5.out.box (x := y0) (y := y1) (z := y2) (u := y3)
        have R6 := HR5.out.oth4M (i := w.heap.size + 1) (by omega) (.int .i64 y0) (.int .i64 y1) (.int .i64 y2) (.int .i64 y3)
        go_roundw
        case rel => exact ⟨k + 1, by go_num, by omega, by omega, by rw [HT2.out]; exact M6, R6, by have hU5 := HU5.out; (repeat' (first | with_reducible exact Below.refl _ _ | with_reducible assumption | with_reducible refine gr_alloc ?_ _ | with_reducible refine gr_drew ?_ | with_reducible refine gr_drewN ?_ _ | with_reducible refine gr_trans ?_ (by assumption) | with_reducible refine gr_set ?_ ?_ _ | (simp; done) | omega | (simp; omega)))⟩
        case measure => simp [intOf]; omega
      · have e3 : decide (Rd.cm4 (y0, y1, y2, y3) (m0, m1, m2, m3) < 0) = false := by simpa using hz
        have HT2 := hid (HT.out.trans (show Rd.mnS (m0, m1, m2, m3) (y0, y1, y2, y3) = (m0, m1, m2, m3) from if_neg hz))
        generalize Rd.cm4 (y0, y1, y2, y3) (m0, m1, m2, m3) = cz at *
        go_wp2_with fail
        go_roundw
        case rel => exact ⟨k + 1, by go_num, by omega, by omega, by rw [HT2.out]; exact HM5.out, HR5.out, HU5.out⟩
        case measure => simp [intOf]; omega
    · have e2 : decide ((k : Int) < (n : Int)) = false := by simp; omega
      have hk' : k = n := by omega
      subst hk'
      have HE : Hid (L.take k = L) := hid (by rw [← HN.out, List.take_length])
      rw [HE.out] at hM
      generalize hmn : Rd.mn L = m at hM
      obtain ⟨m0, m1, m2, m3⟩ := m
      have HF := hid hmn
      clear hmn
      dsimp only at hM
      obtain ⟨_, d0, d1, d2, d3, f0, f1, f2, f3⟩ := id hM
      obtain ⟨_, x0, x1, x2, x3, g0, g1, g2, g3⟩ := id hR
      go_wp2_with fail
      refine bodyPost_ret (res_A1 (e := 2) rfl Try.underlying26 (by kernel_rfl) rfl (Arr.store4 hR.box)) rfl ?_
      exact ⟨by rw [HF.out]; rfl, by (repeat' (first | with_reducible exact Below.refl _ _ | with_reducible assumption | with_reducible refine gr_alloc ?_ _ | with_reducible refine gr_drew ?_ | with_reducible refine gr_drewN ?_ _ | with_reducible refine gr_trans ?_ (by assumption) | with_reducible refine gr_set ?_ ?_ _ | (simp; done) | omega | (simp; omega)))⟩

set_option maxRecDepth 100000 in
set_option maxHeartbeats 4000000 in
theorem minM_any (v : Value) (L : List Red.F4) (hne : L ≠ []) (hlen : L.length ≤ 1000000) (w : World) (h : Rd4 w v L) :
    Calls Try.prog 76 #[v, .func (.func 58) #[] #[]] w fun e w' => e = .returned (vF (Rd.mn L)) ∧ Below w.heap.size w w' := by
  obtain ⟨g, cap, rfl, hc1, hc2, hat⟩ := h
  unfold maxLen at hc2
  have hpos : 0 < L.length := List.length_pos_iff.2 hne
  obtain ⟨q, hq⟩ : ∃ q, L[0]? = some q := ⟨_, List.getElem?_eq_getElem hpos⟩
  have A0 := hat 0 q hq
  have HAT := hid hat
  have HMN : Hid (Rd.mn (L.take 1) = q) := hid (by
    cases L with
    | nil => exact absurd rfl hne
    | cons x r => simp at hq; subst hq; simp [Rd.mn])
  have HLN := hid hlen
  have HNE := hid hne
  clear hat hlen hne hq
  generalize hn : L.length = n at *
  have HN := hid hn
  clear hn
  obtain ⟨q0, q1, q2, q3⟩ := q
  simp only [Nat.zero_mul] at A0
  have B0 := A0.alloc (.cells #[.int .i64 0, .int .i64 0, .int .i64 0, .int .i64 0] 44)
  have U0 := gr_alloc (Below.refl w.heap.size w) (.cells #[.int .i64 0, .int .i64 0, .int .i64 0, .int .i64 0] 44)
  have e1 : decide ((n : Int) < 1) = false := by simp; omega
  obtain ⟨_, a0, a1, a2, a3⟩ := id B0
  go_enter Try.func76, Try.ntmps76
  go_upto_region 4 with fail
  have M0 := Arr.new (w.alloc (.cells #[.int .i64 0, .int .i64 0, .int .i64 0, .int .i64 0] 44)) q0 q1 q2 q3 44
  simp only [World.size_alloc] at M0
  have R0 := (Arr.new w 0 0 0 0 44).alloc (.cells #[.int .i64 q0, .int .i64 q1, .int .i64 q2, .int .i64 q3] 44)
  have U1 := gr_alloc U0 (.cells #[.int .i64 q0, .int .i64 q1, .int .i64 q2, .int .i64 q3] 44)
  have hU1 : Below w.heap.size w ((w.alloc (.cells #[.int .i64 0, .int .i64 0, .int .i64 0, .int .i64 0] 44)).alloc (.cells #[.int .i64 q0, .int .i64 q1, .int .i64 q2, .int .i64 q3] 44)) := U1
  clear a0 a1 a2 a3 B0 U0 A0
  generalize (w.alloc (.cells #[.int .i64 0, .int .i64 0, .int .i64 0, .int .i64 0] 44)).alloc (.cells #[.int .i64 q0, .int .i64 q1, .int .i64 q2, .int .i64 q3] 44) = W0 at M0 R0 U1 hU1 ⊢
  clear hU1
  have HM0 := hid M0; have HR0 := hid R0; have HU1 := hid U1
  clear M0 R0 U1
  go_wp2_with fail
  go_loopw [6] (fun s6 wr => ∃ k : Nat, s6 = .int .i64 ((k : Int)) ∧ 1 ≤ k ∧ k ≤ n ∧ Arr wr (w.heap.size + 1) (Rd.mn (L.take k)).1 (Rd.mn (L.take k)).2.1 (Rd.mn (L.take k)).2.2.1 (Rd.mn (L.take k)).2.2.2 ∧ Arr wr w.heap.size 0 0 0 0 ∧ Below w.heap.size w wr) (fun s6 _ => n - (intOf s6).toNat)
  case atStart => exact ⟨1, rfl, Nat.le_refl _, hpos, by rw [HMN.out]; exact HM0.out, HR0.out, HU1.out⟩
  case round =>
    obtain ⟨k, rfl, hk1, hk, hM, hR, hU⟩ := hrel
    by_cases hlt : k < n
    · obtain ⟨y, hy⟩ : ∃ y, L[k]? = some y := ⟨_, List.getElem?_eq_getElem (by have := HN.out; omega)⟩
      have HT : Hid (Rd.mn (L.take (k + 1)) = Rd.mnS (Rd.mn (L.take k)) y) := hid (by
        rw [List.take_add_one, hy]
        exact Rd.mn_snoc (by intro e; have := congrArg List.length e; rw [List.length_take, HN.out] at this; simp only [List.length_nil] at this; omega) y)
      have Y0 := (HAT.out k y hy).next hU (HAT.out k y hy).lt
      clear hy
      generalize Rd.mn (L.take k) = m at HT hM
      obtain ⟨m0, m1, m2, m3⟩ := m
      obtain ⟨y0, y1, y2, y3⟩ := y
      dsimp only at hM Y0
      have hln := HLN.out
      have HM := hid hM; have HRr := hid hR; have HU := hid hU
      clear hM hR hU
      obtain ⟨_, c0, c1, c2, c3⟩ := id Y0
      obtain ⟨_, d0, d1, d2, d3, _⟩ := id HM.out
      have e2 : decide ((k : Int) < (n : Int)) = true := by simp; omega
      have hk0 : (0 : Int) ≤ (k : Int) := by omega
      have hkn : (k : Int) < (n : Int) := by omega
      go_upto_region 7 with fail
      go_region_held3 (fun W => W.cell? ⟨g, k * 4, none⟩ = some (.int .i64 y0) ∧ W.cell? ⟨g, k * 4 + 1, none⟩ = some (.int .i64 y1) ∧ W.cell? ⟨g, k * 4 + 2, none⟩ = some (.int .i64 y2) ∧ W.cell? ⟨g, k * 4 + 3, none⟩ = some (.int .i64 y3) ∧ W.cell? ⟨w.heap.size + 1, 0, none⟩ = some (.int .i64 m0) ∧ W.cell? ⟨w.heap.size + 1, 1, none⟩ = some (.int .i64 m1) ∧ W.cell? ⟨w.heap.size + 1, 2, none⟩ = some (.int .i64 m2) ∧ W.cell? ⟨w.heap.size + 1, 3, none⟩ = some (.int .i64 m3)) (first | exact cells8M Y5 M5 | exact cells8M (Y0.drew) (HM.out.drew)) ((go_at_call 58; refine (cmpM_any y0 y1 y2 y3 m0 m1 m2 m3 _).mono ?_; rintro e w5 ⟨rfl, hb5⟩; have Y5 := (Y0.drew).next hb5 (Y0.drew).lt; have M5 := (HM.out.drew).next hb5; have R5 := (HRr.out.drew).next hb5; have U5 := gr_trans (gr_drew HU.out) hb5))
      clear c0 c1 c2 c3 d0 d1 d2 d3 HM HRr HU Y0
      have HY5 := hid Y5; have HM5 := hid M5; have HR5 := hid R5; have HU5 := hid U5
      clear Y5 M5 R5 U5 hb5
      by_cases hz : Rd.cm4 (y0, y1, y2, y3) (m0, m1, m2, m3) < 0
      · have e3 : decide (Rd.cm4 (y0, y1, y2, y3) (m0, m1, m2, m3) < 0) = true := by simpa using hz
        have HT2 := hid (HT.out.trans (show Rd.mnS (m0, m1, m2, m3) (y0, y1, y2, y3) = (y0, y1, y2, y3) from if_pos hz))
        generalize Rd.cm4 (y0, y1, y2, y3) (m0, m1, m2, m3) = cz at *
        obtain ⟨_, c0, c1, c2, c3⟩ := id HY5.out
        obtain ⟨_, d0, d1, d2, d3, f0, f1, f2, f3⟩ := id HM5.out
        go_wp2_with fail
        have M6 := Arr.store4 HM5.out.box (x := y0) (y := y1) (z := y2) (u := y3)
        have R6 := HR5.out.oth4M (i := w.heap.size + 1) (by omega) (.int .i64 y0) (.int .i64 y1) (.int .i64 y2) (.int .i64 y3)
        go_roundw
        case rel => exact ⟨k + 1, by go_num, by omega, by omega, by rw [HT2.out]; exact M6, R6, by have hU5 := HU5.out; (repeat' (first | with_reducible exact Below.refl _ _ | with_reducible assumption | with_reducible refine gr_alloc ?_ _ | with_reducible refine gr_drew ?_ | with_reducible refine gr_drewN ?_ _ | with_reducible refine gr_trans ?_ (by assumption) | with_reducible refine gr_set ?_ ?_ _ | (simp; done) | omega | (simp; omega)))⟩
        case measure => simp [intOf]; omega
      · have e3 : decide (Rd.cm4 (y0, y1, y2, y3) (m0, m1, m2, m3) < 0) = false := by simpa using hz
        have HT2 := hid (HT.out.trans (show Rd.mnS (m0, m1, m2, m3) (y0, y1, y2, y3) = (m0, m1, m2, m3) from if_neg hz))
        generalize Rd.cm4 (y0, y1, y2, y3) (m0, m1, m2, m3) = cz at *
        go_wp2_with fail
        go_roundw
        case rel => exact ⟨k + 1, by go_num, by omega, by omega, by rw [HT2.out]; exact HM5.out, HR5.out, HU5.out⟩
        case measure => simp [intOf]; omega
    · have e2 : decide ((k : Int) < (n : Int)) = false := by simp; omega
      have hk' : k = n := by omega
      subst hk'
      have HE : Hid (L.take k = L) := hid (by rw [← HN.out, List.take_length])
      rw [HE.out] at hM
      generalize hmn : Rd.mn L = m at hM
      obtain ⟨m0, m1, m2, m3⟩ := m
      have HF := hid hmn
      clear hmn
      dsimp only at hM
      obtain ⟨_, d0, d1, d2, d3, f0, f1, f2, f3⟩ := id hM
      obtain ⟨_, x0, x1, x2, x3, g0, g1, g2, g3⟩ := id hR
      go_wp2_with fail
      refine bodyPost_ret (res_A1 (e := 2) rfl Try.underlying44 (by kernel_rfl) rfl (Arr.store4 hR.box)) rfl ?_
      exact ⟨by rw [HF.out]; rfl, by (repeat' (first | with_reducible exact Below.refl _ _ | with_reducible assumption | with_reducible refine gr_alloc ?_ _ | with_reducible refine gr_drew ?_ | with_reducible refine gr_drewN ?_ _ | with_reducible refine gr_trans ?_ (by assumption) | with_reducible refine gr_set ?_ ?_ _ | (simp; done) | omega | (simp; omega)))⟩

end Go.Proofs.Ytikmjefbjejbkaa

/- Chapter 2: the order of four numbers; the least of a list; keys of the ways. Mathematics. -/
namespace Go.Proofs.Ytikmjefbjejbkaa
open Go.RowKit
namespace Rd
/-- x comes ahead of y. -/
def Ls (x y : Red.F4) : Prop := x.1 < y.1 ∨ x.1 = y.1 ∧ (x.2.1 < y.2.1 ∨ x.2.1 = y.2.1 ∧ (x.2.2.1 < y.2.2.1 ∨ x.2.2.1 = y.2.2.1 ∧ x.2.2.2 < y.2.2.2))
theorem ls_iff (x y : Red.F4) : ls x y = true ↔ Ls x y := by
  unfold ls Ls
  (repeat' split) <;> simp only [decide_eq_true_eq] <;> omega
theorem cm4_iff (x y : Red.F4) : cm4 x y < 0 ↔ Ls x y := by
  unfold cm4 Ls c3
  (repeat' split) <;> omega
theorem Ls.irrefl (x : Red.F4) : ¬ Ls x x := by unfold Ls; omega
theorem Ls.trans {x y z : Red.F4} (h : Ls x y) (k : Ls y z) : Ls x z := by unfold Ls at *; omega
theorem Ls.total {x y : Red.F4} (h : ¬ Ls x y) (k : ¬ Ls y x) : x = y := by
  unfold Ls at *
  refine Prod.ext ?_ (Prod.ext ?_ (Prod.ext ?_ ?_)) <;> omega
theorem Ls.ntrans {x y z : Red.F4} (h : ¬ Ls x y) (k : ¬ Ls y z) : ¬ Ls x z := by unfold Ls at *; omega
theorem mn_fold : ∀ (r : List Red.F4) (x : Red.F4), (r.foldl mnS x = x ∨ r.foldl mnS x ∈ r) ∧ ¬ Ls x (r.foldl mnS x) ∧ ∀ y ∈ r, ¬ Ls y (r.foldl mnS x)
  | [], x => ⟨.inl rfl, Ls.irrefl x, by simp⟩
  | z :: r, x => by
    obtain ⟨h1, h2, h3⟩ := mn_fold r (mnS x z)
    have hz : (mnS x z = x ∧ ¬ Ls z x) ∨ (mnS x z = z ∧ Ls z x) := by
      unfold mnS
      by_cases h : cm4 z x < 0
      · rw [if_pos h]; exact .inr ⟨rfl, (cm4_iff _ _).1 h⟩
      · rw [if_neg h]; exact .inl ⟨rfl, fun k => h ((cm4_iff _ _).2 k)⟩
    simp only [List.foldl_cons]
    rcases hz with ⟨e, hz⟩ | ⟨e, hz⟩
    · rw [e] at h1 h2 h3 ⊢
      refine ⟨h1.imp id (List.mem_cons_of_mem _), h2, fun y hy => ?_⟩
      rcases List.mem_cons.1 hy with rfl | hy
      · exact Ls.ntrans hz h2
      · exact h3 y hy
    · rw [e] at h1 h2 h3 ⊢
      refine ⟨.inr ?_, fun k => h2 (hz.trans k), fun y hy => ?_⟩
      · rcases h1 with h1 | h1
        · rw [h1]; simp
        · exact List.mem_cons_of_mem _ h1
      · rcases List.mem_cons.1 hy with rfl | hy
        · exact h2
        · exact h3 y hy
theorem mn_mem {l : List Red.F4} (h : l ≠ []) : mn l ∈ l ∧ ∀ y ∈ l, ¬ Ls y (mn l) := by
  cases l with
  | nil => exact absurd rfl h
  | cons x r =>
    obtain ⟨h1, h2, h3⟩ := mn_fold r x
    refine ⟨?_, fun y hy => ?_⟩
    · rcases h1 with h1 | h1
      · show r.foldl mnS x ∈ _
        rw [h1]; simp
      · exact List.mem_cons_of_mem _ h1
    · rcases List.mem_cons.1 hy with rfl | hy
      · exact h2
      · exact h3 y hy
/-- The least is one. -/
theorem mn_eq {l : List Red.F4} (h : l ≠ []) {x : Red.F4} (hx : x ∈ l) (hl : ∀ y ∈ l, ¬ Ls y x) : mn l = x := by
  obtain ⟨h1, h2⟩ := mn_mem h
  exact Ls.total (hl _ h1) (h2 x hx)
theorem mn_set {l l' : List Red.F4} (h : l ≠ []) (hs : ∀ x, x ∈ l ↔ x ∈ l') : mn l = mn l' := by
  have h' : l' ≠ [] := by
    intro e
    obtain ⟨h1, _⟩ := mn_mem h
    rw [hs, e] at h1; cases h1
  obtain ⟨h1, h2⟩ := mn_mem h'
  exact mn_eq h ((hs _).2 h1) (fun y hy => h2 y ((hs y).1 hy))
theorem addG_get : ∀ (G : List (Red.F4 × List Red.F4)) (k m : Red.F4), ∀ p ∈ addG G k m, p.1 ≠ k → p ∈ G
  | [], k, m, p, hp, hne => by simp [addG] at hp; subst hp; exact absurd rfl hne
  | (k', l) :: r, k, m, p, hp, hne => by
    unfold addG at hp
    split at hp
    · rename_i e; subst e
      rcases List.mem_cons.1 hp with rfl | hp
      · exact absurd rfl hne
      · exact List.mem_cons_of_mem _ hp
    · rcases List.mem_cons.1 hp with rfl | hp
      · simp
      · exact List.mem_cons_of_mem _ (addG_get r k m p hp hne)
theorem addG_len : ∀ (G : List (Red.F4 × List Red.F4)) (k m : Red.F4), (addG G k m).length ≤ G.length + 1
  | [], _, _ => by simp [addG]
  | (k', l) :: r, k, m => by
    unfold addG
    split
    · simp
    · have := addG_len r k m; simp; omega
/-- The keys are the reduced forms; the ways to one are told in the units' order. -/
theorem grp_keys (s : Bool) (T M : Red.F4) (us : List Red.F4) (q : Red.F4) : q ∈ (grp s T M us).map (·.1) ↔ ∃ u ∈ us, Red.rdF s (ch T u) = true ∧ ch T u = q := by
  have : ∀ vs : List Red.F4, q ∈ (grp s T M vs.reverse).map (·.1) ↔ ∃ u ∈ vs, Red.rdF s (ch T u) = true ∧ ch T u = q := by
    intro vs
    induction vs with
    | nil => simp [grp]
    | cons u vs ih =>
      rw [List.reverse_cons, grp_snoc]
      unfold oneG
      split
      · rename_i h
        rw [addG_keys, ih]
        constructor
        · rintro (⟨v, h1, h2⟩ | rfl)
          · exact ⟨v, by simp [h1], h2⟩
          · exact ⟨u, by simp, h, rfl⟩
        · rintro ⟨v, h1, h2, h3⟩
          rcases List.mem_cons.1 h1 with rfl | h1
          · exact .inr h3.symm
          · exact .inl ⟨v, h1, h2, h3⟩
      · rename_i h
        rw [ih]
        constructor
        · rintro ⟨v, h1, h2⟩; exact ⟨v, by simp [h1], h2⟩
        · rintro ⟨v, h1, h2, h3⟩
          rcases List.mem_cons.1 h1 with rfl | h1
          · exact absurd h2 h
          · exact ⟨v, h1, h2, h3⟩
  have h := this us.reverse
  rw [List.reverse_reverse] at h
  rw [h]
  constructor
  · rintro ⟨u, h1, h2⟩; exact ⟨u, by simpa using h1, h2⟩
  · rintro ⟨u, h1, h2⟩; exact ⟨u, by simpa using h1, h2⟩
theorem grp_num (s : Bool) (T M : Red.F4) (us : List Red.F4) : (grp s T M us).length ≤ us.length := by
  have : ∀ vs : List Red.F4, (grp s T M vs.reverse).length ≤ vs.length := by
    intro vs
    induction vs with
    | nil => simp [grp]
    | cons u vs ih =>
      rw [List.reverse_cons, grp_snoc]
      unfold oneG
      split
      · have := addG_len (grp s T M vs.reverse) (ch T u) (mm M u); simp; omega
      · simp; omega
  have h := this us.reverse
  rwa [List.reverse_reverse, List.length_reverse] at h
/-- The ways to q, in the units' order. -/
def wys (T M : Red.F4) (us : List Red.F4) (q : Red.F4) : List Red.F4 := (us.filter fun u => decide (ch T u = q)).map (mm M)
theorem grp_get (s : Bool) (T M : Red.F4) (us : List Red.F4) : ∀ p ∈ grp s T M us, Red.rdF s p.1 = true ∧ p.2 = wys T M us p.1 := by
  have kn : ∀ vs : List Red.F4, ((grp s T M vs).map (·.1)).Nodup := by
    intro vs
    have key : ∀ (G : List (Red.F4 × List Red.F4)) (k m : Red.F4), (G.map (·.1)).Nodup → ((addG G k m).map (·.1)).Nodup := by
      intro G k m
      induction G with
      | nil => intro _; simp [addG]
      | cons p r ih =>
        obtain ⟨k', l⟩ := p
        intro h
        simp only [List.map_cons, List.nodup_cons] at h
        unfold addG
        split
        · simpa using h
        · rename_i hne
          simp only [List.map_cons, List.nodup_cons]
          refine ⟨fun hm => ?_, ih h.2⟩
          rcases (addG_keys r k m k').1 hm with hm | hm
          · exact h.1 hm
          · exact hne hm.symm
    have : ∀ ws : List Red.F4, ((grp s T M ws.reverse).map (·.1)).Nodup := by
      intro ws
      induction ws with
      | nil => simp [grp]
      | cons u ws ih =>
        rw [List.reverse_cons, grp_snoc]
        unfold oneG
        split
        · exact key _ _ _ ih
        · exact ih
    have h := this vs.reverse
    rwa [List.reverse_reverse] at h
  have : ∀ vs : List Red.F4, ∀ p ∈ grp s T M vs.reverse, Red.rdF s p.1 = true ∧ p.2 = wys T M vs.reverse p.1 := by
    intro vs
    induction vs with
    | nil => intro p hp; simp [grp] at hp
    | cons u vs ih =>
      intro p hp
      rw [List.reverse_cons, grp_snoc] at hp
      rw [List.reverse_cons]
      have hw : wys T M (vs.reverse ++ [u]) p.1 = wys T M vs.reverse p.1 ++ (if ch T u = p.1 then [mm M u] else []) := by
        unfold wys
        rw [List.filter_append, List.map_append]
        congr 1
        by_cases h : ch T u = p.1
        · simp [h]
        · simp [h]
      unfold oneG at hp
      split at hp
      · rename_i hr
        by_cases e : p.1 = ch T u
        · -- the one that was added to
          rw [hw, if_pos e.symm]
          by_cases hk : ∃ l, (ch T u, l) ∈ grp s T M vs.reverse
          · obtain ⟨l, hl⟩ := hk
            obtain ⟨i, hi⟩ := List.mem_iff_getElem?.1 hl
            rw [addG_old (kn _) hi] at hp
            obtain ⟨j, hj⟩ := List.mem_iff_getElem?.1 hp
            have hil := (List.getElem?_eq_some_iff.1 hi).1
            by_cases eij : j = i
            · subst eij
              rw [List.getElem?_set_self hil] at hj
              simp at hj; subst hj
              refine ⟨hr, ?_⟩
              have := (ih _ hl).2
              dsimp only at this ⊢
              rw [this]
            · rw [List.getElem?_set_ne (fun h => eij h.symm)] at hj
              have h1 : ((grp s T M vs.reverse).map (·.1))[j]? = some (ch T u) := by rw [List.getElem?_map, hj]; simp [e]
              have h2 : ((grp s T M vs.reverse).map (·.1))[i]? = some (ch T u) := by rw [List.getElem?_map, hi]; rfl
              have hjl := (List.getElem?_eq_some_iff.1 h1).1
              exact absurd ((List.getElem?_inj hjl (kn _)).1 (h1.trans h2.symm)) eij
          · have hno : ∀ q ∈ (grp s T M vs.reverse).map (·.1), q ≠ ch T u := fun q hq e2 => by
              obtain ⟨p', hp', rfl⟩ := List.mem_map.1 hq
              exact hk ⟨p'.2, by rw [← e2]; exact hp'⟩
            rw [addG_new hno] at hp
            rcases List.mem_append.1 hp with h | h
            · exact absurd e (hno _ (List.mem_map.2 ⟨p, h, rfl⟩))
            · rw [List.mem_singleton] at h
              subst h
              refine ⟨hr, ?_⟩
              have hem : wys T M vs.reverse (ch T u) = [] := by
                unfold wys
                rw [List.map_eq_nil_iff, List.filter_eq_nil_iff]
                intro v hv hvq
                rw [decide_eq_true_eq] at hvq
                exact hno (ch T u) ((grp_keys s T M _ _).2 ⟨v, hv, by rw [hvq]; exact hr, hvq⟩) rfl
              dsimp only
              rw [hem]; rfl
        · have hp2 := addG_get _ _ _ p hp e
          obtain ⟨h1, h2⟩ := ih p hp2
          rw [hw, if_neg (fun h => e h.symm), List.append_nil]
          exact ⟨h1, h2⟩
      · rename_i hr
        obtain ⟨h1, h2⟩ := ih p hp
        rw [hw, if_neg (fun h => hr (by rw [h]; exact h1)), List.append_nil]
        exact ⟨h1, h2⟩
  have h := this us.reverse
  rwa [List.reverse_reverse] at h
/-- The normal form. -/
def nrm (s : Bool) (T : Red.F4) : Red.F4 := mn (((uni 81).filter fun u => Red.rdF s (ch T u)).map (ch T))
theorem nrm_has {s : Bool} {T : Red.F4} (hr : Red.rdF s T = true) : T ∈ ((uni 81).filter fun u => Red.rdF s (ch T u)).map (ch T) := by
  refine List.mem_map.2 ⟨(1, 0, 0, 1), ?_, ch_one T⟩
  rw [List.mem_filter, ch_one]
  exact ⟨uni_has (by unfold Sm; decide) (by decide), hr⟩
theorem nrm_grp {s : Bool} {T M : Red.F4} (hr : Red.rdF s T = true) : mn ((grp s T M (uni 81)).map (·.1)) = nrm s T := by
  unfold nrm
  refine (mn_set (by intro e; have := nrm_has hr; rw [e] at this; cases this) fun x => ?_).symm
  rw [grp_keys]
  simp only [List.mem_map, List.mem_filter]
  constructor
  · rintro ⟨u, ⟨h1, h2⟩, h3⟩; exact ⟨u, h1, h2, h3⟩
  · rintro ⟨u, h1, h2, h3⟩; exact ⟨u, ⟨h1, h2⟩, h3⟩
end Rd

end Go.Proofs.Ytikmjefbjejbkaa
