/- Several texts in one: XDraw23, XEq. -/
import Derived.Test.YtdogkkmdccieiaaDoorDraw22
import Derived.Test.YtdogkkmdccieiaaDoorAe
import Derived.Test.YtdogkkmdccieiaaDoorZ5
import Derived.Test.YtdogkkmdccieiaaDoorZ1

/- Draws of chapter 4: tables of three elements, or of four. -/
namespace Go.Proofs.YtdogkkmdccieiaaDoor
open Go.ChangeShapes Go.WideShapes Go.ChangeAt Go.RowKit

theorem Arr9.gk {k j : Nat} {u v : World} {p0 p1 p2 p3 p4 p5 p6 p7 p8 : Int} (hA : Arr9 u j p0 p1 p2 p3 p4 p5 p6 p7 p8) (h : Gk k u v) (hk : j ≠ k) : Arr9 v j p0 p1 p2 p3 p4 p5 p6 p7 p8 :=
  ⟨Nat.lt_of_lt_of_le hA.lt h.size, (h.cell (p := ⟨j, 0, none⟩) hA.lt hk).trans hA.c0, (h.cell (p := ⟨j, 1, none⟩) hA.lt hk).trans hA.c1, (h.cell (p := ⟨j, 2, none⟩) hA.lt hk).trans hA.c2, (h.cell (p := ⟨j, 3, none⟩) hA.lt hk).trans hA.c3, (h.cell (p := ⟨j, 4, none⟩) hA.lt hk).trans hA.c4, (h.cell (p := ⟨j, 5, none⟩) hA.lt hk).trans hA.c5, (h.cell (p := ⟨j, 6, none⟩) hA.lt hk).trans hA.c6, (h.cell (p := ⟨j, 7, none⟩) hA.lt hk).trans hA.c7, (h.cell (p := ⟨j, 8, none⟩) hA.lt hk).trans hA.c8⟩
/-- A list of at most four elements. -/
def ElsW (w : World) (e : Ending) (w' : World) : Prop := ∃ v n g, e = .returned v ∧ n ≤ 4 ∧ RdW w' v n g ∧ Below w.heap.size w w'
theorem OwnW.set {B : Nat} {w : World} {k cap n : Nat} {g : Nat → Int} (h : OwnW B w (.slice (some ⟨k, 0, none⟩) n cap) n g) {i : Nat} (hi : i < 3 * n) (x : Int) : OwnW B (w.setCell ⟨k, i, none⟩ (.int .i64 x)) (.slice (some ⟨k, 0, none⟩) n cap) n (fun j => if j = i then x else g j) := by
  rcases h with ⟨h, _⟩ | ⟨b, c, h1, h6, h2, h3, h5⟩
  · cases h
  · cases h1
    exact .inr ⟨k, cap, rfl, h6, h2, h3, h5.set hi x⟩
theorem OwnW.gk {B k : Nat} {u w : World} {v : Value} {n : Nat} {g : Nat → Int} (h : OwnW B u v n g) (hG : Gk k u w) (hk : k < B) : OwnW B w v n g := by
  rcases h with h | ⟨b, c, h1, h6, h2, h3, h5⟩
  · exact .inl h
  · exact .inr ⟨b, c, h1, h6, h2, h3, Nat.lt_of_lt_of_le h5.1 hG.size, fun i hi => ⟨(hG.cell (p := ⟨b, i, none⟩) h5.1 (by show b ≠ k; omega)).trans (h5.2 i hi).1, (hG.frozen (p := ⟨b, i, none⟩) h5.1 (by show b ≠ k; omega)).trans (h5.2 i hi).2⟩⟩
theorem OwnW.othE {B : Nat} {w : World} {b c n : Nat} {g : Nat → Int} (h : OwnW B w (.slice (some ⟨b, 0, none⟩) n c) n g) {p : Addr} (hp : b ≠ p.block) (x : Value) : OwnW B (w.setCell p x) (.slice (some ⟨b, 0, none⟩) n c) n g := by
  rcases h with ⟨h, _⟩ | ⟨b', c', h1, h6, h2, h3, h5⟩
  · cases h
  · cases h1
    refine .inr ⟨b, c, rfl, h6, h2, h3, by simpa using h5.1, fun i hi => ?_⟩
    have hne : p ≠ (⟨b, i, none⟩ : Addr) := fun e => hp (by rw [e])
    exact ⟨(World.cell?_setCell_other _ _ _ _ hne).trans (h5.2 i hi).1, (World.frozen?_setCell _ _ _ _).trans (h5.2 i hi).2⟩
theorem RowE.gk {B k : Nat} {u w : World} {v : Value} {L : List Ed} (h : RowE B u v L) (hG : Gk k u w) (hk : k < B) : RowE B w v L := by
  refine h.kept (row := some k) ⟨hG.os, hG.tape, hG.output, hG.size, fun j hj hne => hG.block j hj (by simpa using hne)⟩ ?_
  rcases h.2 with ⟨rfl, _⟩ | ⟨g, cap, cur, rfl, hb, _⟩
  · exact .inl rfl
  · right; simp [Value.ownBlock]; omega
theorem cells33k {W : World} {i j : Nat} {a b c d e f : Int} (K : Arr3 W i a b c) (L : Arr3 W j d e f) :
    W.cell? ⟨i, 0, none⟩ = some (.int .i64 a) ∧ W.cell? ⟨i, 1, none⟩ = some (.int .i64 b) ∧ W.cell? ⟨i, 2, none⟩ = some (.int .i64 c) ∧ W.cell? ⟨j, 0, none⟩ = some (.int .i64 d) ∧ W.cell? ⟨j, 1, none⟩ = some (.int .i64 e) ∧ W.cell? ⟨j, 2, none⟩ = some (.int .i64 f) := ⟨K.c0, K.c1, K.c2, L.c0, L.c1, L.c2⟩
/-- A product by a table, whatever it is. -/
theorem byE_any (k cap : Nat) (p0 p1 p2 p3 p4 p5 p6 p7 p8 x0 x1 x2 y0 y1 y2 : Int) (w : World) (hP : Arr9 w k p0 p1 p2 p3 p4 p5 p6 p7 p8) :
    Calls Tryd.prog 57 #[.slice (some ⟨k, 0, none⟩) 3 cap, .agg #[.int .i64 x0, .int .i64 x1, .int .i64 x2], .agg #[.int .i64 y0, .int .i64 y1, .int .i64 y2]] w fun e w' => (∃ p q r : Int, e = .returned (.agg #[.int .i64 p, .int .i64 q, .int .i64 r])) ∧ Below w.heap.size w w' :=
  (sBy_any k cap p0 p1 p2 p3 p4 p5 p6 p7 p8 x0 x1 x2 y0 y1 y2 w hP).mono fun _ _ h => ⟨⟨_, _, _, h.1⟩, h.2⟩

set_option maxRecDepth 100000 in
set_option maxHeartbeats 8000000 in
theorem drawTb_any (a : Option Addr) (len cap : Nat) (zs : List Int) (w : World) (hR : IsRow .u8 w a len cap zs) (hlen : len ≤ 9223372036854775807) :
    Calls Tryd.prog 66 #[.slice a len cap] w (ElsW w) := by
  go_enter Tryd.func66, Tryd.ntmps66
  go_wp2_with fail
  refine (from_any a len cap zs _ hR hlen).mono ?_
  rintro e w1 ⟨rfl, S1', U1⟩
  have S1 := hid S1'
  obtain ⟨ks, hks⟩ : ∃ k, k = w.heap.size := ⟨_, rfl⟩
  rw [← hks] at S1 ⊢
  have HK := hid hks
  clear S1' hR hks
  go_wp2_with fail
  refine (small_any _ a len cap zs _ S1.out).mono ?_
  rintro e w2 ⟨p, q, r, s, rfl, S2', G2⟩
  have S2 := hid (S2'.alloc (.cells #[.int .i64 p, .int .i64 q, .int .i64 r, .int .i64 s] 25))
  have U2 := gr_alloc (Gk.out U1 G2 (by have := HK.out; omega)) (.cells #[.int .i64 p, .int .i64 q, .int .i64 r, .int .i64 s] 25)
  have F2 := Arr.new w2 p q r s 25
  clear S2' G2 U1 S1
  obtain ⟨_, f0, f1, f2, f3, _⟩ := id F2
  go_wp2_with fail
  clear f0 f1 f2 f3
  refine (sTable_any p q r s _).mono ?_
  rintro e w3 ⟨kt, rfl, hkt, T3, hb3⟩
  generalize np p r = t0 at T3
  generalize ng p = t2 at T3
  generalize np p s = t3 at T3
  generalize np q s = t6 at T3
  generalize ng r = t8 at T3
  have S3 := hid (S2.out.below hb3)
  have U3 := gr_trans U2 hb3
  have hks3 : ks < kt := by have := S2.out.lt; omega
  clear S2 U2 hb3 F2 hkt
  go_wp2_with fail
  refine (part_any _ a len cap zs _ _ S3.out).mono ?_
  rintro e w4 ⟨g, rfl, S4', G4⟩
  have S4 := hid S4'
  have T4 : Arr9 w4 kt t0 q t2 t3 0 0 t6 s t8 := T3.gk G4 (by omega)
  have U4 := Gk.out U3 G4 (by have := HK.out; omega)
  clear S4' G4 S3 T3 U3
  go_wp2_with fail
  refine (part_any _ a len cap zs _ _ S4.out).mono ?_
  rintro e w5 ⟨h, rfl, S5', G5⟩
  have T5 : Arr9 w5 kt t0 q t2 t3 0 0 t6 s t8 := T4.gk G5 (by omega)
  have S5 := hid S5'
  have U5 := Gk.out U4 G5 (by have := HK.out; omega)
  clear S5' G5 S4 T4 U4
  have T6 := (T5.alloc (.cells #[.int .i64 h, .int .i64 1, .int .i64 0] 27)).alloc (.cells #[.int .i64 g, .int .i64 0, .int .i64 1] 27)
  have K6 := (Arr3.new w5 h 1 0 27).alloc (.cells #[.int .i64 g, .int .i64 0, .int .i64 1] 27)
  have L6 := Arr3.new (w5.alloc (.cells #[.int .i64 h, .int .i64 1, .int .i64 0] 27)) g 0 1 27
  have S6 := hid ((S5.out.alloc (.cells #[.int .i64 h, .int .i64 1, .int .i64 0] 27)).alloc (.cells #[.int .i64 g, .int .i64 0, .int .i64 1] 27))
  have U6 := gr_alloc (gr_alloc U5 (.cells #[.int .i64 h, .int .i64 1, .int .i64 0] 27)) (.cells #[.int .i64 g, .int .i64 0, .int .i64 1] 27)
  simp only [World.size_alloc] at L6
  clear T5 S5 U5
  go_upto_region 5 with fail
  generalize w5.heap.size = jk at K6 L6 ⊢
  generalize (w5.alloc (.cells #[.int .i64 h, .int .i64 1, .int .i64 0] 27)).alloc (.cells #[.int .i64 g, .int .i64 0, .int .i64 1] 27) = W at T6 K6 L6 S6 U6 ⊢
  obtain ⟨_, k0, k1, k2, _⟩ := id K6
  obtain ⟨_, l0, l1, l2, _⟩ := id L6
  have HB := hid (byE_any kt 3 t0 q t2 t3 0 0 t6 s t8)
  obtain ⟨B, hB', hB⟩ : ∃ B, B ≤ W.heap.size ∧ W.heap.size ≤ B := ⟨_, Nat.le_refl _, Nat.le_refl _⟩
  go_cut [10, 11] (fun s10 s11 wx => ∃ (jl jo : Nat), s10 = .slice (some ⟨jl, 0, none⟩) 3 3 ∧ s11 = .slice (some ⟨jo, 0, none⟩) 0 0 ∧ jl ≠ jo ∧ Nine wx jl ∧ RowE B wx s11 [] ∧ Below W.heap.size W wx)
  case first =>
    go_region_held3 (fun W => W.cell? ⟨jk, 0, none⟩ = some (.int .i64 h) ∧ W.cell? ⟨jk, 1, none⟩ = some (.int .i64 1) ∧ W.cell? ⟨jk, 2, none⟩ = some (.int .i64 0) ∧ W.cell? ⟨jk + 1, 0, none⟩ = some (.int .i64 g) ∧ W.cell? ⟨jk + 1, 1, none⟩ = some (.int .i64 0) ∧ W.cell? ⟨jk + 1, 2, none⟩ = some (.int .i64 1)) (refine cells33k ?_ ?_ <;> (repeat (first | with_reducible assumption | with_reducible exact Arr.box (by assumption) | with_reducible exact Box.new _ _ _ _ _ _ | with_reducible exact Arr.new _ _ _ _ _ _ | with_reducible refine Arr.drew ?_ | with_reducible refine Arr.drewN ?_ _ | with_reducible refine Arr.store4 ?_ | with_reducible refine Arr.alloc ?_ _ | with_reducible refine Box.drew ?_ | with_reducible refine Box.drewN ?_ _ | with_reducible refine Box.alloc ?_ _ | with_reducible refine Arr.next ?_ (by assumption) | with_reducible refine Box.next ?_ (by assumption) | refine Arr.oth ?_ (by first | (simp; done) | omega | (simp; omega)) _ | refine Box.oth ?_ (by first | (simp; done) | omega | (simp; omega)) _ | with_reducible exact Arr3.box (by assumption) | with_reducible exact Box3.new _ _ _ _ _ | with_reducible exact Arr3.new _ _ _ _ _ | with_reducible refine Arr3.drew ?_ | with_reducible refine Arr3.drewN ?_ _ | with_reducible refine Arr3.store3 ?_ | with_reducible refine Arr3.alloc ?_ _ | with_reducible refine Box3.drew ?_ | with_reducible refine Box3.drewN ?_ _ | with_reducible refine Box3.alloc ?_ _ | with_reducible refine Arr3.next ?_ (by assumption) | with_reducible refine Box3.next ?_ (by assumption) | refine Arr3.oth ?_ (by first | (simp; done) | omega | (simp; omega)) _ | refine Box3.oth ?_ (by first | (simp; done) | omega | (simp; omega)) _))) (first | (go_at_call 57; refine (HB.out _ _ _ _ _ _ _ (by (repeat (first | with_reducible assumption | with_reducible exact Arr9.new _ _ _ _ _ _ _ _ _ _ _ | with_reducible refine Arr9.drew ?_ | with_reducible refine Arr9.drewN ?_ _ | with_reducible refine Arr9.alloc ?_ _ | with_reducible refine Arr9.next ?_ (by assumption))))).mono ?_; rintro e wa ⟨⟨p1, q1, r1, rfl⟩, hba⟩; have hza := hba.size; (try simp at hza)))
    all_goals (go_wp2_with fail; go_meet; exact ⟨_, _, rfl, rfl, by (first | omega | (simp; omega) | (simp; done)), by (repeat (first | with_reducible assumption | with_reducible exact Nine.new _ _ _ _ _ _ _ _ _ _ _ _ (by first | rfl | (simp; done)) | with_reducible refine Nine.drew ?_ | with_reducible refine Nine.drewN ?_ _ | with_reducible refine Nine.alloc ?_ _ | with_reducible refine Nine.next ?_ (by assumption))), by (repeat (first | with_reducible assumption | with_reducible exact RowE.emptyk _ _ _ (by first | rfl | (simp; done)) (by first | assumption | omega | (simp; omega)) | with_reducible refine RowE.drew ?_ | with_reducible refine RowE.drewN ?_ _ | with_reducible refine RowE.alloc ?_ _ | with_reducible refine RowE.next ?_ (by assumption))), by (repeat' (first | with_reducible exact Below.refl _ _ | with_reducible assumption | with_reducible refine gr_alloc ?_ _ | with_reducible refine gr_drew ?_ | with_reducible refine gr_drewN ?_ _ | with_reducible refine gr_trans ?_ (by assumption) | with_reducible refine gr_set ?_ ?_ _ | (simp; done) | omega | (simp; omega)))⟩)
  case rest =>
    obtain ⟨jl, jo, rfl, rfl, hne, ⟨gl, C0⟩, E0, U0⟩ := hcut
    clear k0 k1 k2 l0 l1 l2 T6 K6 L6 HB
    go_wp2_with fail
    go_loopw [11, 12] (fun s11 s12 wr => ∃ (i : Nat) (L : List Ed) (b c : Nat), i ≤ 3 ∧ L.length = i ∧ s11 = .slice (some ⟨b, 0, none⟩) i c ∧ s12 = .int .i64 ((i : Int)) ∧ jl ≠ b ∧ Cl wr jl 9 gl ∧ RowE B wr s11 L ∧ Below W.heap.size W wr) (fun _ s12 _ => 3 - (intOf s12).toNat)
    case atStart => exact ⟨0, [], jo, 0, by omega, rfl, rfl, rfl, hne, C0, E0, U0⟩
    case round =>
      clear C0 E0 U0 hne
      obtain ⟨i, L, b, c, hi, hL, rfl, rfl, hne, C1, E1, U1⟩ := hrel
      by_cases hlt : i < 3
      · have c0 := (C1.2 (i * 3) (by omega)).1
        have c1 := (C1.2 (i * 3 + 1) (by omega)).1
        have c2 := (C1.2 (i * 3 + 2) (by omega)).1
        generalize gl (i * 3) = x at c0
        generalize gl (i * 3 + 1) = y at c1
        generalize gl (i * 3 + 2) = z at c2
        have X1 := Arr3.new wr x y z 27
        have C2 : Cl (wr.alloc (.cells #[.int .i64 x, .int .i64 y, .int .i64 z] 27)) jl 9 gl := C1.below (gr_alloc (Below.refl _ _) _)
        have E2 := hid (RowE.alloc E1 (.cells #[.int .i64 x, .int .i64 y, .int .i64 z] 27))
        have U2 := gr_alloc U1 (.cells #[.int .i64 x, .int .i64 y, .int .i64 z] 27)
        have HC := hid C2
        have HC := hid C2
        clear C1 C2 E1 U1
        go_upto_region 10 with fail
        clear c0 c1 c2
        generalize wr.heap.size = jx at X1 ⊢
        generalize wr.alloc (.cells #[.int .i64 x, .int .i64 y, .int .i64 z] 27) = W2 at X1 HC E2 U2 ⊢
        obtain ⟨_, x0, x1, x2, _⟩ := id X1
        have hz := U2.size
        have HL := hid hL
        clear hL
        go_wp2_with (at_builtin; refine app_e rfl _ _ rfl B rfl E2.out rfl (by have := HL.out; omega) (by omega) ?_)
        intro g' cap' w7 hrow hgrow hat hlt7
        have U7 := RowE.grown (W := W) (RowE.alloc E2.out _) (gr_alloc U2 _) hgrow (by omega)
        have hne' : jl ≠ g' := by
          rcases hat with h | h
          · have : b = g' := by simpa [Value.ownBlock] using h
            omega
          · have := HC.out.1; omega
        have C7 := Cl.grownE (HC.out.below (gr_alloc (Below.refl _ _) _)) hgrow (by simp [Value.ownBlock]; omega)
        clear hat hgrow hz X1 x0 x1 x2 HC E2 U2
        have hL7 := HL.out
        rw [hL7] at hrow ⊢
        go_wp2_with fail
        go_roundw
        case rel => exact ⟨i + 1, _, g', cap', by omega, by simp [hL7], rfl, by go_num, hne', C7, hrow, U7⟩
        case measure => simp [intOf]; omega
      · have hi3 : i = 3 := by omega
        subst hi3
        have O1 := hid (RowE.out E1)
        rw [hL] at O1
        have hlt' := hlt
        generalize (fun i => (L.flatMap ei3).getD i 0) = g0 at O1
        have hb1 : b < wr.heap.size ∧ B ≤ b := by
          rcases O1.out with ⟨h, _⟩ | ⟨b', c', h, h6, _, _, h5⟩
          · cases h
          · cases h; exact ⟨h5.1, h6⟩
        have hcap : 3 ≤ c ∧ c ≤ 9223372036854775807 := by
          rcases O1.out with ⟨h, _⟩ | ⟨b', c', h, h6, h7, h8, h5⟩
          · cases h
          · cases h; unfold maxLen at h8; exact ⟨h7, h8⟩
        have S7 := hid (S6.out.below U1)
        have U7 := gr_trans U6 U1
        have hbk : ks < b := by have := S6.out.lt; omega
        have hww : w.heap.size ≤ b := by have := U6.size; omega
        have hkB : ks < B := by have := S6.out.lt; omega
        have hBw := U1.size
        have HE := hid E1
        have hL3 := hid hL
        have HBB := hid hb1
        clear C1 E1 U1 hlt hlt' hL hne hb1
        go_wp2_with fail
        refine (next_any _ a len cap zs _ _ S7.out).mono ?_
        rintro e w8 ⟨x8, rfl, hx8, hy8, S8', G8⟩
        have S8 := hid S8'
        have U8 := Gk.out U7 G8 (by have := HK.out; omega)
        have O8 := hid (OwnW.gk O1.out G8 hkB)
        have hB8 : B ≤ w8.heap.size := by have := G8.size; omega
        have E8 := hid (RowE.gk HE.out G8 hkB)
        clear S8' G8 S7 U7 O1 HE
        by_cases h0 : x8 = 0
        · subst h0
          clear hx8 hy8 E8
          go_wp2_with fail
          refine (next_any _ a len cap zs _ _ S8.out).mono ?_
          rintro e w9 ⟨x9, rfl, hx9, hy9, S9', G9⟩
          obtain ⟨i9, rfl⟩ : ∃ i : Nat, x9 = i := ⟨x9.toNat, by omega⟩
          have hi9 : i9 < 3 := by omega
          have U9 := Gk.out U8 G9 (by have := HK.out; omega)
          have O9 := OwnW.gk O8.out G9 hkB
          have S9 := hid S9'
          clear S8 U8 O8 S9' G9 hx9 hy9
          obtain ⟨c0, c1, c2, hbw⟩ : w9.cell? ⟨b, i9 * 3, none⟩ = some (.int .i64 ((g0 (i9 * 3)))) ∧ w9.cell? ⟨b, i9 * 3 + 1, none⟩ = some (.int .i64 ((g0 (i9 * 3 + 1)))) ∧ w9.cell? ⟨b, i9 * 3 + 2, none⟩ = some (.int .i64 ((g0 (i9 * 3 + 2)))) ∧ b < w9.heap.size := by
            rcases O9 with ⟨h, _⟩ | ⟨b', c', h1, h6, h2, h3, h5⟩
            · cases h
            · cases h1; exact ⟨(h5.2 _ (by omega)).1, (h5.2 _ (by omega)).1, (h5.2 _ (by omega)).1, h5.1⟩
          generalize g0 (i9 * 3) = x at c0
          generalize g0 (i9 * 3 + 1) = y at c1
          generalize g0 (i9 * 3 + 2) = z at c2
          have X10 := Arr3.new w9 x y z 27
          have O10 := hid (O9.next (gr_alloc (Below.refl _ _) (.cells #[.int .i64 x, .int .i64 y, .int .i64 z] 27)))
          have S10 := hid (S9.out.alloc (.cells #[.int .i64 x, .int .i64 y, .int .i64 z] 27))
          have U10 := gr_alloc U9 (.cells #[.int .i64 x, .int .i64 y, .int .i64 z] 27)
          have hkw := S9.out.lt
          clear O9 S9 U9
          go_upto_region 14 with fail
          clear c0 c1 c2
          obtain ⟨jx, hjx⟩ : ∃ j, j = w9.heap.size := ⟨_, rfl⟩
          rw [← hjx] at X10 ⊢
          generalize w9.alloc (.cells #[.int .i64 x, .int .i64 y, .int .i64 z] 27) = W10 at X10 O10 S10 U10 ⊢
          have hjk : ks < jx := by omega
          have hjb : b < jx := by omega
          clear hjx hkw hbw
          go_wp2_with fail
          refine (next_any _ a len cap zs _ _ S10.out).mono ?_
          rintro e w11 ⟨x11, rfl, hx11, hy11, S11', G11⟩
          have U11 := Gk.out U10 G11 (by have := HK.out; omega)
          have O11 := hid (OwnW.gk O10.out G11 hkB)
          have X11 := X10.gk G11 (by omega)
          have S11 := hid S11'
          clear S10 U10 O10 X10 S11' G11
          go_wp2_with fail
          refine (part_any _ a len cap zs _ _ S11.out).mono ?_
          rintro e w12 ⟨x12, rfl, S12', G12⟩
          have U12 := Gk.out U11 G12 (by have := HK.out; omega)
          have O12 := hid (OwnW.gk O11.out G12 hkB)
          have X12 := X11.gk G12 (by omega)
          clear S11 U11 O11 X11 S12' G12
          have hxs : x11 = 0 ∨ x11 = 1 ∨ x11 = 2 := by omega
          clear hx11 hy11
          obtain ⟨_, y0, y1, y2, f0, f1, f2⟩ := id X12
          have hjw : w.heap.size ≤ jx := by omega
          have hc3 : 3 ≤ c := hcap.1
          rcases hxs with rfl | rfl | rfl
          · have X13 := X12.set0 x12
            have O13 := OwnW.othE O12.out (p := ⟨jx, 0, none⟩) (by simp; omega) (.int .i64 x12)
            have U13 := gr_set U12 (p := ⟨jx, 0, none⟩) hjw (.int .i64 x12)
            go_upto_region 15 with fail
            clear y0 y1 y2 f0 f1 f2
            generalize w12.setCell ⟨jx, 0, none⟩ (.int .i64 x12) = W13 at X13 O13 U13 ⊢
            have OZ := ((OwnW.set (i := 0) O13 (by omega) x12).set (i := 1) (by omega) y).set (i := 2) (by omega) z
            have HO := hid OZ.rd
            obtain ⟨f0, f1, f2, e0, e1, e2, f6, f7, f8, e6, e7, e8, hbw⟩ : W13.frozen? ⟨b, 0, none⟩ = false ∧ W13.frozen? ⟨b, 1, none⟩ = false ∧ W13.frozen? ⟨b, 2, none⟩ = false ∧ W13.cell? ⟨b, 0, none⟩ = some (.int .i64 ((g0 0))) ∧ W13.cell? ⟨b, 1, none⟩ = some (.int .i64 ((g0 1))) ∧ W13.cell? ⟨b, 2, none⟩ = some (.int .i64 ((g0 2))) ∧ W13.frozen? ⟨b, 6, none⟩ = false ∧ W13.frozen? ⟨b, 7, none⟩ = false ∧ W13.frozen? ⟨b, 8, none⟩ = false ∧ W13.cell? ⟨b, 6, none⟩ = some (.int .i64 ((g0 6))) ∧ W13.cell? ⟨b, 7, none⟩ = some (.int .i64 ((g0 7))) ∧ W13.cell? ⟨b, 8, none⟩ = some (.int .i64 ((g0 8))) ∧ b < W13.heap.size := by
              rcases O13 with ⟨h, _⟩ | ⟨b', c', h1, h6, h2, h3, h5⟩
              · cases h
              · cases h1; exact ⟨(h5.2 0 (by omega)).2, (h5.2 1 (by omega)).2, (h5.2 2 (by omega)).2, (h5.2 0 (by omega)).1, (h5.2 1 (by omega)).1, (h5.2 2 (by omega)).1, (h5.2 6 (by omega)).2, (h5.2 7 (by omega)).2, (h5.2 8 (by omega)).2, (h5.2 6 (by omega)).1, (h5.2 7 (by omega)).1, (h5.2 8 (by omega)).1, h5.1⟩
            obtain ⟨_, y0, y1, y2, g0, g1, g2⟩ := id X13
            clear O13 OZ O12 X12 U12
            go_wp2_with fail
            go_ret
            exact ⟨_, _, _, rfl, by omega, HO.out, by (repeat' (first | with_reducible exact Below.refl _ _ | with_reducible assumption | with_reducible refine gr_alloc ?_ _ | with_reducible refine gr_drew ?_ | with_reducible refine gr_drewN ?_ _ | with_reducible refine gr_trans ?_ (by assumption) | with_reducible refine gr_set ?_ ?_ _ | (simp; done) | omega | (simp; omega)))⟩
          · have X13 := X12.set1 x12
            have O13 := OwnW.othE O12.out (p := ⟨jx, 1, none⟩) (by simp; omega) (.int .i64 x12)
            have U13 := gr_set U12 (p := ⟨jx, 1, none⟩) hjw (.int .i64 x12)
            go_upto_region 15 with fail
            clear y0 y1 y2 f0 f1 f2
            generalize w12.setCell ⟨jx, 1, none⟩ (.int .i64 x12) = W13 at X13 O13 U13 ⊢
            have OZ := ((OwnW.set (i := 0) O13 (by omega) x).set (i := 1) (by omega) x12).set (i := 2) (by omega) z
            have HO := hid OZ.rd
            obtain ⟨f0, f1, f2, e0, e1, e2, f6, f7, f8, e6, e7, e8, hbw⟩ : W13.frozen? ⟨b, 0, none⟩ = false ∧ W13.frozen? ⟨b, 1, none⟩ = false ∧ W13.frozen? ⟨b, 2, none⟩ = false ∧ W13.cell? ⟨b, 0, none⟩ = some (.int .i64 ((g0 0))) ∧ W13.cell? ⟨b, 1, none⟩ = some (.int .i64 ((g0 1))) ∧ W13.cell? ⟨b, 2, none⟩ = some (.int .i64 ((g0 2))) ∧ W13.frozen? ⟨b, 6, none⟩ = false ∧ W13.frozen? ⟨b, 7, none⟩ = false ∧ W13.frozen? ⟨b, 8, none⟩ = false ∧ W13.cell? ⟨b, 6, none⟩ = some (.int .i64 ((g0 6))) ∧ W13.cell? ⟨b, 7, none⟩ = some (.int .i64 ((g0 7))) ∧ W13.cell? ⟨b, 8, none⟩ = some (.int .i64 ((g0 8))) ∧ b < W13.heap.size := by
              rcases O13 with ⟨h, _⟩ | ⟨b', c', h1, h6, h2, h3, h5⟩
              · cases h
              · cases h1; exact ⟨(h5.2 0 (by omega)).2, (h5.2 1 (by omega)).2, (h5.2 2 (by omega)).2, (h5.2 0 (by omega)).1, (h5.2 1 (by omega)).1, (h5.2 2 (by omega)).1, (h5.2 6 (by omega)).2, (h5.2 7 (by omega)).2, (h5.2 8 (by omega)).2, (h5.2 6 (by omega)).1, (h5.2 7 (by omega)).1, (h5.2 8 (by omega)).1, h5.1⟩
            obtain ⟨_, y0, y1, y2, g0, g1, g2⟩ := id X13
            clear O13 OZ O12 X12 U12
            go_wp2_with fail
            go_ret
            exact ⟨_, _, _, rfl, by omega, HO.out, by (repeat' (first | with_reducible exact Below.refl _ _ | with_reducible assumption | with_reducible refine gr_alloc ?_ _ | with_reducible refine gr_drew ?_ | with_reducible refine gr_drewN ?_ _ | with_reducible refine gr_trans ?_ (by assumption) | with_reducible refine gr_set ?_ ?_ _ | (simp; done) | omega | (simp; omega)))⟩
          · have X13 := X12.set2 x12
            have O13 := OwnW.othE O12.out (p := ⟨jx, 2, none⟩) (by simp; omega) (.int .i64 x12)
            have U13 := gr_set U12 (p := ⟨jx, 2, none⟩) hjw (.int .i64 x12)
            go_upto_region 15 with fail
            clear y0 y1 y2 f0 f1 f2
            generalize w12.setCell ⟨jx, 2, none⟩ (.int .i64 x12) = W13 at X13 O13 U13 ⊢
            have OZ := ((OwnW.set (i := 0) O13 (by omega) x).set (i := 1) (by omega) y).set (i := 2) (by omega) x12
            have HO := hid OZ.rd
            obtain ⟨f0, f1, f2, e0, e1, e2, f6, f7, f8, e6, e7, e8, hbw⟩ : W13.frozen? ⟨b, 0, none⟩ = false ∧ W13.frozen? ⟨b, 1, none⟩ = false ∧ W13.frozen? ⟨b, 2, none⟩ = false ∧ W13.cell? ⟨b, 0, none⟩ = some (.int .i64 ((g0 0))) ∧ W13.cell? ⟨b, 1, none⟩ = some (.int .i64 ((g0 1))) ∧ W13.cell? ⟨b, 2, none⟩ = some (.int .i64 ((g0 2))) ∧ W13.frozen? ⟨b, 6, none⟩ = false ∧ W13.frozen? ⟨b, 7, none⟩ = false ∧ W13.frozen? ⟨b, 8, none⟩ = false ∧ W13.cell? ⟨b, 6, none⟩ = some (.int .i64 ((g0 6))) ∧ W13.cell? ⟨b, 7, none⟩ = some (.int .i64 ((g0 7))) ∧ W13.cell? ⟨b, 8, none⟩ = some (.int .i64 ((g0 8))) ∧ b < W13.heap.size := by
              rcases O13 with ⟨h, _⟩ | ⟨b', c', h1, h6, h2, h3, h5⟩
              · cases h
              · cases h1; exact ⟨(h5.2 0 (by omega)).2, (h5.2 1 (by omega)).2, (h5.2 2 (by omega)).2, (h5.2 0 (by omega)).1, (h5.2 1 (by omega)).1, (h5.2 2 (by omega)).1, (h5.2 6 (by omega)).2, (h5.2 7 (by omega)).2, (h5.2 8 (by omega)).2, (h5.2 6 (by omega)).1, (h5.2 7 (by omega)).1, (h5.2 8 (by omega)).1, h5.1⟩
            obtain ⟨_, y0, y1, y2, g0, g1, g2⟩ := id X13
            clear O13 OZ O12 X12 U12
            go_wp2_with fail
            go_ret
            exact ⟨_, _, _, rfl, by omega, HO.out, by (repeat' (first | with_reducible exact Below.refl _ _ | with_reducible assumption | with_reducible refine gr_alloc ?_ _ | with_reducible refine gr_drew ?_ | with_reducible refine gr_drewN ?_ _ | with_reducible refine gr_trans ?_ (by assumption) | with_reducible refine gr_set ?_ ?_ _ | (simp; done) | omega | (simp; omega)))⟩
        · have b0 : (x8 == 0) = false := by simpa using h0
          by_cases h1 : x8 = 1
          · subst h1
            clear hx8 hy8 O8 h0
            go_wp2_with fail
            refine (drawEl_any _ a len cap zs _ S8.out).mono ?_
            rintro e w9 ⟨x, y, z, rfl, S9', G9⟩
            have U9 := Gk.out U8 G9 (by have := HK.out; omega)
            have E9 := hid (RowE.gk E8.out G9 hkB)
            have hz9 := Nat.le_trans hB8 G9.size
            clear S8 U8 E8 S9' G9
            have hz : B ≤ w9.heap.size := by omega
            go_wp2_with (at_builtin; refine app_e rfl _ _ rfl B rfl E9.out rfl (by have := hL3.out; omega) hz ?_)
            intro g' cap' w10 hrow hgrow hat hlt10
            have U10 := RowE.grown (W := w) (RowE.alloc E9.out _) (gr_alloc U9 _) hgrow (by have := U6.size; omega)
            have hL10 := hL3.out
            have hR10 := (RowE.out hrow).rd
            rw [List.length_append, List.length_singleton] at hR10
            rw [hL10] at hR10 ⊢
            clear hrow hgrow hat
            go_wp2_with fail
            go_ret
            exact ⟨_, _, _, rfl, by omega, hR10, U10⟩
          · have b1 : (x8 == 1) = false := by simpa using h1
            by_cases h2 : x8 = 2
            · subst h2
              clear hx8 hy8 E8 h0 h1
              go_wp2_with fail
              refine (drawEl_any _ a len cap zs _ S8.out).mono ?_
              rintro e w9 ⟨x, y, z, rfl, S9', G9⟩
              have U9 := Gk.out U8 G9 (by have := HK.out; omega)
              have O9 := OwnW.gk O8.out G9 hkB
              clear S8 U8 O8 S9' G9
              have OZ := ((OwnW.set (i := 6) O9 (by omega) x).set (i := 7) (by omega) y).set (i := 8) (by omega) z
              have HO := hid OZ.rd
              obtain ⟨f0, f1, f2, e0, e1, e2, f6, f7, f8, e6, e7, e8, hbw⟩ : w9.frozen? ⟨b, 0, none⟩ = false ∧ w9.frozen? ⟨b, 1, none⟩ = false ∧ w9.frozen? ⟨b, 2, none⟩ = false ∧ w9.cell? ⟨b, 0, none⟩ = some (.int .i64 ((g0 0))) ∧ w9.cell? ⟨b, 1, none⟩ = some (.int .i64 ((g0 1))) ∧ w9.cell? ⟨b, 2, none⟩ = some (.int .i64 ((g0 2))) ∧ w9.frozen? ⟨b, 6, none⟩ = false ∧ w9.frozen? ⟨b, 7, none⟩ = false ∧ w9.frozen? ⟨b, 8, none⟩ = false ∧ w9.cell? ⟨b, 6, none⟩ = some (.int .i64 ((g0 6))) ∧ w9.cell? ⟨b, 7, none⟩ = some (.int .i64 ((g0 7))) ∧ w9.cell? ⟨b, 8, none⟩ = some (.int .i64 ((g0 8))) ∧ b < w9.heap.size := by
                rcases O9 with ⟨h, _⟩ | ⟨b', c', h1, h6, h2, h3, h5⟩
                · cases h
                · cases h1; exact ⟨(h5.2 0 (by omega)).2, (h5.2 1 (by omega)).2, (h5.2 2 (by omega)).2, (h5.2 0 (by omega)).1, (h5.2 1 (by omega)).1, (h5.2 2 (by omega)).1, (h5.2 6 (by omega)).2, (h5.2 7 (by omega)).2, (h5.2 8 (by omega)).2, (h5.2 6 (by omega)).1, (h5.2 7 (by omega)).1, (h5.2 8 (by omega)).1, h5.1⟩
              have hc3 : 3 ≤ c := hcap.1
              go_wp2_with fail
              go_ret
              exact ⟨_, _, _, rfl, by omega, HO.out, by (repeat' (first | with_reducible exact Below.refl _ _ | with_reducible assumption | with_reducible refine gr_alloc ?_ _ | with_reducible refine gr_drew ?_ | with_reducible refine gr_drewN ?_ _ | with_reducible refine gr_trans ?_ (by assumption) | with_reducible refine gr_set ?_ ?_ _ | (simp; done) | omega | (simp; omega)))⟩
            · have b2 : (x8 == 2) = false := by simpa using h2
              have HO := hid O8.out.rd
              clear hx8 hy8 E8 h0 h1 h2
              go_wp2_with fail
              go_ret
              exact ⟨_, _, _, rfl, by omega, HO.out, U8⟩

end Go.Proofs.YtdogkkmdccieiaaDoor

/- '==' between two arrays of four numbers. -/
namespace Go.Proofs.YtdogkkmdccieiaaDoor
open Go.RowKit

theorem eqForm_run (a b c d p q r s : Int) (w : World) : (Op.equalIn 10000 25 (.agg #[.int .i64 a, .int .i64 b, .int .i64 c, .int .i64 d]) (.agg #[.int .i64 p, .int .i64 q, .int .i64 r, .int .i64 s])).run Tryd.prog w = .ok (a == p && b == q && c == r && d == s) w := by
  have u := Tryd.underlying2
  have ia := Tryd.isAgg2
  have z := Tryd.sizeOf2
  rw [show (10000 : Nat) = 9999 + 1 from rfl, Op.equalIn]
  simp only [Sem.run_bind, run_underlying Tryd.underlying25, Result.andThen_ok]
  simp only [Std.Legacy.Range.forIn_eq_forIn_range', Std.Legacy.Range.size, Nat.sub_zero, Nat.add_sub_cancel, Nat.div_one, List.range'_succ, List.range'_zero, List.forIn_cons, List.forIn_nil]
  go_simp
  by_cases h1 : a = p <;> by_cases h2 : b = q <;> by_cases h3 : c = r <;> by_cases h4 : d = s <;> simp [h1, h2, h3, h4]

theorem eqMatrix_run (a b c d p q r s : Int) (w : World) : (Op.equalIn 10000 50 (.agg #[.int .i64 a, .int .i64 b, .int .i64 c, .int .i64 d]) (.agg #[.int .i64 p, .int .i64 q, .int .i64 r, .int .i64 s])).run Tryd.prog w = .ok (a == p && b == q && c == r && d == s) w := by
  have u := Tryd.underlying2
  have ia := Tryd.isAgg2
  have z := Tryd.sizeOf2
  rw [show (10000 : Nat) = 9999 + 1 from rfl, Op.equalIn]
  simp only [Sem.run_bind, run_underlying Tryd.underlying50, Result.andThen_ok]
  simp only [Std.Legacy.Range.forIn_eq_forIn_range', Std.Legacy.Range.size, Nat.sub_zero, Nat.add_sub_cancel, Nat.div_one, List.range'_succ, List.range'_zero, List.forIn_cons, List.forIn_nil]
  go_simp
  by_cases h1 : a = p <;> by_cases h2 : b = q <;> by_cases h3 : c = r <;> by_cases h4 : d = s <;> simp [h1, h2, h3, h4]

end Go.Proofs.YtdogkkmdccieiaaDoor
