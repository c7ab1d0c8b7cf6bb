/- Chapter 3: the three numbers of the syzygy, as the program has them. -/
import Derived.Test.YtigbaelbeaobpaaSyz
import Derived.OwnWalk
import Derived.Laws.EntriesVeiled
namespace Go.Proofs.Ytigbaelbeaobpaa
open Go.RowKit

theorem OwnV.owns {B : Nat} {w : World} {t : TypeId} {v : Value} {n : Nat} {xs : List Value} {g : Nat → Int} (h : w.ownsRow B t 1 v n xs) (hx : ∀ i, i < n → xs[i]? = some (.int .i64 (g i))) : OwnV B w v n g := by
  rcases h.2 with ⟨rfl, hn⟩ | ⟨b, cap, cur, rfl, hb, hg, hnc, hcm, hs, ht⟩
  · exact .inl ⟨rfl, hn⟩
  · refine .inr ⟨b, cap, rfl, hb, (Array.getElem?_eq_some_iff.1 hg).1, hnc, hcm, fun i hi => ⟨?_, by simp [World.frozen?, hg]⟩⟩
    have h1 := hx i hi
    rw [← ht, List.getElem?_take] at h1
    have hi' : i < n * 1 := by omega
    rw [if_pos hi'] at h1
    simp [World.cell?, hg]
    simpa using h1
theorem OwnV.arr3 {B : Nat} {w : World} {k : Nat} {a b c : Int} (h : Arr3 w k a b c) (hB : B ≤ k) : OwnV B w (.slice (some ⟨k, 0, none⟩) 3 3) 3 (q3 a b c) := by
  refine .inr ⟨k, 3, rfl, hB, h.lt, Nat.le_refl _, by decide, fun i hi => ?_⟩
  match i, hi with
  | 0, _ => exact ⟨h.c0, h.f0⟩
  | 1, _ => exact ⟨h.c1, h.f1⟩
  | 2, _ => exact ⟨h.c2, h.f2⟩
theorem gr_grown {w w' w'' : World} {row : Option Nat} (h : Below w.heap.size w w') (hg : w'.grownBy w'' row) (hr : ∀ k, row = some k → w.heap.size ≤ k) : Below w.heap.size w w'' :=
  ⟨hg.os.trans h.os, by rw [hg.tape, h.tape], hg.output.trans h.output, Nat.le_trans h.size hg.size, fun k hk => (hg.block k (Nat.lt_of_lt_of_le hk h.size) (fun e => by have := hr k e.symm; omega)).trans (h.block k hk)⟩
theorem Arr.grown {w w' : World} {row : Option Nat} {k : Nat} {a b c d : Int} (h : Arr w k a b c d) (hg : w.grownBy w' row) (hr : ∀ j, row = some j → k ≠ j) : Arr w' k a b c d := by
  have hb := hg.block k h.lt (fun e => hr k e.symm rfl)
  exact ⟨Nat.lt_of_lt_of_le h.lt hg.size, (World.cell?_of_block (a := ⟨k, 0, none⟩) hb).trans h.c0, (World.cell?_of_block (a := ⟨k, 1, none⟩) hb).trans h.c1, (World.cell?_of_block (a := ⟨k, 2, none⟩) hb).trans h.c2, (World.cell?_of_block (a := ⟨k, 3, none⟩) hb).trans h.c3,
    (World.frozen?_of_block (a := ⟨k, 0, none⟩) hb).trans h.f0, (World.frozen?_of_block (a := ⟨k, 1, none⟩) hb).trans h.f1, (World.frozen?_of_block (a := ⟨k, 2, none⟩) hb).trans h.f2, (World.frozen?_of_block (a := ⟨k, 3, none⟩) hb).trans h.f3⟩

theorem owns_below {w w' : World} {B : Nat} {t : TypeId} {v : Value} {n : Nat} {xs : List Value} (h : w.ownsRow B t 1 v n xs) (hb : Below w.heap.size w w') : w'.ownsRow B t 1 v n xs :=
  h.kept (row := none) ⟨hb.os, hb.tape, hb.output, hb.size, fun k hk _ => hb.block k hk⟩ (by cases v.ownBlock <;> simp)

theorem info_s64 : (Try.prog.info? 2).map (fun i => (i.zero, i.size, i.bytes)) = some (some (.int .i64 0), 1, 8) := by kernel_rfl

set_option maxRecDepth 100000 in
set_option maxHeartbeats 4000000 in
theorem iSyzygyAt_any (a b c d x y : Int) (w : World) :
    Calls Try.prog 6 #[.agg #[.int .i64 a, .int .i64 b, .int .i64 c, .int .i64 d], .int .i64 x, .int .i64 y] w (LstOut (szc a b c d x y) 3 (q3 (z1 (hv a b c d x y)) (z2 (cv a b c d x y)) (z3 (dsc0 a b c d) (vl a b c d x y))) w) := by
  have h1 := fun W => iHt_any a b c d x y W
  have h2 := fun W => iCt_any a b c d x y W
  have h3 := fun W => iDt_any a b c d x y W
  have hk0 : plcn 3 a b c d x y = 0 → isS a b c d = true → szc a b c d x y = 0 := fun h h' => by
    unfold plcn at h; unfold szc; split at h <;> simp_all
  have hk1 : plcn 3 a b c d x y = 0 → isS a b c d = false → szc a b c d x y = 2 := fun h h' => by
    unfold plcn at h; unfold szc; split at h <;> simp_all
  have hk2 : plcn 3 a b c d x y ≠ 0 → szc a b c d x y = plcn 3 a b c d x y := fun h => by
    unfold plcn at h ⊢; unfold szc; split
    · rename_i hf; simp only [hf, if_true] at h ⊢
      split at h
      · exact absurd rfl h
      · rename_i hr; simp [hr]
    · rfl
  generalize z1 (hv a b c d x y) = v1 at h1 ⊢
  generalize z2 (cv a b c d x y) = v2 at h2 ⊢
  generalize z3 (dsc0 a b c d) (vl a b c d x y) = v3 at h3 ⊢
  generalize szc a b c d x y = kk at hk0 hk1 hk2 ⊢
  have H1 := hid h1; have H2 := hid h2; have H3 := hid h3
  have A0 := Arr.new w a b c d 25
  have U0 := gr_alloc (Below.refl w.heap.size w) (.cells #[.int .i64 a, .int .i64 b, .int .i64 c, .int .i64 d] 25)
  clear h1 h2 h3
  have hp := fun W => iPlaceN_any a b c d x y 3 W (by omega) (by omega)
  generalize plcn 3 a b c d x y = pk at hp hk0 hk1 hk2
  have HP := hid hp
  have K0 := hid hk0; have K1 := hid hk1; have K2 := hid hk2
  clear hp hk0 hk1 hk2
  obtain ⟨i0, hi, hz0, hz1, hz2⟩ := info_parts info_s64
  have HI := hid hi; have HZ0 := hid hz0; have HZ1 := hid hz1; have HZ2 := hid hz2
  clear hi hz0 hz1 hz2
  have ix0 : ∀ w : World, (Instr.index 63 (.agg #[Value.func (Fn.func 35) #[] #[], Value.func (Fn.func 36) #[] #[], Value.func (Fn.func 37) #[] #[]]) (.int .i64 0)).run Try.prog w = .ok (Value.func (Fn.func 35) #[] #[]) w := fun _ => by kernel_rfl
  have ix1 : ∀ w : World, (Instr.index 63 (.agg #[Value.func (Fn.func 35) #[] #[], Value.func (Fn.func 36) #[] #[], Value.func (Fn.func 37) #[] #[]]) (.int .i64 1)).run Try.prog w = .ok (Value.func (Fn.func 36) #[] #[]) w := fun _ => by kernel_rfl
  have ix2 : ∀ w : World, (Instr.index 63 (.agg #[Value.func (Fn.func 35) #[] #[], Value.func (Fn.func 36) #[] #[], Value.func (Fn.func 37) #[] #[]]) (.int .i64 2)).run Try.prog w = .ok (Value.func (Fn.func 37) #[] #[]) w := fun _ => by kernel_rfl
  go_enter Try.func6, Try.ntmps6
  go_wp2_with fail
  refine (HP.out _).mono ?_
  rintro e w1 ⟨rfl, hb1⟩
  have A1 := A0.next hb1
  have U1 := gr_trans U0 hb1
  clear A0 U0
  obtain ⟨_, c0, c1, c2, c3, _⟩ := id A1
  by_cases hpk : pk = 0
  · subst hpk
    go_wp2_with fail
    refine (allWithin30_any _ a b c d _ A1).mono ?_
    rintro e w2 ⟨rfl, rfl⟩
    by_cases hs : isS a b c d = true
    · have k0 := K0.out (by first | trivial | rfl) hs
      subst k0
      clear K0 K1 K2 HP
      go_wp2_with fail
      go_wp2_with fail
      refine wp_loop_rounds 4 ?_
      -- round 1
      rw [rounds_succ]; go_wp2_with fail
      refine (H1.out _).mono ?_
      rintro e x1 ⟨rfl, hx1⟩
      have X1 := (A1.alloc _).next hx1
      have V1 := gr_trans (gr_alloc U1 _) hx1
      have P1 : x1.ownsRow (w.heap.size + 1) 2 1 (.slice none 0 0) 0 [] := World.ownsRow_nil _ _ _ _
      have hz1 := V1.size
      have hl1 := X1.lt
      clear c0 c1 c2 c3 A1 U1 hx1
      go_wp2_with (at_builtin; refine wpList_append_own _ rfl _ _ 28 rfl (w.heap.size + 1) 2 i0 (.int .i64 0) 1 8 Try.underlying28 HI.out HZ0.out HZ1.out HZ2.out rfl (by decide) _ _ _ rfl (P1.alloc _) ⟨x1.heap.size, 0, none⟩ 1 1 [.int .i64 v1] rfl rfl ?a1 ?b1 ?c1 ?d1 ?e1 ?_)
      case a1 =>
        intro j u hj
        match j, hj with
        | 0, hj => simp at hj; subst hj; simp [Addr.add]
      case b1 => intro u hu; simp at hu; subst hu; rfl
      case c1 => decide
      case d1 => decide
      case e1 => simp; omega
      intro y1 z1 O1 hg1 _
      have B1 := (X1.alloc _).grown hg1 (fun j hj => by have := (P1.lt j hj).1; omega)
      have W1 := gr_grown (gr_alloc V1 _) hg1 (fun j hj => by have := (P1.lt j hj).1; omega)
      clear X1 V1 P1 hg1
      go_wp2_with fail
      -- round 2
      obtain ⟨_, c0, c1, c2, c3, _⟩ := id B1
      rw [rounds_succ]; go_wp2_with fail
      refine (H2.out _).mono ?_
      rintro e x2 ⟨rfl, hx2⟩
      have X2 := B1.next hx2
      have V2 := gr_trans W1 hx2
      have P2 := owns_below O1 hx2
      have hz2 := V2.size
      have hl2 := X2.lt
      clear c0 c1 c2 c3 B1 W1 O1 hx2
      go_wp2_with (at_builtin; refine wpList_append_own _ rfl _ _ 28 rfl (w.heap.size + 1) 2 i0 (.int .i64 0) 1 8 Try.underlying28 HI.out HZ0.out HZ1.out HZ2.out rfl (by decide) _ _ _ rfl (P2.alloc _) ⟨x2.heap.size, 0, none⟩ 1 1 [.int .i64 v2] rfl rfl ?a2 ?b2 ?c2 ?d2 ?e2 ?_)
      case a2 =>
        intro j u hj
        match j, hj with
        | 0, hj => simp at hj; subst hj; simp [Addr.add]
      case b2 => intro u hu; simp at hu; subst hu; rfl
      case c2 => decide
      case d2 => decide
      case e2 => simp; omega
      intro y2 z2 O2 hg2 _
      have B2 := (X2.alloc _).grown hg2 (fun j hj => by have := (P2.lt j hj).1; omega)
      have W2 := gr_grown (gr_alloc V2 _) hg2 (fun j hj => by have := (P2.lt j hj).1; omega)
      clear X2 V2 P2 hg2
      go_wp2_with fail
      -- round 3
      obtain ⟨_, c0, c1, c2, c3, _⟩ := id B2
      rw [rounds_succ]; go_wp2_with fail
      refine (H3.out _).mono ?_
      rintro e x3 ⟨rfl, hx3⟩
      have X3 := B2.next hx3
      have V3 := gr_trans W2 hx3
      have P3 := owns_below O2 hx3
      have hz3 := V3.size
      have hl3 := X3.lt
      clear c0 c1 c2 c3 B2 W2 O2 hx3
      go_wp2_with (at_builtin; refine wpList_append_own _ rfl _ _ 28 rfl (w.heap.size + 1) 2 i0 (.int .i64 0) 1 8 Try.underlying28 HI.out HZ0.out HZ1.out HZ2.out rfl (by decide) _ _ _ rfl (P3.alloc _) ⟨x3.heap.size, 0, none⟩ 1 1 [.int .i64 v3] rfl rfl ?a3 ?b3 ?c3 ?d3 ?e3 ?_)
      case a3 =>
        intro j u hj
        match j, hj with
        | 0, hj => simp at hj; subst hj; simp [Addr.add]
      case b3 => intro u hu; simp at hu; subst hu; rfl
      case c3 => decide
      case d3 => decide
      case e3 => simp; omega
      intro y3 z3 O3 hg3 _
      have B3 := (X3.alloc _).grown hg3 (fun j hj => by have := (P3.lt j hj).1; omega)
      have W3 := gr_grown (gr_alloc V3 _) hg3 (fun j hj => by have := (P3.lt j hj).1; omega)
      clear X3 V3 P3 hg3
      go_wp2_with fail
      rw [rounds_succ]; go_wp2_with fail
      go_ret2
      refine ⟨_, rfl, ?_, W3⟩
      simp only [if_true]
      exact (OwnV.owns (g := q3 v1 v2 v3) O3 (fun i hi => by match i, hi with | 0, _ => rfl | 1, _ => rfl | 2, _ => rfl)).base (by omega)
    · have hs' : isS a b c d = false := by simpa using hs
      clear hs
      have k0 := K1.out (by first | trivial | rfl) hs'
      subst k0
      go_wp2
      go_ret2
      exact ⟨_, rfl, .inl ⟨rfl, by simp⟩, by (repeat' (first | with_reducible exact Below.refl _ _ | with_reducible assumption | with_reducible refine gr_alloc ?_ _ | with_reducible refine gr_drew ?_ | with_reducible refine gr_drewN ?_ _ | with_reducible refine gr_trans ?_ (by assumption) | with_reducible refine gr_set ?_ ?_ _ | (simp; done) | omega | (simp; omega)))⟩
  · have k0 := K2.out hpk
    subst k0
    have hpk' : (kk == 0) = false := by simpa using hpk
    have HK := hid hpk
    clear hpk
    go_wp2
    go_ret2
    exact ⟨_, rfl, .inl ⟨rfl, by simp [HK.out]⟩, by (repeat' (first | with_reducible exact Below.refl _ _ | with_reducible assumption | with_reducible refine gr_alloc ?_ _ | with_reducible refine gr_drew ?_ | with_reducible refine gr_drewN ?_ _ | with_reducible refine gr_trans ?_ (by assumption) | with_reducible refine gr_set ?_ ?_ _ | (simp; done) | omega | (simp; omega)))⟩

set_option maxRecDepth 100000 in
set_option maxHeartbeats 4000000 in
theorem sSyzygyAt_any (a b c d x y : Int) (w : World) :
    Calls Try.prog 7 #[.agg #[.int .i64 a, .int .i64 b, .int .i64 c, .int .i64 d], .int .i64 x, .int .i64 y] w (LstOut (szc a b c d x y) 3 (q3 (z1 (hv a b c d x y)) (z2 (cv a b c d x y)) (z3 (dsc0 a b c d) (vl a b c d x y))) w) := by
  have g1 := fun W => sHess0_any a b c d W
  have g3 := fun W => sCov0_any a b c d W
  have g5 := fun W => sValue_any a b c d x y W
  have g6 := fun W => sDisc0_any a b c d W
  have hd0 : isF a b c d = true → dsc0 a b c d = dsc a b c d := fun h => by simp [dsc0, h]
  have hk0 : isF a b c d = true → rng (-3) 3 x = true → rng (-3) 3 y = true → isS a b c d = true → szc a b c d x y = 0 := fun h1 h2 h3 h4 => by simp [szc, h1, h2, h3, h4]
  have hk1 : isF a b c d = true → (rng (-3) 3 x && rng (-3) 3 y && isS a b c d) = false → szc a b c d x y = 2 := fun h1 h2 => by simp [szc, h1, h2]
  have hk2 : isF a b c d = false → szc a b c d x y = 1 := fun h => by simp [szc, h]
  unfold hv cv
  generalize h1 a b c = P at g1 ⊢
  generalize h2 a b c d = Q at g1 ⊢
  generalize h3 b c d = R at g1 ⊢
  generalize cc1 a b c d = p1 at g3 ⊢
  generalize cc2 a b c d = p2 at g3 ⊢
  generalize cc3 a b c d = p3 at g3 ⊢
  generalize cc4 a b c d = p4 at g3 ⊢
  have g2 := fun W => sAt0_any P Q R x y W
  have g4 := fun k W A => sCubic_any k p1 p2 p3 p4 x y W A
  generalize qv P Q R x y = u1 at g2 ⊢
  generalize vl p1 p2 p3 p4 x y = u2 at g4 ⊢
  generalize vl a b c d x y = u3 at g5 ⊢
  generalize dsc0 a b c d = D0 at hd0 ⊢
  generalize dsc a b c d = D at g6 hd0
  generalize szc a b c d x y = kk at hk0 hk1 hk2 ⊢
  have G1 := hid g1; have G2 := hid g2; have G3 := hid g3; have G4 := hid g4; have G5 := hid g5; have G6 := hid g6; have HD := hid hd0
  have K0 := hid hk0; have K1 := hid hk1; have K2 := hid hk2
  clear g1 g2 g3 g4 g5 g6 hd0 hk0 hk1 hk2
  have A0 := Arr.new w a b c d 25
  have U0 := gr_alloc (Below.refl w.heap.size w) (.cells #[.int .i64 a, .int .i64 b, .int .i64 c, .int .i64 d] 25)
  go_enter Try.func7, Try.ntmps7
  go_wp2_with fail
  refine (l01Is_any a b c d _).mono ?_
  rintro e w1 ⟨rfl, hb1⟩
  have A1 := A0.next hb1
  have U1 := gr_trans U0 hb1
  clear A0 U0
  obtain ⟨_, c0, c1, c2, c3, _⟩ := id A1
  by_cases hm : isF a b c d = true
  · have hd := HD.out hm
    subst hd
    go_wp2_with fail
    refine (l01In_any _ _ _ _).mono ?_
    rintro e w2 ⟨rfl, rfl⟩
    by_cases hx : rng (-3) 3 x = true
    · go_wp2_with fail
      refine (l01In_any _ _ _ _).mono ?_
      rintro e w2 ⟨rfl, rfl⟩
      by_cases hy : rng (-3) 3 y = true
      · go_wp2_with fail
        refine wp_loop_rounds 5 ?_
        rw [rounds_succ]; go_wp2_with fail
        refine (l01In_any _ _ _ _).mono ?_
        rintro e w3 ⟨rfl, rfl⟩
        by_cases s0 : rng (-30) 30 a = true
        · go_wp2_with fail
          rw [rounds_succ]; go_wp2_with fail
          refine (l01In_any _ _ _ _).mono ?_
          rintro e w3 ⟨rfl, rfl⟩
          by_cases s1 : rng (-30) 30 b = true
          · go_wp2_with fail
            rw [rounds_succ]; go_wp2_with fail
            refine (l01In_any _ _ _ _).mono ?_
            rintro e w3 ⟨rfl, rfl⟩
            by_cases s2 : rng (-30) 30 c = true
            · go_wp2_with fail
              rw [rounds_succ]; go_wp2_with fail
              refine (l01In_any _ _ _ _).mono ?_
              rintro e w3 ⟨rfl, rfl⟩
              by_cases s3 : rng (-30) 30 d = true
              · have k0 := K0.out hm hx hy (by simp [isS, s0, s1, s2, s3])
                subst k0
                go_wp2_with fail
                rw [rounds_succ]; go_wp2_with fail
                have A2 := A1
                have hl := A1.lt
                go_cut [9, 10, 11] (fun s9 s10 s11 wx => s9 = .int .i64 u1 ∧ s10 = .int .i64 u2 ∧ s11 = .int .i64 u3 ∧ Arr wx w.heap.size a b c d ∧ Below w.heap.size w wx)
                case first =>
                  go_region_held3 (fun W => W.cell? ⟨w.heap.size, 0, none⟩ = some (.int .i64 a) ∧ W.cell? ⟨w.heap.size, 1, none⟩ = some (.int .i64 b) ∧ W.cell? ⟨w.heap.size, 2, none⟩ = some (.int .i64 c) ∧ W.cell? ⟨w.heap.size, 3, none⟩ = some (.int .i64 d)) (refine cells4 ?_ <;> (repeat (first | with_reducible assumption | with_reducible exact Arr.box (by assumption) | with_reducible exact Box.new _ _ _ _ _ _ | with_reducible exact Arr.new _ _ _ _ _ _ | with_reducible refine Arr.drew ?_ | with_reducible refine Arr.drewN ?_ _ | with_reducible refine Arr.store4 ?_ | with_reducible refine Arr.alloc ?_ _ | with_reducible refine Box.drew ?_ | with_reducible refine Box.drewN ?_ _ | with_reducible refine Box.alloc ?_ _ | with_reducible refine Arr.next ?_ (by assumption) | with_reducible refine Box.next ?_ (by assumption) | refine Arr.oth ?_ (by first | (simp; done) | omega | (simp; omega)) _ | refine Box.oth ?_ (by first | (simp; done) | omega | (simp; omega)) _ | with_reducible exact Arr3.box (by assumption) | with_reducible exact Box3.new _ _ _ _ _ | with_reducible exact Arr3.new _ _ _ _ _ | with_reducible refine Arr3.drew ?_ | with_reducible refine Arr3.drewN ?_ _ | with_reducible refine Arr3.store3 ?_ | with_reducible refine Arr3.alloc ?_ _ | with_reducible refine Box3.drew ?_ | with_reducible refine Box3.drewN ?_ _ | with_reducible refine Box3.alloc ?_ _ | with_reducible refine Arr3.next ?_ (by assumption) | with_reducible refine Box3.next ?_ (by assumption) | refine Arr3.oth ?_ (by first | (simp; done) | omega | (simp; omega)) _ | refine Box3.oth ?_ (by first | (simp; done) | omega | (simp; omega)) _))) (first | (go_at_call 41; refine (G1.out _).mono ?_; rintro e v1 ⟨rfl, hv1⟩) | (go_at_call 40; refine (G2.out _).mono ?_; rintro e v2 ⟨rfl, hv2⟩) | (go_at_call 43; refine (G3.out _).mono ?_; rintro e v3 ⟨kc, rfl, hkc, hV3, hv3⟩) | (go_at_call 42; refine (G4.out _ _ (by (repeat (first | with_reducible assumption | with_reducible exact Arr.box (by assumption) | with_reducible exact Box.new _ _ _ _ _ _ | with_reducible exact Arr.new _ _ _ _ _ _ | with_reducible refine Arr.drew ?_ | with_reducible refine Arr.drewN ?_ _ | with_reducible refine Arr.store4 ?_ | with_reducible refine Arr.alloc ?_ _ | with_reducible refine Box.drew ?_ | with_reducible refine Box.drewN ?_ _ | with_reducible refine Box.alloc ?_ _ | with_reducible refine Arr.next ?_ (by assumption) | with_reducible refine Box.next ?_ (by assumption) | refine Arr.oth ?_ (by first | (simp; done) | omega | (simp; omega)) _ | refine Box.oth ?_ (by first | (simp; done) | omega | (simp; omega)) _ | with_reducible exact Arr3.box (by assumption) | with_reducible exact Box3.new _ _ _ _ _ | with_reducible exact Arr3.new _ _ _ _ _ | with_reducible refine Arr3.drew ?_ | with_reducible refine Arr3.drewN ?_ _ | with_reducible refine Arr3.store3 ?_ | with_reducible refine Arr3.alloc ?_ _ | with_reducible refine Box3.drew ?_ | with_reducible refine Box3.drewN ?_ _ | with_reducible refine Box3.alloc ?_ _ | with_reducible refine Arr3.next ?_ (by assumption) | with_reducible refine Box3.next ?_ (by assumption) | refine Arr3.oth ?_ (by first | (simp; done) | omega | (simp; omega)) _ | refine Box3.oth ?_ (by first | (simp; done) | omega | (simp; omega)) _)))).mono ?_; rintro e v4 ⟨rfl, hv4⟩) | (go_at_call 44; refine (G5.out _).mono ?_; rintro e v5 ⟨rfl, hv5⟩))
                  all_goals (go_wp2_with fail; go_meet; exact ⟨rfl, rfl, rfl, by (repeat (first | with_reducible assumption | with_reducible exact Arr.box (by assumption) | with_reducible exact Box.new _ _ _ _ _ _ | with_reducible exact Arr.new _ _ _ _ _ _ | with_reducible refine Arr.drew ?_ | with_reducible refine Arr.drewN ?_ _ | with_reducible refine Arr.store4 ?_ | with_reducible refine Arr.alloc ?_ _ | with_reducible refine Box.drew ?_ | with_reducible refine Box.drewN ?_ _ | with_reducible refine Box.alloc ?_ _ | with_reducible refine Arr.next ?_ (by assumption) | with_reducible refine Box.next ?_ (by assumption) | refine Arr.oth ?_ (by first | (simp; done) | omega | (simp; omega)) _ | refine Box.oth ?_ (by first | (simp; done) | omega | (simp; omega)) _ | with_reducible exact Arr3.box (by assumption) | with_reducible exact Box3.new _ _ _ _ _ | with_reducible exact Arr3.new _ _ _ _ _ | with_reducible refine Arr3.drew ?_ | with_reducible refine Arr3.drewN ?_ _ | with_reducible refine Arr3.store3 ?_ | with_reducible refine Arr3.alloc ?_ _ | with_reducible refine Box3.drew ?_ | with_reducible refine Box3.drewN ?_ _ | with_reducible refine Box3.alloc ?_ _ | with_reducible refine Arr3.next ?_ (by assumption) | with_reducible refine Box3.next ?_ (by assumption) | refine Arr3.oth ?_ (by first | (simp; done) | omega | (simp; omega)) _ | refine Box3.oth ?_ (by first | (simp; done) | omega | (simp; omega)) _)), by (repeat' (first | with_reducible exact Below.refl _ _ | with_reducible assumption | with_reducible refine gr_alloc ?_ _ | with_reducible refine gr_drew ?_ | with_reducible refine gr_drewN ?_ _ | with_reducible refine gr_trans ?_ (by assumption) | with_reducible refine gr_set ?_ ?_ _ | (simp; done) | omega | (simp; omega)))⟩)
                case rest =>
                  obtain ⟨rfl, rfl, rfl, A3, U3⟩ := hcut
                  clear c0 c1 c2 c3 A1 A2 U1
                  obtain ⟨_, c0, c1, c2, c3, _⟩ := id A3
                  go_upto_region 11 with fail
                  go_wp2_with fail
                  refine (G6.out _).mono ?_
                  rintro e v6 ⟨rfl, hv6⟩
                  have hz3 := U3.size
                  have hz6 := hv6.size
                  go_wp2
                  go_ret2
                  refine ⟨_, rfl, ?_, by (repeat' (first | with_reducible exact Below.refl _ _ | with_reducible assumption | with_reducible refine gr_alloc ?_ _ | with_reducible refine gr_drew ?_ | with_reducible refine gr_drewN ?_ _ | with_reducible refine gr_trans ?_ (by assumption) | with_reducible refine gr_set ?_ ?_ _ | (simp; done) | omega | (simp; omega)))⟩
                  simp only [if_true]
                  exact OwnV.arr3 (Arr3.new v6 _ _ _ _) (by omega)
              · have s3' : rng (-30) 30 d = false := by simpa using s3
                clear s3
                have k0 := K1.out hm (by simp [isS, s3'])
                subst k0
                go_wp2
                go_ret2
                exact ⟨_, rfl, .inl ⟨rfl, by simp⟩, by (repeat' (first | with_reducible exact Below.refl _ _ | with_reducible assumption | with_reducible refine gr_alloc ?_ _ | with_reducible refine gr_drew ?_ | with_reducible refine gr_drewN ?_ _ | with_reducible refine gr_trans ?_ (by assumption) | with_reducible refine gr_set ?_ ?_ _ | (simp; done) | omega | (simp; omega)))⟩
            · have s2' : rng (-30) 30 c = false := by simpa using s2
              clear s2
              have k0 := K1.out hm (by simp [isS, s2'])
              subst k0
              go_wp2
              go_ret2
              exact ⟨_, rfl, .inl ⟨rfl, by simp⟩, by (repeat' (first | with_reducible exact Below.refl _ _ | with_reducible assumption | with_reducible refine gr_alloc ?_ _ | with_reducible refine gr_drew ?_ | with_reducible refine gr_drewN ?_ _ | with_reducible refine gr_trans ?_ (by assumption) | with_reducible refine gr_set ?_ ?_ _ | (simp; done) | omega | (simp; omega)))⟩
          · have s1' : rng (-30) 30 b = false := by simpa using s1
            clear s1
            have k0 := K1.out hm (by simp [isS, s1'])
            subst k0
            go_wp2
            go_ret2
            exact ⟨_, rfl, .inl ⟨rfl, by simp⟩, by (repeat' (first | with_reducible exact Below.refl _ _ | with_reducible assumption | with_reducible refine gr_alloc ?_ _ | with_reducible refine gr_drew ?_ | with_reducible refine gr_drewN ?_ _ | with_reducible refine gr_trans ?_ (by assumption) | with_reducible refine gr_set ?_ ?_ _ | (simp; done) | omega | (simp; omega)))⟩
        · have s0' : rng (-30) 30 a = false := by simpa using s0
          clear s0
          have k0 := K1.out hm (by simp [isS, s0'])
          subst k0
          go_wp2
          go_ret2
          exact ⟨_, rfl, .inl ⟨rfl, by simp⟩, by (repeat' (first | with_reducible exact Below.refl _ _ | with_reducible assumption | with_reducible refine gr_alloc ?_ _ | with_reducible refine gr_drew ?_ | with_reducible refine gr_drewN ?_ _ | with_reducible refine gr_trans ?_ (by assumption) | with_reducible refine gr_set ?_ ?_ _ | (simp; done) | omega | (simp; omega)))⟩
      · have hy' : rng (-3) 3 y = false := by simpa using hy
        clear hy
        have k0 := K1.out hm (by simp [hx, hy'])
        subst k0
        go_wp2
        go_ret2
        exact ⟨_, rfl, .inl ⟨rfl, by simp⟩, by (repeat' (first | with_reducible exact Below.refl _ _ | with_reducible assumption | with_reducible refine gr_alloc ?_ _ | with_reducible refine gr_drew ?_ | with_reducible refine gr_drewN ?_ _ | with_reducible refine gr_trans ?_ (by assumption) | with_reducible refine gr_set ?_ ?_ _ | (simp; done) | omega | (simp; omega)))⟩
    · have hx' : rng (-3) 3 x = false := by simpa using hx
      clear hx
      have k0 := K1.out hm (by simp [hx'])
      subst k0
      go_wp2
      go_ret2
      exact ⟨_, rfl, .inl ⟨rfl, by simp⟩, by (repeat' (first | with_reducible exact Below.refl _ _ | with_reducible assumption | with_reducible refine gr_alloc ?_ _ | with_reducible refine gr_drew ?_ | with_reducible refine gr_drewN ?_ _ | with_reducible refine gr_trans ?_ (by assumption) | with_reducible refine gr_set ?_ ?_ _ | (simp; done) | omega | (simp; omega)))⟩
  · have hm' : isF a b c d = false := by simpa using hm
    clear hm
    have k0 := K2.out hm'
    subst k0
    go_wp2
    go_ret2
    exact ⟨_, rfl, .inl ⟨rfl, by simp⟩, by (repeat' (first | with_reducible exact Below.refl _ _ | with_reducible assumption | with_reducible refine gr_alloc ?_ _ | with_reducible refine gr_drew ?_ | with_reducible refine gr_drewN ?_ _ | with_reducible refine gr_trans ?_ (by assumption) | with_reducible refine gr_set ?_ ?_ _ | (simp; done) | omega | (simp; omega)))⟩

end Go.Proofs.Ytigbaelbeaobpaa
