/- Several texts in one: XPg, XPf. -/
import Derived.Test.YtikmjefbjejbkaaBbZ22

/- Chapter 2: insertion keeps lists in order. Mathematics; the model's contracts at the reduced forms of a class. -/
namespace Go.Proofs.Ytikmjefbjejbkaa
open Go.RowKit
namespace Rd
/-- In order, none twice. -/
def Srt (L : List Red.F4) : Prop := L.Pairwise Ls
/-- In order. -/
def Asc (L : List Red.F4) : Prop := L.Pairwise fun x y => ¬ Ls y x
theorem cut_perm (m : Red.F4) (L : List Red.F4) (k : Nat) : (L.take k ++ m :: L.drop k).Perm (m :: L) := by
  have h := List.perm_middle (a := m) (l₁ := L.take k) (l₂ := L.drop k)
  rwa [List.take_append_drop] at h
theorem Cut.left {m : Red.F4} {L : List Red.F4} {k : Nat} (h : Cut m L k) (hs : Asc L) : ∀ x ∈ L.take k, ¬ Ls m x := by
  intro x hx
  obtain ⟨i, hi⟩ := List.mem_iff_getElem?.1 hx
  rw [List.getElem?_take] at hi
  split at hi
  · rename_i hik
    have hk0 : 0 < k := by omega
    obtain ⟨h1, _, h3⟩ := h
    obtain ⟨q, hq⟩ : ∃ q, L[k - 1]? = some q := ⟨_, List.getElem?_eq_getElem (by omega)⟩
    have hmq := h3 q hk0 hq
    by_cases e : i = k - 1
    · subst e; rw [hq] at hi; cases hi; exact hmq
    · have hil : i < L.length := by omega
      have hxq : ¬ Ls q x := by
        have := List.pairwise_iff_getElem.1 hs i (k - 1) hil (by omega) (by omega)
        rw [List.getElem?_eq_getElem hil] at hi
        rw [List.getElem?_eq_getElem (by omega)] at hq
        cases hi; cases hq; exact this
      exact fun hc => hmq (by
        rcases Classical.em (Ls m q) with h | h
        · exact h
        · exact absurd hc (Ls.ntrans h hxq))
  · cases hi
theorem Cut.right {m : Red.F4} {L : List Red.F4} {k : Nat} (h : Cut m L k) : ∀ x ∈ L.drop k, Ls m x := by
  intro x hx
  obtain ⟨i, hi⟩ := List.mem_iff_getElem?.1 hx
  rw [List.getElem?_drop] at hi
  exact h.2.1 (k + i) x (by omega) hi
theorem Ls.asymm {x y : Red.F4} (h : Ls x y) : ¬ Ls y x := fun k => Ls.irrefl x (h.trans k)
theorem Cut.asc {m : Red.F4} {L : List Red.F4} {k : Nat} (h : Cut m L k) (hs : Asc L) : Asc (L.take k ++ m :: L.drop k) := by
  unfold Asc
  rw [List.pairwise_append, List.pairwise_cons]
  have hs' := hs
  unfold Asc at hs'
  rw [← List.take_append_drop k L, List.pairwise_append] at hs'
  refine ⟨hs'.1, ⟨fun y hy => (h.right y hy).asymm, hs'.2.1⟩, fun x hx y hy => ?_⟩
  rcases List.mem_cons.1 hy with rfl | hy
  · exact h.left hs x hx
  · exact hs'.2.2 x hx y hy
theorem Srt.asc {L : List Red.F4} (h : Srt L) : Asc L := List.Pairwise.imp (fun h => h.asymm) h
theorem Cut.srt {m : Red.F4} {L : List Red.F4} {k : Nat} (h : Cut m L k) (hs : Srt L) (hm : ∀ q, 0 < k → L[k - 1]? = some q → q ≠ m) : Srt (L.take k ++ m :: L.drop k) := by
  have hl := h.left hs.asc
  unfold Srt
  rw [List.pairwise_append, List.pairwise_cons]
  have hs' := hs
  unfold Srt at hs'
  rw [← List.take_append_drop k L, List.pairwise_append] at hs'
  refine ⟨hs'.1, ⟨fun y hy => h.right y hy, hs'.2.1⟩, fun x hx y hy => ?_⟩
  rcases List.mem_cons.1 hy with rfl | hy
  · rcases Classical.em (Ls x y) with h1 | h1
    · exact h1
    · have e : x = y := Ls.total h1 (hl x hx)
      obtain ⟨i, hi⟩ := List.mem_iff_getElem?.1 hx
      rw [List.getElem?_take] at hi
      split at hi
      · rename_i hik
        have hk0 : 0 < k := by omega
        have hkl := h.1
        obtain ⟨q, hq⟩ : ∃ q, L[k - 1]? = some q := ⟨_, List.getElem?_eq_getElem (by omega)⟩
        by_cases e2 : i = k - 1
        · subst e2; exact absurd e (hm x hk0 hi)
        · have hil : i < L.length := by omega
          have hxq : Ls x q := by
            have := List.pairwise_iff_getElem.1 hs i (k - 1) hil (by omega) (by omega)
            rw [List.getElem?_eq_getElem hil] at hi
            rw [List.getElem?_eq_getElem (by omega)] at hq
            cases hi; cases hq; exact this
          subst e
          exact absurd hxq (h.2.2 q hk0 hq)
      · cases hi
  · exact hs'.2.2 x hx y hy
theorem cut_mem (m : Red.F4) (L : List Red.F4) (k : Nat) (q : Red.F4) : q ∈ L.take k ++ m :: L.drop k ↔ q ∈ L ∨ q = m := by
  rw [(cut_perm m L k).mem_iff, List.mem_cons]
  exact Or.comm
/-- Two lists in order with the same members are one. -/
theorem Srt.eq : ∀ {L M : List Red.F4}, Srt L → Srt M → (∀ q, q ∈ L ↔ q ∈ M) → L = M
  | [], [], _, _, _ => rfl
  | [], y :: M, _, _, h => by have := (h y).2 (by simp); cases this
  | x :: L, [], _, _, h => by have := (h x).1 (by simp); cases this
  | x :: L, y :: M, h1, h2, h => by
    obtain ⟨a1, a2⟩ := List.pairwise_cons.1 h1
    obtain ⟨b1, b2⟩ := List.pairwise_cons.1 h2
    have e : x = y := by
      rcases List.mem_cons.1 ((h x).1 (by simp)) with e | hx
      · exact e
      · rcases List.mem_cons.1 ((h y).2 (by simp)) with e | hy
        · exact e.symm
        · exact absurd ((a1 y hy).trans (b1 x hx)) (Ls.irrefl x)
    subst e
    have : L = M := Srt.eq a2 b2 (fun q => by
      constructor
      · intro hq
        rcases List.mem_cons.1 ((h q).1 (List.mem_cons_of_mem _ hq)) with e | hq'
        · subst e; exact absurd (a1 q hq) (Ls.irrefl q)
        · exact hq'
      · intro hq
        rcases List.mem_cons.1 ((h q).2 (List.mem_cons_of_mem _ hq)) with e | hq'
        · subst e; exact absurd (b1 q hq) (Ls.irrefl q)
        · exact hq')
    rw [this]
/-- Two lists in order with the same members, as often, are one. -/
theorem Asc.eq {L M : List Red.F4} (h1 : Asc L) (h2 : Asc M) (h : L.Perm M) : L = M :=
  List.Perm.eq_of_pairwise (fun _ _ _ _ h k => Ls.total k h) h1 h2 h
end Rd
theorem sid_rd (t : Red.F4) (s : Bool) (hs : decide (0 < dsc t.1 t.2.1 t.2.2.1 t.2.2.2) = s) : (sid t.1 t.2.1 t.2.2.1 t.2.2.2 = 0 ↔ Red.rdF s t = true) := by
  obtain ⟨a, b, c, d⟩ := t
  dsimp only at hs ⊢
  have e2 : -(a - b) * (a - b) = -((a - b) * (a - b)) := by rw [Int.neg_mul]
  unfold sid Red.rdF Red.isR
  dsimp only
  simp only [Bool.and_eq_true, decide_eq_true_eq]
  cases s with
  | true =>
    have hD : 0 < dsc a b c d := by simpa using hs
    rw [if_pos hD]
    simp only [Red.lf, Red.rt, Red.hg, if_true, sd1]
    generalize b * b - 3 * a * c = P at *
    generalize b * c - 9 * a * d = Q at *
    generalize c * c - 3 * b * d = R at *
    (repeat' split) <;> omega
  | false =>
    have hD : ¬ 0 < dsc a b c d := by simpa using hs
    rw [if_neg hD]
    simp only [Red.lf, Red.rt, Red.hg, Bool.false_eq_true, if_false, sd2, e2]
    generalize (a - b) * (a - b) = s at *
    generalize (a + b) * (a + b) = t at *
    generalize a * c = u at *
    generalize a * d = v at *
    generalize b * c = x at *
    generalize d * d = y at *
    generalize a * a = z at *
    generalize b * d = m at *
    (repeat' split) <;> omega
theorem sCh_any (T u : Red.F4) (hb : Red.Bd (Rd.ch T u)) (w : World) : Calls Try.prog 110 #[vF T, vF u] w fun e w' => e = .returned (vF (Rd.ch T u)) ∧ Below w.heap.size w w' := by
  obtain ⟨a, b, c, d⟩ := T
  obtain ⟨x, y, z, t⟩ := u
  have h := sChange0_any a b c d x y z t w
  rw [ch_cA] at hb ⊢
  obtain ⟨h1, h2, h3, h4⟩ := hb
  dsimp only at h1 h2 h3 h4
  rw [wr_in (by omega), wr_in (by omega), wr_in (by omega), wr_in (by omega)] at h
  exact h

end Go.Proofs.Ytikmjefbjejbkaa

/- Chapter 2: the model's l02Forms. -/
namespace Go.Proofs.Ytikmjefbjejbkaa
open Go.RowKit

/-- The reduced forms by the units of a list. -/
def Rd.Got (s : Bool) (T : Red.F4) (us : List Red.F4) (xs : List Red.F4) : Prop := Rd.Srt xs ∧ ∀ q, q ∈ xs ↔ ∃ u ∈ us, Red.rdF s (Rd.ch T u) = true ∧ Rd.ch T u = q
def FormsOut (s : Bool) (T : Red.F4) (us : List Red.F4) (w : World) (e : Ending) (w' : World) : Prop :=
  ∃ g n cap xs, e = .returned (.slice (some ⟨g, 0, none⟩) n cap) ∧ Rd.Got s T us xs ∧ xs.length ≤ us.length ∧ RowFm w.heap.size w' (.slice (some ⟨g, 0, none⟩) n cap) xs ∧ Below w.heap.size w w'
theorem RowFm.rda {w : World} {B g n cap : Nat} {L : List Red.F4} (h : RowFm B w (.slice (some ⟨g, 0, none⟩) n cap) L) : RdA w g cap L ∧ n = L.length := by
  obtain ⟨a, c, e⟩ := h.val
  cases e
  exact ⟨RdA.of h, rfl⟩
theorem RowFm.lt {w : World} {B : Nat} {v : Value} {L : List Red.F4} (h : RowFm B w v L) (q : Nat) (hq : v.ownBlock = some q) : B ≤ q ∧ q < w.heap.size := World.ownsRow.lt h q hq
theorem RowFm.set4 {w : World} {B k : Nat} {v : Value} {L : List Red.F4} (h : RowFm B w v L) (hk : ∀ q, v.ownBlock = some q → q ≠ k) (x y z u : Value) : RowFm B ((((w.setCell ⟨k, 0, none⟩ x).setCell ⟨k, 1, none⟩ y).setCell ⟨k, 2, none⟩ z).setCell ⟨k, 3, none⟩ u) v L := by
  have hne : v.ownBlock = none ∨ v.ownBlock ≠ some k := by
    cases hv : v.ownBlock with
    | none => exact .inl rfl
    | some q => exact .inr (fun e => by cases e; exact hk k hv rfl)
  exact (((World.ownsRow.kept h (grownBy_cell _ k 0 x) hne).kept (grownBy_cell _ k 1 y) hne).kept (grownBy_cell _ k 2 z) hne).kept (grownBy_cell _ k 3 u) hne
theorem At4.set4 {w : World} {b o k : Nat} {x y z u : Int} (h : At4 w b o x y z u) (hne : b ≠ k) (p q r s : Value) : At4 ((((w.setCell ⟨k, 0, none⟩ p).setCell ⟨k, 1, none⟩ q).setCell ⟨k, 2, none⟩ r).setCell ⟨k, 3, none⟩ s) b o x y z u := by
  have st : ∀ (w : World) (i : Nat) (v : Value), At4 w b o x y z u → At4 (w.setCell ⟨k, i, none⟩ v) b o x y z u := fun w i v h => by
    have ne : ∀ o', (⟨k, i, none⟩ : Addr) ≠ ⟨b, o', none⟩ := fun o' e => hne (by cases e; rfl)
    exact ⟨by rw [World.size_setCell]; exact h.lt, (World.cell?_setCell_other _ _ _ _ (ne _)).trans h.c0, (World.cell?_setCell_other _ _ _ _ (ne _)).trans h.c1, (World.cell?_setCell_other _ _ _ _ (ne _)).trans h.c2, (World.cell?_setCell_other _ _ _ _ (ne _)).trans h.c3⟩
  exact st _ _ _ (st _ _ _ (st _ _ _ (st _ _ _ h)))
set_option maxRecDepth 100000 in
set_option maxHeartbeats 4000000 in
theorem sForms_any (s : Bool) (T : Red.F4) (hU : Red.UB T) (hs : ∀ u, Rd.Sm u → Rd.dt u * Rd.dt u = 1 → decide (0 < dsc (Rd.ch T u).1 (Rd.ch T u).2.1 (Rd.ch T u).2.2.1 (Rd.ch T u).2.2.2) = s) (w : World) :
    Calls Try.prog 71 #[vF T] w (FormsOut s T (Rd.uni 81) w) := by
  have hum : ∀ u ∈ Rd.uni 81, Rd.Sm u ∧ Rd.dt u * Rd.dt u = 1 := fun u hu => Rd.uni_mem (Nat.le_refl _) hu
  have hul := Rd.uni_len 81
  have hun := fun W => sUnits_any W
  unfold UnOut at hun
  generalize Rd.uni 81 = us at *
  have HC := hid (fun u (h1 : Rd.Sm u) (h2 : Rd.dt u * Rd.dt u = 1) W => sCh_any T u (Rd.ch_bd hU h1 h2) W)
  have HI := hid (fun u (h1 : Rd.Sm u) (h2 : Rd.dt u * Rd.dt u = 1) W => sSideB_any (Rd.ch T u).1 (Rd.ch T u).2.1 (Rd.ch T u).2.2.1 (Rd.ch T u).2.2.2 W (Rd.ch_bd hU h1 h2))
  have HS := hid (fun u (h1 : Rd.Sm u) (h2 : Rd.dt u * Rd.dt u = 1) => sid_rd (Rd.ch T u) s (hs u h1 h2))
  have HN := hid hun; have HM := hid hum; have HL := hid hul
  clear hU hs hun hum hul
  obtain ⟨ta, tb, tc, td⟩ := T
  unfold vF at HC ⊢
  dsimp only at HC ⊢
  have A0 := Arr.new w ta tb tc td 26
  have U0 := gr_alloc (Below.refl w.heap.size w) (.cells #[.int .i64 ta, .int .i64 tb, .int .i64 tc, .int .i64 td] 26)
  go_enter Try.func71, Try.ntmps71
  go_wp2_with fail
  generalize w.alloc (.cells #[.int .i64 ta, .int .i64 tb, .int .i64 tc, .int .i64 td] 26) = W0 at A0 U0 ⊢
  refine (HN.out _).mono ?_
  rintro e W1 ⟨uv, rfl, hrow, hb1⟩
  have A1 := A0.next hb1; have U1 := gr_trans U0 hb1
  obtain ⟨av, cv, rfl⟩ := hrow.val
  have R1 := hrow.next (gr_alloc (Below.refl W1.heap.size W1) (.cells #[] 26))
  have E1 := RowFm.empty w.heap.size W1 U1.size
  have A2 := A1.alloc (.cells #[] 26)
  have U2 := gr_alloc U1 (.cells #[] 26)
  clear A0 U0 A1 U1 hrow hb1
  go_wp2_with fail
  generalize hj0 : W1.heap.size = j0 at *
  generalize W1.alloc (.cells #[] 26) = W2 at R1 E1 A2 U2 ⊢
  clear hj0
  have HR := hid R1; have HE := hid E1; have HA := hid A2; have HU := hid U2
  clear R1 E1 A2 U2
  go_loopw [4, 5] (fun s4 s5 wr => ∃ (k n gx cx : Nat) (xs : List Red.F4), s4 = .slice (some ⟨gx, 0, none⟩) n cx ∧ s5 = .int .i64 ((k : Int)) ∧ k ≤ us.length ∧ xs.length ≤ k ∧ RowFm w.heap.size wr (.slice (some ⟨gx, 0, none⟩) n cx) xs ∧ Hid (Rd.Got s (ta, tb, tc, td) (us.take k) xs) ∧ Below W2.heap.size W2 wr) (fun _ s5 _ => us.length - (intOf s5).toNat)
  case atStart => exact ⟨0, 0, _, 0, [], rfl, rfl, Nat.zero_le _, Nat.le_refl _, HE.out, hid ⟨List.Pairwise.nil, by simp⟩, Below.refl _ _⟩
  case round =>
    obtain ⟨k, n, gx, cx, xs, rfl, rfl, hk, hxk, hrx, hgot, hB⟩ := hrel
    have HRX := hid hrx; have HB := hid hB; have HK := hid hk; have HXK := hid hxk
    clear hrx hB hk hxk
    by_cases hlt : k < us.length
    · obtain ⟨q, hq⟩ : ∃ q, us[k]? = some q := ⟨_, List.getElem?_eq_getElem hlt⟩
      obtain ⟨hq1, hq2⟩ := HM.out q (List.mem_of_getElem? hq)
      have htk : us.take (k + 1) = us.take k ++ [q] := by rw [List.take_add_one, hq]; rfl
      have hr := HR.out.next (HB.out.mono (Nat.le_refl _))
      obtain ⟨gu, cu, hv, _, hc1, hc2, hat⟩ := hr.at hq
      cases hv
      unfold maxLen at hc2
      have HC1 := hid (HC.out q hq1 hq2)
      have HI1 := hid (HI.out q hq1 hq2)
      have HS1 := hid (HS.out q hq1 hq2)
      have HTK := hid htk
      have hn := HL.out
      clear hr hq hq1 hq2 htk
      obtain ⟨q0, q1, q2, q3⟩ := q
      dsimp only at HC1 HI1 hat
      have At1 := HA.out.next HB.out
      obtain ⟨_, u0, u1, u2, u3⟩ := id hat
      obtain ⟨_, t0, t1, t2, t3, _⟩ := id At1
      have e81 : decide ((k : Int) < (us.length : Int)) = true := by simp; omega
      have hk0 : (0 : Int) ≤ (k : Int) := by omega
      have hkl : (k : Int) < (us.length : Int) := by omega
      go_upto_region 5 with fail
      have hX8 := HRX.out
      have hUw := HU.out.size
      have hBw := HB.out.size
      clear u0 u1 u2 u3 t0 t1 t2 t3
      generalize hch : Rd.ch (ta, tb, tc, td) (q0, q1, q2, q3) = fch at HC1 HI1 HS1
      obtain ⟨f0, f1, f2, f3⟩ := fch
      have HCH := hid hch
      clear hch
      dsimp only at HC1 HI1 HS1
      go_cut [6] (fun s6 wx => ∃ jf : Nat, s6 = .pointer (some ⟨jf, 0, none⟩) ∧ W2.heap.size ≤ jf ∧ Arr wx jf f0 f1 f2 f3 ∧ RowFm w.heap.size wx (.slice (some ⟨gx, 0, none⟩) n cx) xs ∧ Below W2.heap.size W2 wx)
      case first =>
        obtain ⟨_, u0, u1, u2, u3⟩ := id hat
        obtain ⟨_, t0, t1, t2, t3, _⟩ := id At1
        go_region_held3 (fun W => W.cell? ⟨gu, k * 4, none⟩ = some (.int .i64 q0) ∧ W.cell? ⟨gu, k * 4 + 1, none⟩ = some (.int .i64 q1) ∧ W.cell? ⟨gu, k * 4 + 2, none⟩ = some (.int .i64 q2) ∧ W.cell? ⟨gu, k * 4 + 3, none⟩ = some (.int .i64 q3) ∧ W.cell? ⟨w.heap.size, 0, none⟩ = some (.int .i64 ta) ∧ W.cell? ⟨w.heap.size, 1, none⟩ = some (.int .i64 tb) ∧ W.cell? ⟨w.heap.size, 2, none⟩ = some (.int .i64 tc) ∧ W.cell? ⟨w.heap.size, 3, none⟩ = some (.int .i64 td)) (first | exact cells8M Q6 A6 | exact cells8M Q5 A5 | exact cells8M (Q5.alloc _) (A5.alloc _) | exact cells8M hat.drew At1.drew | exact cells8M (hat.drew.alloc _) (At1.drew.alloc _)) ((first
          | (go_at_call 110; refine (HC1.out _).mono ?_; rintro e w5 ⟨rfl, hb5⟩; have A5 := At1.drew.next hb5; have Q5 := hat.drew.next hb5 hat.lt; have B5 := gr_trans (gr_drew HB.out) hb5; have X5 := (hX8.next (gr_drew (Below.refl _ wr))).next hb5; have S5 := hb5.size)
          | (go_at_call 110; refine (HC1.out _).mono ?_; rintro e w5 ⟨rfl, hb5⟩; have A5 := (At1.drew.alloc (.cells #[.int .i64 0, .int .i64 0, .int .i64 0, .int .i64 0] 26)).next hb5; have Q5 := (hat.drew.alloc (.cells #[.int .i64 0, .int .i64 0, .int .i64 0, .int .i64 0] 26)).next hb5 (by have := hat.lt; simp; omega); have Z5 : Arr w5 wr.heap.size 0 0 0 0 := (Arr.new wr.drew 0 0 0 0 26).next hb5; have B5 := gr_trans (gr_alloc (gr_drew HB.out) (.cells #[.int .i64 0, .int .i64 0, .int .i64 0, .int .i64 0] 26)) hb5; have X5 := ((hX8.next (gr_drew (Below.refl _ wr))).next (gr_alloc (Below.refl _ wr.drew) (.cells #[.int .i64 0, .int .i64 0, .int .i64 0, .int .i64 0] 26))).next hb5; have S5 := hb5.size; obtain ⟨_, z0, z1, z2, z3, y0, y1, y2, y3⟩ := id Z5; have A6 := A5.oth4M (i := wr.heap.size) (by omega) (.int .i64 f0) (.int .i64 f1) (.int .i64 f2) (.int .i64 f3); have Q6 : At4 ((((w5.setCell ⟨wr.heap.size, 0, none⟩ (.int .i64 f0)).setCell ⟨wr.heap.size, 1, none⟩ (.int .i64 f1)).setCell ⟨wr.heap.size, 2, none⟩ (.int .i64 f2)).setCell ⟨wr.heap.size, 3, none⟩ (.int .i64 f3)) gu (k * 4) q0 q1 q2 q3 := Q5.set4 (by have := hat.lt; omega) _ _ _ _)))
        all_goals (go_wp2_with fail)
        · go_meet
          refine ⟨_, rfl, by have := S5; simp at this; omega, Arr.new _ _ _ _ _ _, X5.next (gr_alloc (Below.refl _ _) _), gr_alloc B5 _⟩
        · go_meet
          exact ⟨_, rfl, by omega, Arr.store4 Z5.box, X5.set4 (fun q hq => by have := (hX8.lt q hq).2; omega) _ _ _ _, by (repeat' (first | with_reducible exact Below.refl _ _ | with_reducible assumption | with_reducible refine gr_alloc ?_ _ | with_reducible refine gr_drew ?_ | with_reducible refine gr_drewN ?_ _ | with_reducible refine gr_trans ?_ (by assumption) | with_reducible refine gr_set ?_ ?_ _ | (simp; done) | omega | (simp; omega)))⟩
      case rest =>
        obtain ⟨jf, rfl, hjf, F1, X1, B1⟩ := hcut
        clear hat At1 hX8
        obtain ⟨_, c0, c1, c2, c3, _⟩ := id F1
        go_wp2_with fail
        refine (HI1.out _).mono ?_
        rintro e w6 ⟨rfl, hb6⟩
        have F2 := hid (F1.next hb6); have X2 := hid (X1.next hb6); have B2 := hid (gr_trans B1 hb6)
        clear F1 X1 B1 c0 c1 c2 c3 hb6 HI1 HC1
        by_cases hz : Red.rdF s (f0, f1, f2, f3) = true
        rotate_left 1
        · have hsd : (sid f0 f1 f2 f3 != 0) = true := by simp only [bne_iff_ne, ne_eq]; exact fun e => hz (HS1.out.1 e)
          have HGN := hid (show Rd.Got s (ta, tb, tc, td) (us.take (k + 1)) xs from ⟨hgot.out.1, fun p => by
            rw [hgot.out.2, HTK.out]
            constructor
            · rintro ⟨u, h1, h2⟩; exact ⟨u, by simp [h1], h2⟩
            · rintro ⟨u, h1, h2, h3⟩
              rcases List.mem_append.1 h1 with h1 | h1
              · exact ⟨u, h1, h2, h3⟩
              · rw [List.mem_singleton] at h1; subst h1; rw [HCH.out] at h2; exact absurd h2 hz⟩)
          clear hz
          generalize sid f0 f1 f2 f3 = sd at *
          go_wp2_with fail
          exact ⟨⟨k + 1, n, gx, cx, xs, rfl, by go_num, by omega, by have := HXK.out; omega, X2.out, HGN, B2.out⟩, by simp [intOf]; omega⟩
        · have hsd0 : sid f0 f1 f2 f3 = 0 := HS1.out.2 hz
          have HGT := hid (show ∀ ys, Rd.Srt ys → (∀ p, p ∈ ys ↔ p ∈ xs ∨ p = (f0, f1, f2, f3)) → Rd.Got s (ta, tb, tc, td) (us.take (k + 1)) ys from fun ys h1 h2 => ⟨h1, fun p => by
            rw [h2, hgot.out.2, HTK.out]
            constructor
            · rintro (⟨u, h1, h2⟩ | rfl)
              · exact ⟨u, by simp [h1], h2⟩
              · exact ⟨(q0, q1, q2, q3), by simp, by rw [HCH.out]; exact hz, HCH.out⟩
            · rintro ⟨u, h1, h2, h3⟩
              rcases List.mem_append.1 h1 with h1 | h1
              · exact .inl ⟨u, h1, h2, h3⟩
              · rw [List.mem_singleton] at h1; subst h1; rw [HCH.out] at h3; exact .inr h3.symm⟩)
          have HNX : Hid (xs.length = n) := hid X2.out.rda.2.symm
          have HXL : Hid (xs.length ≤ 81) := hid (by have := HXK.out; omega)
          have hmx := X2.out.rda.1.mx
          unfold maxLen at hmx
          have hle := X2.out.rda.1.le
          rw [HNX.out] at hle
          clear hz
          rw [hsd0]
          clear hsd0 HS1
          go_wp2_with fail
          go_loopw [7] (fun s7 wi => ∃ k2 : Nat, s7 = .int .i64 ((k2 : Int)) ∧ k2 ≤ n ∧ Hid (∀ i q, k2 ≤ i → xs[i]? = some q → Rd.Ls (f0, f1, f2, f3) q) ∧ Below w6.heap.size w6 wi) (fun s7 _ => (intOf s7).toNat)
          case atStart => exact ⟨n, rfl, Nat.le_refl _, hid (fun i q h1 h2 => by have := (List.getElem?_eq_some_iff.1 h2).1; have := HNX.out; omega), Below.refl _ _⟩
          case round =>
            obtain ⟨k2, rfl, hk2, hall, hB⟩ := hrel
            have A1 := F2.out.next hB; have R1 := X2.out.rda.1.next hB X2.out.rda.1.lt
            by_cases hk0 : 0 < k2
            · obtain ⟨p, hp⟩ : ∃ p, xs[k2 - 1]? = some p := ⟨_, List.getElem?_eq_getElem (by have := HNX.out; omega)⟩
              have Q1 := R1.at4 _ _ hp
              obtain ⟨p0, p1, p2, p3⟩ := p
              dsimp only at Q1
              obtain ⟨j, hj⟩ : ∃ j, j = k2 - 1 := ⟨_, rfl⟩
              rw [← hj] at Q1 hp
              have HQ := hid hp
              clear hp
              obtain ⟨_, c0, c1, c2, c3⟩ := id Q1
              obtain ⟨_, d0, d1, d2, d3, _⟩ := id A1
              have e1 : decide ((0 : Int) < (k2 : Int)) = true := by simp only [decide_eq_true_eq]; omega
              have e0 : (k2 : Int) - 1 = (j : Int) := by omega
              have e2 : IntKind.i64.wrap ((k2 : Int) - 1) = (j : Int) := by rw [e0, IntWalk.i64_left]; exact IntWalk.wrap64_in _ (by have := hj; omega)
              clear e0
              have hj0 : (0 : Int) ≤ (j : Int) := by omega
              have hjn : (j : Int) < (n : Int) := by omega
              have HJ := hid hj
              clear hj
              go_wp2_with fail
              go_region_held3 (fun W => W.cell? ⟨gx, j * 4, none⟩ = some (.int .i64 p0) ∧ W.cell? ⟨gx, j * 4 + 1, none⟩ = some (.int .i64 p1) ∧ W.cell? ⟨gx, j * 4 + 2, none⟩ = some (.int .i64 p2) ∧ W.cell? ⟨gx, j * 4 + 3, none⟩ = some (.int .i64 p3) ∧ W.cell? ⟨jf, 0, none⟩ = some (.int .i64 f0) ∧ W.cell? ⟨jf, 1, none⟩ = some (.int .i64 f1) ∧ W.cell? ⟨jf, 2, none⟩ = some (.int .i64 f2) ∧ W.cell? ⟨jf, 3, none⟩ = some (.int .i64 f3)) (first | exact cells8M Q5 A5 | exact cells8M Q1.drew A1.drew) ((go_at_call 117; refine (sLess_any f0 f1 f2 f3 p0 p1 p2 p3 _).mono ?_; rintro e w5 ⟨rfl, hb5⟩; have A5 := A1.drew.next hb5; have Q5 := Q1.drew.next hb5 Q1.lt; have B5 := gr_trans (gr_drew hB) hb5))
              clear c0 c1 c2 c3 d0 d1 d2 d3 A1 R1 Q1
              cases hz : Rd.ls (f0, f1, f2, f3) (p0, p1, p2, p3) with
              | true =>
                have hls := (Rd.ls_iff _ _).1 hz
                have HALL := hid (show ∀ i q, j ≤ i → xs[i]? = some q → Rd.Ls (f0, f1, f2, f3) q from fun i q h1 h2 => by
                  by_cases e : i = j
                  · subst e; rw [HQ.out] at h2; cases h2; exact hls
                  · exact hall.out i q (by have := HJ.out; omega) h2)
                have HB5 := hid B5
                clear hz hls hall B5 hB A5 Q5 hb5
                go_wp2_with fail
                go_roundw
                case rel => exact ⟨j, rfl, by have := HJ.out; omega, HALL, HB5.out⟩
                case measure => have := HJ.out; simp [intOf]; omega
              | false =>
                have hls : ¬ Rd.Ls (f0, f1, f2, f3) (p0, p1, p2, p3) := fun h => by rw [(Rd.ls_iff _ _).2 h] at hz; cases hz
                have R5 := hid (X2.out.rda.1.next B5 X2.out.rda.1.lt)
                have B6 := hid (gr_trans B2.out B5)
                have X6 := hid (X2.out.next B5)
                have A6 := hid A5; have Q6 := hid Q5
                clear hb5 hB A5 Q5 B5
                go_upto_region 10 with fail
                have A7 := A6.out; have Q7 := Q6.out
                obtain ⟨_, c0, c1, c2, c3⟩ := id Q7
                obtain ⟨_, d0, d1, d2, d3, _⟩ := id A7
                by_cases hpf : p0 = f0 ∧ p1 = f1 ∧ p2 = f2 ∧ p3 = f3
                · have heq : ∀ w, (Op.equalIn 10000 26 (.agg #[.int .i64 p0, .int .i64 p1, .int .i64 p2, .int .i64 p3]) (.agg #[.int .i64 f0, .int .i64 f1, .int .i64 f2, .int .i64 f3])).run Try.prog w = .ok true w := fun w => by obtain ⟨e0, e1, e2, e3⟩ := hpf; rw [eqForm_run, e0, e1, e2, e3]; simp
                  have HGN := hid (HGT.out xs hgot.out.1 (fun q => ⟨.inl, fun h => h.elim id (fun e => by obtain ⟨e0, e1, e2, e3⟩ := hpf; rw [e, ← e0, ← e1, ← e2, ← e3]; exact List.mem_of_getElem? HQ.out)⟩))
                  clear hpf
                  go_quiet (fail)
                  go_wp2_with fail
                  exact ⟨⟨k + 1, n, gx, cx, xs, rfl, by go_num, by omega, by have := HXK.out; omega, X6.out.next (gr_drewN (Below.refl _ w5) nq), HGN, gr_drewN B6.out nq⟩, by simp [intOf]; omega⟩
                · have heq : ∀ w, (Op.equalIn 10000 26 (.agg #[.int .i64 p0, .int .i64 p1, .int .i64 p2, .int .i64 p3]) (.agg #[.int .i64 f0, .int .i64 f1, .int .i64 f2, .int .i64 f3])).run Try.prog w = .ok false w := fun w => by rw [eqForm_run]; congr 1; simp only [Bool.and_eq_false_iff, beq_eq_false_iff_ne]; omega
                  have HNE := hid hpf
                  clear hpf
                  go_quiet (fail)
                  have A1 := hid (A7.drewN nq); have R1 := hid (R5.out.next (gr_drewN (Below.refl _ w5) nq) R5.out.lt); have B1 := hid (gr_drewN B6.out nq)
                  clear c0 c1 c2 c3 d0 d1 d2 d3 A7 Q7 A6 Q6 R5 B6 heq
                  generalize w5.drewN nq = wd at A1 R1 B1 ⊢
                  have HT := hid (show Rd.Cut (f0, f1, f2, f3) xs k2 from ⟨by have := HNX.out; omega, hall.out, fun q _ h => by rw [← HJ.out, HQ.out] at h; cases h; exact hls⟩)
                  have HND := hid (show ∀ q, 0 < k2 → xs[k2 - 1]? = some q → q ≠ (f0, f1, f2, f3) from fun q _ h e => by rw [← HJ.out, HQ.out] at h; cases h; simp only [Prod.mk.injEq] at e; exact HNE.out e)
                  have HA5 := hid A1.out; have HR5 := hid R1.out; have HB5 := hid B1.out
                  clear hall hls A1 R1 B1
                  have hkn : (k2 : Int) ≤ (n : Int) := by omega
                  have hkc : (k2 : Int) ≤ (cx : Int) := by have := HR5.out.le; have := HNX.out; omega
                  have hk00 : (0 : Int) ≤ (k2 : Int) := by omega
                  go_upto_region 11 with fail
                  obtain ⟨_, d0, d1, d2, d3, _⟩ := id HA5.out.drew
                  go_region_held3 (fun W => W.cell? ⟨jf, 0, none⟩ = some (.int .i64 f0) ∧ W.cell? ⟨jf, 1, none⟩ = some (.int .i64 f1) ∧ W.cell? ⟨jf, 2, none⟩ = some (.int .i64 f2) ∧ W.cell? ⟨jf, 3, none⟩ = some (.int .i64 f3)) (first | exact cells4 A7 | exact cells4 HA5.out.drew | exact cells4 (HA5.out.drew.alloc _)) ((refine stepF rfl (.tmp 53) (.tmp 56) rfl w.heap.size (.slice (some ⟨wd.drew.heap.size, 0, none⟩) 1 1) [(f0, f1, f2, f3)] (xs.drop k2) rfl (one_row _ wd.drew f0 f1 f2 f3 (by have := HB5.out.size; simp; omega)) (by simp) (adr gx cx k2) (n - k2) (cx - k2) (congrArg (fun o => Value.slice o (n - k2) (cx - k2)) (adr_some gx cx k2)) (by rw [List.length_drop, HNX.out]) ((HR5.out.drew.next (gr_alloc (Below.refl _ _) _) HR5.out.drew.lt).cellsR HNX.out k2) (by simp; have := HXL.out; omega) (by have := HB5.out.size; simp; omega) ?_; intro g7 n7 cap7 w7 hn7 r7 h7; have HN7 := hid hn7; clear hn7; have A7 := (HA5.out.drew.alloc (.cells #[.int .i64 f0, .int .i64 f1, .int .i64 f2, .int .i64 f3] 26)).grownB h7 (by simp [Value.ownBlock]; have := HA5.out.lt; omega)))
                  have hr7 := r7.lt
                  have R7 := (HR5.out.drew.next (gr_alloc (Below.refl _ (wd.drew)) (.cells #[.int .i64 f0, .int .i64 f1, .int .i64 f2, .int .i64 f3] 26)) HR5.out.drew.lt).grownB h7 (by simp [Value.ownBlock]; have := HR5.out.lt; omega)
                  have U7 : Below W2.heap.size W2 w7 := (gr_alloc (gr_drew HB5.out) (.cells #[.int .i64 f0, .int .i64 f1, .int .i64 f2, .int .i64 f3] 26)).grown h7 (by have := HB5.out.size; simp; omega) (fun q e => by simp [Value.ownBlock] at e; subst e; have := HB5.out.size; simp; omega)
                  have hg7 : g7 < w7.heap.size := (hr7 g7 rfl).2
                  have hw7 : W2.heap.size ≤ w7.heap.size := U7.size
                  have R8 := R7.next (gr_alloc (Below.refl _ w7) (.cells #[] 26)) R7.lt
                  have E8 := RowFm.empty W2.heap.size w7 hw7
                  have Q8 := r7.next (gr_alloc (Below.refl _ w7) (.cells #[] 26))
                  have U8 := gr_alloc U7 (.cells #[] 26)
                  have tok1 : True := trivial
                  clear HA5 HR5 HB5 R7 d0 d1 d2 d3 A7 hr7
                  have HR8 := hid R8; have HE8 := hid E8; have HQ8 := hid Q8; have HU8 := hid U8; have HU7 := hid U7
                  clear R8 E8 Q8 U8 r7 h7 U7
                  go_wp2_with (first
                    | (at_builtin; have _t := tok1; refine appF rfl _ _ rfl W2.heap.size (.slice (some ⟨w7.heap.size, 0, none⟩) 0 0) [] (xs.take k2) rfl HE8.out (by simp) ⟨gx, 0, none⟩ k2 cx rfl (by rw [List.length_take, HNX.out]; omega) (HR8.out.cells0 k2) (by simp; have := HXL.out; omega) (by simp; omega) ?_; intro g8 n8 cap8 w8 hn8 r8 h8; have HN8 := hid hn8; clear hn8; clear tok1)
                    | (at_builtin; refine appF rfl _ _ rfl W2.heap.size (.slice (some ⟨g8, 0, none⟩) n8 cap8) ([] ++ xs.take k2) ([(f0, f1, f2, f3)] ++ xs.drop k2) rfl r8 (by simp) ⟨g7, 0, none⟩ n7 cap7 rfl (by rw [HN7.out, List.length_append]) (fun j u hj => (RdA.grownB HQ8.out.rda.1 h8 (by simp [Value.ownBlock]; omega)).cells0 ([(f0, f1, f2, f3)] ++ xs.drop k2).length j u (by rw [List.take_length]; exact hj)) (by simp; have := HXL.out; omega) (by have h8s := h8.size; simp at h8s; omega) ?_; intro g9 n9 cap9 w9 hn9 r9 h9; have HN9 := hid hn9; clear hn9))
                  all_goals
                    have B8 : Below W2.heap.size W2 w8 := HU8.out.grown h8 HU8.out.size (fun q e => by simp [Value.ownBlock] at e; have := HU7.out.size; omega)
                    have hr8 := r8.lt
                    have B9 : Below W2.heap.size W2 w9 := B8.grown h9 B8.size (fun q e => (hr8 q e).1)
                    have hlen : (xs.take k2 ++ (f0, f1, f2, f3) :: xs.drop k2).length = xs.length + 1 := by have := (Rd.cut_perm (f0, f1, f2, f3) xs k2).length_eq; simpa using this
                    exact ⟨⟨k + 1, n9, g9, cap9, xs.take k2 ++ (f0, f1, f2, f3) :: xs.drop k2, rfl, by go_num, by omega, by rw [hlen]; have := HXK.out; omega, RowFm.base (by simpa using r9) hUw, hid (HGT.out _ (HT.out.srt hgot.out.1 HND.out) (fun q => Rd.cut_mem (f0, f1, f2, f3) xs k2 q)), B9⟩, by simp [intOf]; omega⟩
            · have e1 : decide ((0 : Int) < (k2 : Int)) = false := by simp only [decide_eq_false_iff_not]; omega
              obtain ⟨_, d0, d1, d2, d3, _⟩ := id A1
              go_wp2_with fail
              go_quiet (fail)
              have A3 := A1.drewN nq; have R3 := hid (R1.next (gr_drewN (Below.refl _ wr) nq) R1.lt); have B3 := hid (gr_trans B2.out (gr_drewN hB nq))
              clear d0 d1 d2 d3 A1 R1 hB
              generalize wr.drewN nq = w5 at A3 R3 B3 ⊢
              obtain ⟨_, d0, d1, d2, d3, _⟩ := id A3
              go_upto_region 10 with fail
              go_quiet (fail)
              have A1 := hid (A3.drewN nq); have R1 := hid (R3.out.next (gr_drewN (Below.refl _ w5) nq) R3.out.lt); have B1 := hid (gr_drewN B3.out nq)
              clear d0 d1 d2 d3 A3 R3 B3
              generalize w5.drewN nq = wd at A1 R1 B1 ⊢
              have HT := hid (show Rd.Cut (f0, f1, f2, f3) xs k2 from ⟨by have := HNX.out; omega, hall.out, fun q h _ => absurd h (by omega)⟩)
              have HND := hid (show ∀ q, 0 < k2 → xs[k2 - 1]? = some q → q ≠ (f0, f1, f2, f3) from fun q h _ => absurd h (by omega))
              have HA5 := hid A1.out; have HR5 := hid R1.out; have HB5 := hid B1.out
              clear hall A1 R1 B1
              have hkn : (k2 : Int) ≤ (n : Int) := by omega
              have hkc : (k2 : Int) ≤ (cx : Int) := by have := HR5.out.le; have := HNX.out; omega
              have hk00 : (0 : Int) ≤ (k2 : Int) := by omega
              go_upto_region 11 with fail
              obtain ⟨_, d0, d1, d2, d3, _⟩ := id HA5.out.drew
              go_region_held3 (fun W => W.cell? ⟨jf, 0, none⟩ = some (.int .i64 f0) ∧ W.cell? ⟨jf, 1, none⟩ = some (.int .i64 f1) ∧ W.cell? ⟨jf, 2, none⟩ = some (.int .i64 f2) ∧ W.cell? ⟨jf, 3, none⟩ = some (.int .i64 f3)) (first | exact cells4 A7 | exact cells4 HA5.out.drew | exact cells4 (HA5.out.drew.alloc _)) ((refine stepF rfl (.tmp 53) (.tmp 56) rfl w.heap.size (.slice (some ⟨wd.drew.heap.size, 0, none⟩) 1 1) [(f0, f1, f2, f3)] (xs.drop k2) rfl (one_row _ wd.drew f0 f1 f2 f3 (by have := HB5.out.size; simp; omega)) (by simp) (adr gx cx k2) (n - k2) (cx - k2) (congrArg (fun o => Value.slice o (n - k2) (cx - k2)) (adr_some gx cx k2)) (by rw [List.length_drop, HNX.out]) ((HR5.out.drew.next (gr_alloc (Below.refl _ _) _) HR5.out.drew.lt).cellsR HNX.out k2) (by simp; have := HXL.out; omega) (by have := HB5.out.size; simp; omega) ?_; intro g7 n7 cap7 w7 hn7 r7 h7; have HN7 := hid hn7; clear hn7; have A7 := (HA5.out.drew.alloc (.cells #[.int .i64 f0, .int .i64 f1, .int .i64 f2, .int .i64 f3] 26)).grownB h7 (by simp [Value.ownBlock]; have := HA5.out.lt; omega)))
              have hr7 := r7.lt
              have R7 := (HR5.out.drew.next (gr_alloc (Below.refl _ (wd.drew)) (.cells #[.int .i64 f0, .int .i64 f1, .int .i64 f2, .int .i64 f3] 26)) HR5.out.drew.lt).grownB h7 (by simp [Value.ownBlock]; have := HR5.out.lt; omega)
              have U7 : Below W2.heap.size W2 w7 := (gr_alloc (gr_drew HB5.out) (.cells #[.int .i64 f0, .int .i64 f1, .int .i64 f2, .int .i64 f3] 26)).grown h7 (by have := HB5.out.size; simp; omega) (fun q e => by simp [Value.ownBlock] at e; subst e; have := HB5.out.size; simp; omega)
              have hg7 : g7 < w7.heap.size := (hr7 g7 rfl).2
              have hw7 : W2.heap.size ≤ w7.heap.size := U7.size
              have R8 := R7.next (gr_alloc (Below.refl _ w7) (.cells #[] 26)) R7.lt
              have E8 := RowFm.empty W2.heap.size w7 hw7
              have Q8 := r7.next (gr_alloc (Below.refl _ w7) (.cells #[] 26))
              have U8 := gr_alloc U7 (.cells #[] 26)
              have tok1 : True := trivial
              clear HA5 HR5 HB5 R7 d0 d1 d2 d3 A7 hr7
              have HR8 := hid R8; have HE8 := hid E8; have HQ8 := hid Q8; have HU8 := hid U8; have HU7 := hid U7
              clear R8 E8 Q8 U8 r7 h7 U7
              go_wp2_with (first
                | (at_builtin; have _t := tok1; refine appF rfl _ _ rfl W2.heap.size (.slice (some ⟨w7.heap.size, 0, none⟩) 0 0) [] (xs.take k2) rfl HE8.out (by simp) ⟨gx, 0, none⟩ k2 cx rfl (by rw [List.length_take, HNX.out]; omega) (HR8.out.cells0 k2) (by simp; have := HXL.out; omega) (by simp; omega) ?_; intro g8 n8 cap8 w8 hn8 r8 h8; have HN8 := hid hn8; clear hn8; clear tok1)
                | (at_builtin; refine appF rfl _ _ rfl W2.heap.size (.slice (some ⟨g8, 0, none⟩) n8 cap8) ([] ++ xs.take k2) ([(f0, f1, f2, f3)] ++ xs.drop k2) rfl r8 (by simp) ⟨g7, 0, none⟩ n7 cap7 rfl (by rw [HN7.out, List.length_append]) (fun j u hj => (RdA.grownB HQ8.out.rda.1 h8 (by simp [Value.ownBlock]; omega)).cells0 ([(f0, f1, f2, f3)] ++ xs.drop k2).length j u (by rw [List.take_length]; exact hj)) (by simp; have := HXL.out; omega) (by have h8s := h8.size; simp at h8s; omega) ?_; intro g9 n9 cap9 w9 hn9 r9 h9; have HN9 := hid hn9; clear hn9))
              all_goals
                have B8 : Below W2.heap.size W2 w8 := HU8.out.grown h8 HU8.out.size (fun q e => by simp [Value.ownBlock] at e; have := HU7.out.size; omega)
                have hr8 := r8.lt
                have B9 : Below W2.heap.size W2 w9 := B8.grown h9 B8.size (fun q e => (hr8 q e).1)
                have hlen : (xs.take k2 ++ (f0, f1, f2, f3) :: xs.drop k2).length = xs.length + 1 := by have := (Rd.cut_perm (f0, f1, f2, f3) xs k2).length_eq; simpa using this
                exact ⟨⟨k + 1, n9, g9, cap9, xs.take k2 ++ (f0, f1, f2, f3) :: xs.drop k2, rfl, by go_num, by omega, by rw [hlen]; have := HXK.out; omega, RowFm.base (by simpa using r9) hUw, hid (HGT.out _ (HT.out.srt hgot.out.1 HND.out) (fun q => Rd.cut_mem (f0, f1, f2, f3) xs k2 q)), B9⟩, by simp [intOf]; omega⟩
    · have e81 : decide ((k : Int) < (us.length : Int)) = false := by simp; omega
      have hk' : k = us.length := by have := HK.out; omega
      subst hk'
      rw [List.take_length] at hgot
      unfold FormsOut
      go_wp2_with fail
      go_ret
      exact ⟨gx, n, cx, xs, rfl, hgot.out, by have := HXK.out; omega, HRX.out, HU.out.trans (HB.out.mono HU.out.size)⟩

end Go.Proofs.Ytikmjefbjejbkaa
