/- Several texts in one: XRb2, XFs, XC1i, XC1j. -/
import Derived.Test.YthheongdgcfngaaDoorZ7
import Derived.Test.YthheongdgcfngaaDoorZ22
import Derived.Test.YthheongdgcfngaaDoorZ14
import Derived.Test.YthheongdgcfngaaDoorZ9
import Derived.Test.YthheongdgcfngaaDoorZ16

/- Chapter 5: quotients of forms of any degree, the program's: rows of the call's own. -/
namespace Go.Proofs.YthheongdgcfngaaDoor
open Go.RowKit

set_option maxRecDepth 100000 in
set_option maxHeartbeats 2000000 in
theorem dividedAt_own (v : Value) (L : List Int) (x y : Int) (n : Nat) (w : World) (h : RdP w v L) (hL : L.length = n + 1) (hn : 1 ≤ n) (hn9 : n ≤ 9) :
    Calls Tryd.prog 87 #[v, .agg #[.int .i64 x, .int .i64 y]] w fun e w' => ∃ v, e = .returned v ∧ w'.ownsRow w.heap.size 2 1 v (dvd L x y).length ((dvd L x y).map (Value.int .i64)) ∧ Below w.heap.size w w' := by
  obtain ⟨b, cap, rfl, hlc, hcm, hb, hc⟩ := h
  have HC := hid hc
  have HL := hid hL
  obtain ⟨i0, hi, hi0, hi1, hi2⟩ := info_parts info_l64
  have HI := hid hi; have HZ0 := hid hi0; have HZ1 := hid hi1; have HZ2 := hid hi2
  clear hc hi hi0 hi1 hi2
  rw [hL] at hlc ⊢
  clear hL
  unfold maxLen at hcm
  have hX := Bx.new w #[.int .i64 x, .int .i64 y] 64
  have U0 := gr_alloc (Below.refl w.heap.size w) (.cells #[.int .i64 x, .int .i64 y] 64)
  have O0 := World.ownsRow_nil (w.alloc (.cells #[.int .i64 x, .int .i64 y] 64)) w.heap.size 2 1
  have hx0 := hX.cell 0
  have hx1 := hX.cell 1
  by_cases hy : y = 0
  · subst hy
    have HE := hid (@ngK_e L n HL.out x)
    generalize dvd L x 0 = D at HE ⊢
    go_enter Tryd.func87, Tryd.ntmps87
    go_upto_region 1 with fail
    have U1 := gr_drewN U0 1
    clear hX
    go_quiet (fail)
    rename_i nq
    have U1 := hid (gr_drewN U0 nq)
    have O1 := World.ownsRow_nil ((w.alloc (.cells #[.int .i64 x, .int .i64 0] 64)).drewN nq) w.heap.size 2 1
    clear U0 O0 hx0 hx1
    have HO1 := hid O1
    clear O1
    go_wp2
    go_loopw [7, 9, 22] (fun s7 _ s22 wr => ∃ k : Nat, k ≤ n ∧ s22 = .int .i64 ((k : Int)) ∧ wr.ownsRow w.heap.size 2 1 s7 k ((ngK L k).map (Value.int .i64)) ∧ Below w.heap.size w wr) (fun _ _ s22 _ => n - (intOf s22).toNat)
    case atStart => exact ⟨0, Nat.zero_le _, rfl, HO1.out, U1.out⟩
    case round =>
      obtain ⟨k, hk, rfl, hO, hU⟩ := hrel
      have HO := hid hO; have HU := hid hU
      have hv := hU.size
      clear hO hU
      by_cases hlt : k < n
      · have hck : wr.cell? ⟨b, 1 + k, none⟩ = some (.int .i64 (L.getD (k + 1) 0)) := (HU.out.cell (p := ⟨b, 1 + k, none⟩) hb).trans (by rw [Nat.add_comm 1 k]; exact HC.out (k + 1) (by rw [HL.out]; omega))
        have HS := hid (ngK_s HL.out hlt)
        have HN := hid (ngK_len HL.out hk)
        generalize L.getD (k + 1) 0 = q at hck HS
        clear HE HO1 U1
        go_wp2_with (at_builtin; refine wpList_append_own _ rfl _ _ 35 rfl w.heap.size 2 i0 (.int .i64 0) 1 8 Tryd.underlying35 HI.out HZ0.out HZ1.out HZ2.out rfl (by decide) _ _ _ rfl (HO.out.alloc _) ⟨wr.heap.size, 0, none⟩ 1 1 [.int .i64 (wrap64 (-q))] rfl rfl ?a1 ?b1 ?c1 ?d1 ?e1 ?_)
        case a1 =>
          intro j u hj
          match j, hj with
          | 0, hj => simp at hj; subst hj; simp [Addr.add, go_sem]
        case b1 => first | (intro u hu; simp at hu; subst hu; rfl) | rfl | simp [Value.oneCell']
        case c1 => unfold maxLen; omega
        case d1 => omega
        case e1 => first | omega | (simp; omega)
        intro y1 W1 O1 hg1 _
        have HO2 := hid (own_app HN.out HS.out O1)
        have HU1 := hid (gr_own (gr_alloc HU.out _) hg1 (fun j hj => (HO.out.lt j hj).1))
        clear O1 hg1
        go_wp2
        go_roundw
        case rel => exact ⟨k + 1, by omega, by go_num, own_len (ngK_len HL.out (by omega)) HO2.out, HU1.out⟩
        case measure => simp [intOf]; omega
      · have e : k = n := by omega
        subst e
        have HO3 := hid (HE.out ▸ HO.out)
        have HN := hid (show D.length = k by rw [← HE.out]; exact ngK_len HL.out (Nat.le_refl _))
        clear HO
        go_wp2
        go_ret
        exact ⟨_, rfl, by rw [HN.out]; exact HO3.out, HU.out⟩
  · have HY := hid hy
    have hy' : (y == 0) = false := by simpa using hy
    have HE := hid (@dsK_e x y L n HL.out hy)
    clear hy
    generalize dvd L x y = D at HE ⊢
    go_enter Tryd.func87, Tryd.ntmps87
    go_upto_region 1 with fail
    clear hX
    go_quiet (fail)
    rename_i nq
    have U1 := hid (gr_drewN U0 nq)
    have O1 := World.ownsRow_nil ((w.alloc (.cells #[.int .i64 x, .int .i64 y] 64)).drewN nq) w.heap.size 2 1
    have HO1 := hid O1
    clear U0 O0 hx0 hx1 O1
    go_wp2
    go_loopw [7, 10, 12, 39] (fun s7 s10 _ s39 wr => ∃ k : Nat, k ≤ n ∧ s39 = .int .i64 ((k : Int)) ∧ s10 = .int .i64 ((dsK x y L k).1) ∧ wr.ownsRow w.heap.size 2 1 s7 k ((dsK x y L k).2.map (Value.int .i64)) ∧ Below w.heap.size w wr) (fun _ _ _ s39 _ => n - (intOf s39).toNat)
    case atStart => exact ⟨0, Nat.zero_le _, rfl, rfl, HO1.out, U1.out⟩
    case round =>
      obtain ⟨k, hk, rfl, rfl, hO, hU⟩ := hrel
      have HO := hid hO; have HU := hid hU
      have hv := hU.size
      clear hO hU
      by_cases hlt : k < n
      · have hck : wr.cell? ⟨b, k, none⟩ = some (.int .i64 (L.getD k 0)) := (HU.out.cell (p := ⟨b, k, none⟩) hb).trans (HC.out k (by rw [HL.out]; omega))
        have HS := hid (@dsK_s x y L k (by rw [HL.out]; omega))
        have HN := hid (@dsK_len x y L k (by rw [HL.out]; omega))
        generalize L.getD k 0 = q at hck HS
        generalize (dsK x y L k).1 = s at HS ⊢
        clear HE HO1 U1
        go_wp2_with (at_builtin; refine wpList_append_own _ rfl _ _ 35 rfl w.heap.size 2 i0 (.int .i64 0) 1 8 Tryd.underlying35 HI.out HZ0.out HZ1.out HZ2.out rfl (by decide) _ _ _ rfl (HO.out.alloc _) ⟨wr.heap.size, 0, none⟩ 1 1 [.int .i64 (wrap64 ((pl q (mu x s)).tdiv y))] rfl rfl ?a2 ?b2 ?c2 ?d2 ?e2 ?_)
        case a2 =>
          intro j u hj
          match j, hj with
          | 0, hj => simp at hj; subst hj; simp [Addr.add, go_sem, pl, mu]
        case b2 => first | (intro u hu; simp at hu; subst hu; rfl) | rfl | simp [Value.oneCell']
        case c2 => unfold maxLen; omega
        case d2 => omega
        case e2 => first | omega | (simp; omega)
        intro y1 W1 O1 hg1 _
        have HO2 := hid (own_app HN.out (congrArg Prod.snd HS.out) O1)
        have HU1 := hid (gr_own (gr_alloc HU.out _) hg1 (fun j hj => (HO.out.lt j hj).1))
        clear O1 hg1
        go_wp2
        go_roundw
        case rel => exact ⟨k + 1, by omega, by go_num, by rw [HS.out]; rfl, own_len (dsK_len (by rw [HL.out]; omega)) HO2.out, HU1.out⟩
        case measure => simp [intOf]; omega
      · have e : k = n := by omega
        subst e
        have HO3 := hid (HE.out ▸ HO.out)
        have HN := hid (show D.length = k by rw [← HE.out]; exact dsK_len (by rw [HL.out]; omega))
        clear HO
        go_wp2
        go_ret
        exact ⟨_, rfl, by rw [HN.out]; exact HO3.out, HU.out⟩


end Go.Proofs.YthheongdgcfngaaDoor

/- Chapter 5: what stands while FactorForm finds its factors: a box of four values, rows in the making, the rest. -/
namespace Go.Proofs.YthheongdgcfngaaDoor
open Go.RowKit

theorem Bx.set {w : World} {k : Nat} {xs : Array Value} {T : TypeId} (h : Bx w k xs T) (i : Nat) (v : Value) : Bx (w.setCell ⟨k, i, none⟩ v) k (xs.setIfInBounds i v) T := by
  obtain ⟨hlt, hk⟩ := Array.getElem?_eq_some_iff.1 h
  show (w.heap.modify k _)[k]? = _
  rw [Array.getElem?_eq_getElem (by rw [Array.size_modify]; exact hlt), Array.getElem_modify_self, hk]
  simp
theorem Bx.far {w : World} {k j : Nat} {xs : Array Value} {T : TypeId} (h : Bx w k xs T) (hne : k ≠ j) (i : Nat) (v : Value) : Bx (w.setCell ⟨j, i, none⟩ v) k xs T :=
  (Below.heap_setCell _ _ _ _ hne).trans h
theorem Bx.ne {w : World} {k j : Nat} {xs ys : Array Value} {T t : TypeId} (h : Bx w k xs T) (h' : Bx w j ys t) (hT : T ≠ t) : k ≠ j := fun e => by
  subst e
  have := h.symm.trans h'
  simp at this
  exact hT this.2
theorem grown_set (w : World) (k i : Nat) (v : Value) : w.grownBy (w.setCell ⟨k, i, none⟩ v) (some k) :=
  ⟨rfl, rfl, rfl, by rw [World.size_setCell]; exact Nat.le_refl _, fun j _ hj => Below.heap_setCell _ _ _ _ (fun e => hj (by rw [e]))⟩
theorem Bx.two {w W : World} {k : Nat} {xs : Array Value} {T t : TypeId} (h : Bx w k xs T) {B s n : Nat} {v : Value} {ys : List Value} (h' : w.ownsRow B t s v n ys) (hT : T ≠ t) {o o' : Obj} (hg : ((w.alloc o).alloc o').grownBy W v.ownBlock) : Bx W k xs T :=
  ((h.alloc o).alloc o').grown hg (((h.alloc o).alloc o').own ((h'.alloc o).alloc o') hT)
/-- Block b holds a list, beside what else lies there. -/
def RB (w : World) (b : Nat) (L : List Int) : Prop := ∃ cur T, Bx w b cur T ∧ (T = 2 ∨ T = 25) ∧ ∀ i, i < L.length → cur[i]? = some (.int .i64 (L.getD i 0))
theorem RB.next {w w' : World} {b : Nat} {L : List Int} (h : RB w b L) (hb : Below w.heap.size w w') : RB w' b L := by
  obtain ⟨cur, T, h1, h2, h3⟩ := h
  exact ⟨cur, T, h1.next hb, h2, h3⟩
theorem RB.lt {w : World} {b : Nat} {L : List Int} (h : RB w b L) : b < w.heap.size := by
  obtain ⟨cur, T, h1, _⟩ := h
  exact h1.lt
theorem RB.cl {w : World} {b : Nat} {L : List Int} (h : RB w b L) : Cl w b L.length (fun i => L.getD i 0) := by
  obtain ⟨cur, T, h1, _, h3⟩ := h
  exact ⟨h1.lt, fun i hi => ⟨(h1.cell i).trans (h3 i hi), h1.frozen i⟩⟩
theorem RB.rdP {w : World} {b cap : Nat} {L : List Int} (h : RB w b L) (h1 : L.length ≤ cap) (h2 : cap ≤ maxLen) : RdP w (.slice (some ⟨b, 0, none⟩) L.length cap) L :=
  ⟨b, cap, rfl, h1, h2, h.lt, fun i hi => (h.cl.2 i hi).1⟩
theorem RB.arr {w : World} {b : Nat} {a0 a1 a2 a3 : Int} (h : Bx w b #[.int .i64 a0, .int .i64 a1, .int .i64 a2, .int .i64 a3] 25) : RB w b [a0, a1, a2, a3] := by
  refine ⟨_, _, h, .inr rfl, fun i hi => ?_⟩
  match i, hi with
  | 0, _ => rfl
  | 1, _ => rfl
  | 2, _ => rfl
  | 3, _ => rfl
theorem RB.far {w : World} {b k : Nat} {L : List Int} (h : RB w b L) {xs : Array Value} {t : TypeId} (hk : Bx w k xs t) (h1 : 2 ≠ t) (h2 : 25 ≠ t) (i : Nat) (v : Value) : RB (w.setCell ⟨k, i, none⟩ v) b L := by
  obtain ⟨cur, T, g1, g2, g3⟩ := h
  refine ⟨cur, T, g1.far (g1.ne hk ?_) i v, g2, g3⟩
  rcases g2 with rfl | rfl
  · exact h1
  · exact h2
theorem RB.own {w : World} {B : Nat} {v : Value} {L : List Int} (h : w.ownsRow B 2 1 v L.length (L.map (Value.int .i64))) (hL : L ≠ []) : ∃ b cap, v = .slice (some ⟨b, 0, none⟩) L.length cap ∧ RB w b L ∧ B ≤ b ∧ L.length ≤ cap ∧ cap ≤ maxLen := by
  obtain ⟨ha, hb⟩ := h
  rcases hb with ⟨rfl, h0⟩ | ⟨g, cap, cur, rfl, hB, hg, h1⟩
  · exact absurd (List.length_eq_zero_iff.1 h0) hL
  · refine ⟨g, cap, rfl, ⟨cur, _, hg, .inl rfl, fun i hi => ?_⟩, hB, h1.1, h1.2.1⟩
    have e := congrArg (fun M => M[i]?) h1.2.2.2
    rw [Nat.mul_one] at e
    simp only [List.getElem?_take, hi, if_true, List.getElem?_map] at e
    rw [← Array.getElem?_toList, e]
    simp [List.getD, hi]
/-- The state: the box of the factors, the rows, the rest, the roots. -/
structure Fst (B : Nat) (w : World) (k z : Nat) (n : Int) (vr : Value) (b cap : Nat) (Rs : List (List Int)) (T : List Nat) (L : List Int) (vp : Value) (RR : List (Int × Int × Int)) : Prop where
  bx : Bx w k #[.int .i64 1, .int .i64 n, vr, .slice (some ⟨b, 0, none⟩) L.length cap] 86
  rows : Rwb B w vr 2 Rs T
  rest : RB w b L
  cap1 : L.length ≤ cap
  cap2 : cap ≤ maxLen
  lo : B ≤ b
  sep : ∀ t ∈ T, t ≠ b
  res : Bx w z #[.int .i64 0, .int .i64 0, .slice none 0 0, .slice none 0 0] 86
  zk : z ≠ k
  roots : w.ownsRow B 66 3 vp RR.length (RR.flatMap tr3)
theorem Fst.next {B : Nat} {w w' : World} {k z : Nat} {n : Int} {vr : Value} {b cap : Nat} {Rs : List (List Int)} {T : List Nat} {L : List Int} {vp : Value} {RR : List (Int × Int × Int)} (h : Fst B w k z n vr b cap Rs T L vp RR) (hb : Below w.heap.size w w') : Fst B w' k z n vr b cap Rs T L vp RR :=
  ⟨h.bx.next hb, h.rows.next hb, h.rest.next hb, h.cap1, h.cap2, h.lo, h.sep, h.res.next hb, h.zk, owns_next h.roots hb⟩
theorem Rwb.far {B : Nat} {w : World} {v : Value} {s : Nat} {R : List (List Int)} {T : List Nat} (h : Rwb B w v s R T) {k : Nat} {xs : Array Value} {t : TypeId} (hk : Bx w k xs t) (h1 : 2 ≠ t) (h2 : t ≠ 35) (i : Nat) (u : Value) : Rwb B (w.setCell ⟨k, i, none⟩ u) v s R T :=
  ⟨h.own.kept (grown_set w k i u) (by
    cases hv : v.ownBlock with
    | none => exact .inl rfl
    | some g => exact .inr (fun e => hk.own h.own h2 g hv (by simpa using e))), h.len, fun j hj => (h.row j hj).far ((h.row j hj).ne hk h1) i u, fun x hx => ⟨(h.bas x hx).1, by rw [World.size_setCell]; exact (h.bas x hx).2⟩, h.srt, h.wid⟩
theorem owns_far {w : World} {B : Nat} {t' : TypeId} {s : Nat} {v : Value} {n : Nat} {ys : List Value} (h : w.ownsRow B t' s v n ys) {k : Nat} {xs : Array Value} {t : TypeId} (hk : Bx w k xs t) (h2 : t ≠ t') (i : Nat) (u : Value) : (w.setCell ⟨k, i, none⟩ u).ownsRow B t' s v n ys :=
  h.kept (grown_set w k i u) (by
    cases hv : v.ownBlock with
    | none => exact .inl rfl
    | some g => exact .inr (fun e => hk.own h h2 g hv (by simpa using e)))
theorem Fst.setRest {B : Nat} {w w' : World} {k z : Nat} {n : Int} {vr : Value} {b cap : Nat} {Rs : List (List Int)} {T : List Nat} {L : List Int} {vp : Value} {RR : List (Int × Int × Int)} (h : Fst B w k z n vr b cap Rs T L vp RR) (hB : B ≤ w.heap.size) (hb : Below w.heap.size w w') {v : Value} {L' : List Int}
    (hO : w'.ownsRow w.heap.size 2 1 v L'.length (L'.map (Value.int .i64))) (hL' : L' ≠ []) : ∃ b' cap', v = .slice (some ⟨b', 0, none⟩) L'.length cap' ∧ Fst B (w'.setCell ⟨k, 3, none⟩ v) k z n vr b' cap' Rs T L' vp RR := by
  obtain ⟨b', cap', rfl, r1, r2, r3, r4⟩ := RB.own hO hL'
  have h' := h.next hb
  have hk := h'.bx
  refine ⟨b', cap', rfl, ?_, h'.rows.far hk (by decide) (by decide) _ _, r1.far hk (by decide) (by decide) _ _, r3, r4, by omega, fun t ht => ?_, h'.res.far h.zk _ _, h.zk, owns_far h'.roots hk (by decide) _ _⟩
  · have := hk.set 3 (.slice (some ⟨b', 0, none⟩) L'.length cap')
    simpa using this
  · have := (h.rows.bas t ht).2
    omega
theorem Fst.app {B : Nat} {w W : World} {k z : Nat} {n : Int} {vr : Value} {b cap : Nat} {Rs : List (List Int)} {T : List Nat} {L : List Int} {vp : Value} {RR : List (Int × Int × Int)} (h : Fst B w k z n vr b cap Rs T L vp RR) (hB : B ≤ w.heap.size) {x y : Int} {o : Obj} {v : Value}
    (hg : ((w.alloc (.cells (cI [x, y]) 2)).alloc o).grownBy W vr.ownBlock) (hO : W.ownsRow B 35 1 v (Rs.length + 1) ((T.map fun t => Value.slice (some ⟨t, 0, none⟩) 2 2) ++ [.slice (some ⟨w.heap.size, 0, none⟩) 2 2])) :
    Bx W k #[.int .i64 1, .int .i64 n, vr, .slice (some ⟨b, 0, none⟩) L.length cap] 86 ∧ Fst B (W.setCell ⟨k, 2, none⟩ v) k z n v b cap (Rs ++ [[x, y]]) (T ++ [w.heap.size]) L vp RR := by
  have hr := h.rows.app (r := [x, y]) rfl hB hg hO
  have ho : ((w.alloc (.cells (cI [x, y]) 2)).alloc o).ownsRow B 35 1 vr Rs.length (T.map fun t => Value.slice (some ⟨t, 0, none⟩) 2 2) := (h.rows.own.alloc _).alloc _
  have hk : Bx W k #[.int .i64 1, .int .i64 n, vr, .slice (some ⟨b, 0, none⟩) L.length cap] 86 := ((h.bx.alloc _).alloc o).grown hg (((h.bx.alloc _).alloc o).own ho (by decide))
  have hrest : RB W b L := by
    obtain ⟨cur, t, g1, g2, g3⟩ := h.rest
    refine ⟨cur, t, ((g1.alloc _).alloc o).grown hg (((g1.alloc _).alloc o).own ho ?_), g2, g3⟩
    rcases g2 with rfl | rfl <;> decide
  have hro : W.ownsRow B 66 3 vp RR.length (RR.flatMap tr3) := owns_keep2 h.roots h.rows.own (by decide) hg
  have hres : Bx W z #[.int .i64 0, .int .i64 0, .slice none 0 0, .slice none 0 0] 86 := ((h.res.alloc _).alloc o).grown hg (((h.res.alloc _).alloc o).own ho (by decide))
  refine ⟨hk, ?_, hr.far hk (by decide) (by decide) _ _, hrest.far hk (by decide) (by decide) _ _, h.cap1, h.cap2, h.lo, fun t ht => ?_, hres.far h.zk _ _, h.zk, owns_far hro hk (by decide) _ _⟩
  · have := hk.set 2 v
    simpa using this
  · rcases List.mem_append.1 ht with ht | ht
    · exact h.sep t ht
    · simp at ht; subst ht
      have := h.rest.lt; omega


end Go.Proofs.YthheongdgcfngaaDoor

/- Chapter 1: primitive parts. -/
namespace Go.Proofs.YthheongdgcfngaaDoor
open Go.RowKit



end Go.Proofs.YthheongdgcfngaaDoor

/- Chapter 1: primitive parts of the program. -/
namespace Go.Proofs.YthheongdgcfngaaDoor
open Go.RowKit

set_option maxHeartbeats 1000000 in
theorem iDivided_any (a b c d k : Int) (w : World) (ha : -1000 ≤ a ∧ a ≤ 1000) (hb : -1000 ≤ b ∧ b ≤ 1000) (hc : -1000 ≤ c ∧ c ≤ 1000) (hd : -1000 ≤ d ∧ d ≤ 1000) (hk : 0 < k) (hk2 : k ≤ 1000) :
    Calls Tryd.prog 100 #[.agg #[.int .i64 a, .int .i64 b, .int .i64 c, .int .i64 d], .int .i64 k] w fun e w' => e = .returned (.agg #[.int .i64 (a.tdiv k), .int .i64 (b.tdiv k), .int .i64 (c.tdiv k), .int .i64 (d.tdiv k)]) ∧ Below w.heap.size w w' := by
  have hz' : (k == 0) = false := by simp; omega
  have R0 := Arr.new (w.alloc (.cells #[.int .i64 (a.tdiv k), .int .i64 (b.tdiv k), .int .i64 (c.tdiv k), .int .i64 (d.tdiv k)] 25)) (a.tdiv k) (b.tdiv k) (c.tdiv k) (d.tdiv k) 25
  simp only [World.size_alloc] at R0
  go_enter Tryd.func100, Tryd.ntmps100
  go_wp2
  go_rounds 5
  refine bodyPost_ret (res_A1 (e := 2) rfl Tryd.underlying25 (by kernel_rfl) rfl R0) rfl ?_
  exact ⟨rfl, by (repeat' (first | with_reducible exact Below.refl _ _ | with_reducible assumption | with_reducible refine gr_alloc ?_ _ | with_reducible refine gr_drew ?_ | with_reducible refine gr_drewN ?_ _ | with_reducible refine gr_trans ?_ (by assumption) | with_reducible refine gr_set ?_ ?_ _ | (simp; done) | omega | (simp; omega)))⟩

set_option maxHeartbeats 1000000 in
theorem iPrim_any (a b c d : Int) (w : World) :
    Calls Tryd.prog 85 #[.agg #[.int .i64 a, .int .i64 b, .int .i64 c, .int .i64 d]] w fun e w' => e = .returned (.tuple #[.agg #[.int .i64 (if0 (ppc a b c d) (a.tdiv (cnt a b c d))), .int .i64 (if0 (ppc a b c d) (b.tdiv (cnt a b c d))), .int .i64 (if0 (ppc a b c d) (c.tdiv (cnt a b c d))), .int .i64 (if0 (ppc a b c d) (d.tdiv (cnt a b c d)))], .int .i64 (ppc a b c d)]) ∧ Below w.heap.size w w' := by
  go_enter Tryd.func85, Tryd.ntmps85
  go_wp2_with fail
  refine (iContent_any a b c d _).mono ?_
  rintro e w1 ⟨rfl, hb1⟩
  have A1 := ((Arr.new w a b c d 25).alloc (.cells #[.int .i64 0, .int .i64 0, .int .i64 0, .int .i64 0] 25)).next hb1
  have R1 := (Arr.new (w.alloc (.cells #[.int .i64 a, .int .i64 b, .int .i64 c, .int .i64 d] 25)) 0 0 0 0 25).next hb1
  simp only [World.size_alloc] at A1 R1
  obtain ⟨_, c0, c1, c2, c3, g0, g1, g2, g3⟩ := id A1
  obtain ⟨_, r0, r1, r2, r3, f0, f1, f2, f3⟩ := id R1
  by_cases hm : isF a b c d = true
  · obtain ⟨ha, hb, hc, hd⟩ := isF_t hm
    obtain ⟨hg0, hg1⟩ := cnt_bd ha hb hc hd
    have e1 : cif a b c d = 0 := by simp [cif, hm]
    have e2 : ifF a b c d (cnt a b c d) = cnt a b c d := by simp [ifF, hm]
    rw [e1, e2]
    clear e1 e2
    by_cases hz : cnt a b c d = 0
    · obtain ⟨rfl, rfl, rfl, rfl⟩ := cnt_0.1 hz
      have HZ := hid hz
      clear hz
      have heq := fun w => eqForm_run 0 0 0 0 0 0 0 0 w
      go_wp2
      refine bodyPost_ret (res_A (e := 2) rfl Tryd.underlying25 (by kernel_rfl) rfl (by (repeat (first | with_reducible assumption | with_reducible exact Arr.box (by assumption) | with_reducible apply Arr.drew | with_reducible apply Arr.drewN | with_reducible refine Arr.store4 ?_ | with_reducible apply Arr.alloc | with_reducible refine Box.drew ?_ | with_reducible refine Box.drewN ?_ _ | with_reducible refine Box.alloc ?_ _ | refine Arr.oth ?_ (by first | (simp; done) | omega | (simp; omega)) _ | refine Box.oth ?_ (by first | (simp; done) | omega | (simp; omega)) _)))) rfl ?_
      have k0 : ppc 0 0 0 0 = 5 := by simp [ppc, hm, HZ.out]
      exact ⟨ret_form (by simp [if0, k0]) (by simp [if0, k0]) (by simp [if0, k0]) (by simp [if0, k0]) (by simp [k0]), by (repeat' (first | with_reducible exact Below.refl _ _ | with_reducible assumption | with_reducible refine gr_alloc ?_ _ | with_reducible refine gr_drew ?_ | with_reducible refine gr_drewN ?_ _ | with_reducible refine gr_trans ?_ (by assumption) | with_reducible refine gr_set ?_ ?_ _ | (simp; done) | omega | (simp; omega)))⟩
    · have hz' : (cnt a b c d == 0) = false := by simp [hz]
      have hne : (a == 0 && b == 0 && c == 0 && d == 0) = false := by
        rw [Bool.eq_false_iff]; intro h; simp at h; exact hz (cnt_0.2 (by omega))
      have heq : ∀ w, (Op.equalIn 10000 25 (.agg #[.int .i64 a, .int .i64 b, .int .i64 c, .int .i64 d]) (.agg #[.int .i64 0, .int .i64 0, .int .i64 0, .int .i64 0])).run Tryd.prog w = .ok false w := fun w => by rw [eqForm_run, hne]
      clear hne
      go_wp2_with (go_at_call 100; refine (iDivided_any a b c d _ _ ha hb hc hd (by omega) (by omega)).mono ?_; rintro e w2 ⟨rfl, hb2⟩; have R2 := R1.next hb2; clear r0 r1 r2 r3 f0 f1 f2 f3; obtain ⟨_, r0, r1, r2, r3, f0, f1, f2, f3⟩ := id R2)
      refine bodyPost_ret (res_A (e := 2) rfl Tryd.underlying25 (by kernel_rfl) rfl (by (repeat (first | with_reducible assumption | with_reducible exact Arr.box (by assumption) | with_reducible apply Arr.drew | with_reducible apply Arr.drewN | with_reducible refine Arr.store4 ?_ | with_reducible apply Arr.alloc | with_reducible refine Box.drew ?_ | with_reducible refine Box.drewN ?_ _ | with_reducible refine Box.alloc ?_ _ | refine Arr.oth ?_ (by first | (simp; done) | omega | (simp; omega)) _ | refine Box.oth ?_ (by first | (simp; done) | omega | (simp; omega)) _)))) rfl ?_
      have k0 : ppc a b c d = 0 := by simp [ppc, hm, hz]
      exact ⟨ret_form (by simp [if0, k0]) (by simp [if0, k0]) (by simp [if0, k0]) (by simp [if0, k0]) (by simp [k0]), by (repeat' (first | with_reducible exact Below.refl _ _ | with_reducible assumption | with_reducible refine gr_alloc ?_ _ | with_reducible refine gr_drew ?_ | with_reducible refine gr_drewN ?_ _ | with_reducible refine gr_trans ?_ (by assumption) | with_reducible refine gr_set ?_ ?_ _ | (simp; done) | omega | (simp; omega)))⟩
  · have hm' : isF a b c d = false := by simpa using hm
    clear hm
    have e1 : cif a b c d = 1 := by simp [cif, hm']
    have e2 : ifF a b c d (cnt a b c d) = 0 := by simp [ifF, hm']
    rw [e1, e2]
    clear e1 e2
    go_wp2
    refine bodyPost_ret (res_A (e := 2) rfl Tryd.underlying25 (by kernel_rfl) rfl (by (repeat (first | with_reducible assumption | with_reducible exact Arr.box (by assumption) | with_reducible apply Arr.drew | with_reducible apply Arr.drewN | with_reducible refine Arr.store4 ?_ | with_reducible apply Arr.alloc | with_reducible refine Box.drew ?_ | with_reducible refine Box.drewN ?_ _ | with_reducible refine Box.alloc ?_ _ | refine Arr.oth ?_ (by first | (simp; done) | omega | (simp; omega)) _ | refine Box.oth ?_ (by first | (simp; done) | omega | (simp; omega)) _)))) rfl ?_
    have k0 : ppc a b c d = 1 := by simp [ppc, hm']
    exact ⟨ret_form (by simp [if0, k0]) (by simp [if0, k0]) (by simp [if0, k0]) (by simp [if0, k0]) (by simp [k0]), by (repeat' (first | with_reducible exact Below.refl _ _ | with_reducible assumption | with_reducible refine gr_alloc ?_ _ | with_reducible refine gr_drew ?_ | with_reducible refine gr_drewN ?_ _ | with_reducible refine gr_trans ?_ (by assumption) | with_reducible refine gr_set ?_ ?_ _ | (simp; done) | omega | (simp; omega)))⟩

end Go.Proofs.YthheongdgcfngaaDoor
