/- Chapter 6: forms below, the model's. -/
import Derived.Test.YtambbhldhhlfgaaDoorOm
namespace Go.Proofs.YtambbhldhhlfgaaDoor
open Go.RowKit

theorem stl_map2 (ok : Int → Bool) (g : Int → Frm) (k : Nat) : (stl ok g k).map (·.2) = (ptK ok k).map g := by simp [stl, ptK, List.map_map, Function.comp_def]
theorem ptK_rng {ok : Int → Bool} {p : Int} (h2 : 2 ≤ p) {i : Nat} (h : i < (ptK ok (p.toNat + 1)).length) : 0 ≤ (ptK ok (p.toNat + 1))[i] ∧ (ptK ok (p.toNat + 1))[i] ≤ p := by
  have hm := List.getElem_mem h
  simp only [ptK, List.mem_map, List.mem_filter, List.mem_range] at hm
  obtain ⟨j, ⟨hj, _⟩, e⟩ := hm
  simp only [ptK] at *
  omega
theorem app_fm {ops : Array Oper} {rest : List Oper} {o : Oper} {a : Act} {Q : Exit → Act → World → Prop} {w : World} {T : TypeId} (hgd : o.guard = none) (s x : Operand)
    (ho : o.op = .call { callee := .builtin .append, args := #[s, x], argTypes := #[38, 38] }) (base : Nat) {v : Value} {n : Nat} {xs : List Value} (hs : a.eval s = v) (hown : w.ownsRow base 25 4 v n xs)
    {y0 y1 y2 y3 : Int} (hx : a.eval x = .slice (some ⟨w.heap.size, 0, none⟩) 1 1) (hn : n ≤ 1000000) (hbase : base ≤ w.heap.size)
    (h : ∀ v' w', w'.ownsRow base 25 4 v' (n + 1) (xs ++ [.int .i64 y0, .int .i64 y1, .int .i64 y2, .int .i64 y3]) → (w.alloc (.cells #[.int .i64 y0, .int .i64 y1, .int .i64 y2, .int .i64 y3] T)).grownBy w' v.ownBlock → wpList Tryd.prog ops Q rest (a.put o.dst v') w') : wpList Tryd.prog ops Q (o :: rest) a (w.alloc (.cells #[.int .i64 y0, .int .i64 y1, .int .i64 y2, .int .i64 y3] T)) := by
  obtain ⟨i0, hi, hi0, hi1, hi2⟩ := info_parts info_fm
  refine wpList_append_own _ hgd s x 38 ho base 25 i0 (.agg #[.int .i64 0, .int .i64 0, .int .i64 0, .int .i64 0]) 4 32 Tryd.underlying38 hi hi0 hi1 hi2 rfl (by decide) v n xs hs (hown.alloc _) ⟨w.heap.size, 0, none⟩ 1 1 [.int .i64 y0, .int .i64 y1, .int .i64 y2, .int .i64 y3] hx rfl ?_ ?_ ?_ ?_ ?_ (fun v' w' h1 h2 _ => h v' w' h1 h2)
  · intro j u hj
    match j, hj with
    | 0, hj => simp at hj; subst hj; simp [Addr.add, go_sem]
    | 1, hj => simp at hj; subst hj; simp [Addr.add, go_sem]
    | 2, hj => simp at hj; subst hj; simp [Addr.add, go_sem]
    | 3, hj => simp at hj; subst hj; simp [Addr.add, go_sem]
  · intro u hu; simp at hu; rcases hu with rfl | rfl | rfl | rfl <;> rfl
  · unfold maxLen; omega
  · omega
  · simp; omega
theorem tkf {L : List Int} {g : Int → Frm} {k : Nat} (h : k < L.length) : ((L.take (k + 1)).map g).flatMap fr4 = ((L.take k).map g).flatMap fr4 ++ fr4 (g L[k]) := by
  rw [List.take_succ_eq_append_getElem h]
  simp only [List.map_append, List.map_cons, List.map_nil, List.flatMap_append, List.flatMap_cons, List.flatMap_nil, List.append_nil]

theorem fbl_le (a b c d p : Int) : (if fbc a b c d p = 0 then (fbl a b c d p).length else 0) ≤ 1000 := by
  split
  · rename_i h
    have hf : fpc a b c d p = 0 := by
      unfold fbc at h
      split at h
      · assumption
      · exact absurd h ‹_›
    have h97 := (prm_rng (fpc_0.1 hf).2).2
    have := stl_len (lOk a b c d p) (loG a b c d p) (p.toNat + 1)
    unfold fbl; rw [List.length_map]; omega
  · omega

/-- One cell. -/
structure C1 (W : World) (b o : Nat) (v : Value) : Prop where
  lt : b < W.heap.size
  c : W.cell? ⟨b, o, none⟩ = some v
theorem C1.next {w w' : World} {b o : Nat} {v : Value} (h : C1 w b o v) (hb : Below w.heap.size w w') : C1 w' b o v := ⟨Nat.lt_of_lt_of_le h.lt hb.size, (hb.cell (p := ⟨b, o, none⟩) h.lt).trans h.c⟩
theorem C1.drew {w : World} {b o : Nat} {v : Value} (h : C1 w b o v) : C1 w.drew b o v := h.next (gr_drew (Below.refl _ w))
theorem C1.alloc {w : World} {b o : Nat} {v : Value} (h : C1 w b o v) (ob : Obj) : C1 (w.alloc ob) b o v := h.next (gr_alloc (Below.refl _ w) ob)
theorem C1.oth {w : World} {b o : Nat} {v : Value} (h : C1 w b o v) {p : Addr} (hp : b ≠ p.block) (u : Value) : C1 (w.setCell p u) b o v :=
  ⟨by rw [World.size_setCell]; exact h.lt, (World.cell?_setCell_other _ _ _ _ (fun e => hp (by rw [e]))).trans h.c⟩
theorem cells5 {W : World} {i b o : Nat} {x y z u : Int} {v : Value} (K : Arr W i x y z u) (L : C1 W b o v) :
    W.cell? ⟨i, 0, none⟩ = some (.int .i64 x) ∧ W.cell? ⟨i, 1, none⟩ = some (.int .i64 y) ∧ W.cell? ⟨i, 2, none⟩ = some (.int .i64 z) ∧ W.cell? ⟨i, 3, none⟩ = some (.int .i64 u) ∧ W.cell? ⟨b, o, none⟩ = some v := ⟨K.c0, K.c1, K.c2, K.c3, L.c⟩

set_option maxRecDepth 100000 in
set_option maxHeartbeats 4000000 in
theorem sBelow_any (a b c d p : Int) (w : World) : Calls Tryd.prog 23 #[.agg #[.int .i64 a, .int .i64 b, .int .i64 c, .int .i64 d], .int .i64 p] w (FlsOut (fbc a b c d p) (fbl a b c d p).length (fun i => ((fbl a b c d p).flatMap fi4).getD i 0) w) := by
  have hC := fun W => l06Code_any a b c d p W
  have hF : fpc a b c d p = 0 → isF a b c d = true ∧ prm p = true := fpc_0.1
  have hK : fbc a b c d p = if fpc a b c d p = 0 then (if (fbl a b c d p).all isQ then 0 else 3) else fpc a b c d p := rfl
  have hP : fbl a b c d p = (ptK (lOk a b c d p) (p.toNat + 1)).map (loG a b c d p) := stl_map2 _ _ _
  have hRt : fpc a b c d p = 0 → ∀ W, Calls Tryd.prog 92 #[.agg #[.int .i64 a, .int .i64 b, .int .i64 c, .int .i64 d], .int .i64 p] W (LstV (ptK (lOk a b c d p) (p.toNat + 1)).length (fun i => (ptK (lOk a b c d p) (p.toNat + 1)).getD i 0) W) := fun h W => by
    obtain ⟨hF, hp⟩ := fpc_0.1 h
    obtain ⟨ha, hb, hc, hd⟩ := isF_t hF
    obtain ⟨h2, h97⟩ := prm_rng hp
    exact l06Roots_any a b c d p W ha hb hc hd h2 h97
  have hLw : fpc a b c d p = 0 → ∀ r, 0 ≤ r → r ≤ p → ∀ W, Calls Tryd.prog 82 #[.agg #[.int .i64 a, .int .i64 b, .int .i64 c, .int .i64 d], .int .i64 p, .int .i64 r] W fun e w' => e = .returned (.agg #[.int .i64 ((loG a b c d p r).1), .int .i64 ((loG a b c d p r).2.1), .int .i64 ((loG a b c d p r).2.2.1), .int .i64 ((loG a b c d p r).2.2.2)]) ∧ Below W.heap.size W w' := fun h r h0 hr W => by
    obtain ⟨hF, hp⟩ := fpc_0.1 h
    obtain ⟨ha, hb, hc, hd⟩ := isF_t hF
    obtain ⟨h2, h97⟩ := prm_rng hp
    exact l06Lowered_any a b c d p r W ha hb hc hd h2 h97 h0 hr
  have hrg : 2 ≤ p → ∀ i, (h : i < (ptK (lOk a b c d p) (p.toNat + 1)).length) → 0 ≤ (ptK (lOk a b c d p) (p.toNat + 1))[i] ∧ (ptK (lOk a b c d p) (p.toNat + 1))[i] ≤ p := fun h2 i h => ptK_rng h2 h
  have hln := ptK_len (lOk a b c d p) (p.toNat + 1)
  rw [hP] at hK ⊢
  generalize ptK (lOk a b c d p) (p.toNat + 1) = L at hK hRt hrg hln ⊢
  generalize loG a b c d p = g at hK hLw ⊢
  generalize fbc a b c d p = k at hK ⊢
  generalize fpc a b c d p = f at hC hF hK hRt hLw
  have HC := hid hC; have HF := hid hF; have HK := hid hK; have HRt := hid hRt; have HLw := hid hLw; have HRG := hid hrg
  clear hC hF hK hRt hLw hrg hP
  have A0 := Arr.new w a b c d 25
  have U0 := gr_alloc (Below.refl w.heap.size w) (.cells #[.int .i64 a, .int .i64 b, .int .i64 c, .int .i64 d] 25)
  go_enter Tryd.func23, Tryd.ntmps23
  go_wp2_with fail
  refine (HC.out _).mono ?_
  rintro e w1 ⟨rfl, hb1⟩
  have A1 := A0.next hb1
  have U1 := gr_trans U0 hb1
  clear A0 U0
  obtain ⟨_, a0, a1, a2, a3, _⟩ := id A1
  by_cases hf : f = 0
  · obtain ⟨hFm, hp⟩ := HF.out hf
    obtain ⟨h2, h97⟩ := prm_rng hp
    have HR1 := hid (HRt.out hf)
    have HL1 := hid (HLw.out hf)
    have HK1 := hid (HK.out.trans (if_pos hf))
    have HRG1 := hid (HRG.out h2)
    subst hf
    clear hFm hp HRt HLw HF HC HRG HK
    go_wp2_with fail
    refine (HR1.out _).mono ?_
    rintro e w2 ⟨v, rfl, hV, hb2⟩
    have A2 := A1.next hb2
    have U2 := gr_trans U1 hb2
    have V2 := hid hV.rdB
    have hz2 := U2.size
    have hlA := A2.lt
    obtain ⟨va, cap, rfl⟩ : ∃ va cap, v = .slice va L.length cap := by
      rcases V2.out with ⟨rfl, h⟩ | ⟨b', cap, rfl, _⟩
      · exact ⟨none, 0, by rw [h]⟩
      · exact ⟨_, cap, rfl⟩
    have O0 := owns_empty w2 w2.heap.size 25 4 (Nat.le_refl _)
    have HA2 := hid A2
    have HU2' := hid U2
    clear hV a0 a1 a2 a3 A1 U1 A2 U2
    go_wp2_with fail
    go_loopw [8, 9] (fun s8 s9 wr => ∃ j : Nat, j ≤ L.length ∧ s9 = .int .i64 j ∧ wr.ownsRow w2.heap.size 25 4 s8 j (((L.take j).map g).flatMap fr4) ∧ Hid (∀ i, (hi : i < L.length) → i < j → isQ (g L[i]) = true) ∧ Below w2.heap.size w2 wr) (fun _ s9 _ => L.length - (intOf s9).toNat)
    case atStart => exact ⟨0, Nat.zero_le _, rfl, O0, hid (fun i _ h => by omega), gr_alloc (Below.refl _ _) _⟩
    case round =>
      obtain ⟨j, hj, rfl, hO, HJ, hU⟩ := hrel
      have HO := hid hO; have HU := hid hU
      have hUs := hU.size
      clear hO O0
      by_cases hlt : j < L.length
      · have hA := HA2.out.below hU hlA
        obtain ⟨b', hva, hbl, hcm, hcell⟩ : ∃ b', va = some ⟨b', 0, none⟩ ∧ b' < wr.heap.size ∧ cap ≤ maxLen ∧ wr.cell? ⟨b', j, none⟩ = some (.int .i64 L[j]) := by
          rcases V2.out with ⟨_, h⟩ | ⟨b', cap', e, h1, h2', h3, h4⟩
          · omega
          · cases e
            refine ⟨b', rfl, by omega, h2', (hU.cell (p := ⟨b', j, none⟩) h3).trans ((h4 j hlt).trans ?_)⟩
            simp [List.getD, hlt]
        subst hva
        obtain ⟨r0, r1⟩ := HRG1.out j hlt
        have HL2 := hid (HL1.out _ r0 r1)
        have HT := hid (tkf (g := g) hlt)
        have HJ1 := hid (fun (h : isQ (g L[j]) = true) => (show ∀ i, (hi : i < L.length) → i < j + 1 → isQ (g L[i]) = true from fun i hi hij => by
          by_cases e : i = j
          · subst e; exact h
          · exact HJ.out i hi (by omega)))
        have HJ3 := hid (fun (h : isQ (g L[j]) = false) => (show k = 3 by
          rw [HK1.out, if_neg]
          intro hall
          rw [List.all_eq_true] at hall
          have := hall (g L[j]) (List.mem_map_of_mem (List.getElem_mem hlt))
          rw [h] at this; cases this))
        generalize hr : L[j] = r at hcell HL2 HT HJ1 HJ3 r0 r1
        clear hr
        obtain ⟨q, hq⟩ : ∃ q, q = g r := ⟨_, rfl⟩
        rw [← hq] at HL2 HT HJ3
        have HJ1' : Hid (isQ q = true → ∀ i, (hi : i < L.length) → i < j + 1 → isQ (g L[i]) = true) := hid (fun h => HJ1.out (by rw [← hq]; exact h))
        clear hq HJ1
        obtain ⟨x, y, z, u⟩ := q
        simp only at HL2
        obtain ⟨_, a0, a1, a2, a3, _⟩ := id hA
        have hC1 : C1 wr b' j (.int .i64 r) := ⟨hbl, hcell⟩
        have hAl := hA.lt
        unfold maxLen at hcm
        clear hU
        go_wp2_with fail
        go_cut [10] (fun s10 wx => ∃ kb : Nat, s10 = .pointer (some ⟨kb, 0, none⟩) ∧ Arr wx kb x y z u ∧ Below wr.heap.size wr wx)
        case first =>
          go_region_held3 (fun W => W.cell? ⟨w.heap.size, 0, none⟩ = some (.int .i64 a) ∧ W.cell? ⟨w.heap.size, 1, none⟩ = some (.int .i64 b) ∧ W.cell? ⟨w.heap.size, 2, none⟩ = some (.int .i64 c) ∧ W.cell? ⟨w.heap.size, 3, none⟩ = some (.int .i64 d) ∧ W.cell? ⟨b', j, none⟩ = some (.int .i64 r)) (refine cells5 ?_ ?_ <;> (repeat (first | with_reducible assumption | with_reducible refine Arr.drew ?_ | with_reducible refine Arr.alloc ?_ _ | with_reducible refine Arr.next ?_ (by assumption) | with_reducible refine C1.drew ?_ | with_reducible refine C1.alloc ?_ _ | with_reducible refine C1.next ?_ (by assumption) | refine Arr.oth ?_ (by first | (simp; done) | omega | (simp; omega)) _ | refine C1.oth ?_ (by first | (simp; done) | omega | (simp; omega)) _))) ((go_at_call 82; refine (HL2.out _).mono ?_; rintro e w5 ⟨rfl, hb5⟩; have hz5 := hb5.size; (try simp at hz5); (first | (have N5 : Arr w5 wr.heap.size 0 0 0 0 := (Arr.new wr.drew 0 0 0 0 25).next hb5; obtain ⟨_, n0, n1, n2, n3, m0, m1, m2, m3⟩ := id N5) | skip)))
          all_goals (go_wp2_with fail; go_meet)
          all_goals exact ⟨_, rfl, by (repeat (first | with_reducible assumption | with_reducible exact Arr.box (by assumption) | with_reducible exact Box.new _ _ _ _ _ _ | with_reducible exact Arr.new _ _ _ _ _ _ | with_reducible refine Arr.drew ?_ | with_reducible refine Arr.drewN ?_ _ | with_reducible refine Arr.store4 ?_ | with_reducible refine Arr.alloc ?_ _ | with_reducible refine Box.drew ?_ | with_reducible refine Box.drewN ?_ _ | with_reducible refine Box.alloc ?_ _ | with_reducible refine Arr.next ?_ (by assumption) | with_reducible refine Box.next ?_ (by assumption) | refine Arr.oth ?_ (by first | (simp; done) | omega | (simp; omega)) _ | refine Box.oth ?_ (by first | (simp; done) | omega | (simp; omega)) _)), by (repeat' (first | with_reducible exact Below.refl _ _ | with_reducible assumption | with_reducible refine gr_alloc ?_ _ | with_reducible refine gr_drew ?_ | with_reducible refine gr_drewN ?_ _ | with_reducible refine gr_trans ?_ (by assumption) | with_reducible refine gr_set ?_ ?_ _ | (simp; done) | omega | (simp; omega)))⟩
        case rest =>
          obtain ⟨kb, rfl, hB, hbx⟩ := hcut
          have hO2 := hid (row_next HO.out hbx)
          have hU2 := hid (HU.out.trans (hbx.mono hUs))
          have hzx := hbx.size
          clear a0 a1 a2 a3 hA hcell hbx
          obtain ⟨_, x0, x1, x2, x3, _⟩ := id hB
          have HBx := hid hB
          clear hB
          cases hq : isQ (x, y, z, u) with
          | false =>
            have HK3 := hid (HJ3.out hq)
            have hs := fun W => sFits_any x y z u W
            unfold isQ at hq
            simp only at hq
            rw [hq] at hs
            have HS := hid hs
            clear hs hq
            go_wp2_with fail
            refine (HS.out _).mono ?_
            rintro e w6 ⟨rfl, hb6⟩
            have HU6 := hid (hU2.out.trans (hb6.mono (by omega)))
            clear x0 x1 x2 x3
            go_wp2_with fail
            go_ret2
            rw [HK3.out]
            exact ⟨_, rfl, .inl ⟨rfl, rfl⟩, HU2'.out.trans (HU6.out.mono hz2)⟩
          | true =>
            have HK3 := hid (HJ1'.out hq)
            have hs := fun W => sFits_any x y z u W
            unfold isQ at hq
            simp only at hq
            rw [hq] at hs
            have HS := hid hs
            clear hs hq
            go_wp2_with fail
            refine (HS.out _).mono ?_
            rintro e w6 ⟨rfl, hb6⟩
            have HU6 := hid (hU2.out.trans (hb6.mono (by omega)))
            have hO6 := hid (row_next hO2.out hb6)
            have hB6 := HBx.out.next hb6
            have hz6 := hb6.size
            clear x0 x1 x2 x3
            obtain ⟨_, x0, x1, x2, x3, _⟩ := id hB6
            go_wp2_with (at_builtin; refine app_fm rfl _ _ rfl w2.heap.size rfl hO6.out rfl (by omega) (by omega) ?_)
            intro y1 W1 O1 hg1
            have HO3 := hid (show W1.ownsRow w2.heap.size 25 4 y1 (j + 1) (((L.take (j + 1)).map g).flatMap fr4) by rw [HT.out, List.map_take]; exact O1)
            have HU1 := hid (gr_own (gr_alloc HU6.out _) hg1 (fun i hi => (hO6.out.lt i hi).1))
            clear O1 hg1
            go_wp2
            go_roundw
            case rel => exact ⟨j + 1, by omega, by go_num, HO3.out, HK3, HU1.out⟩
            case measure => simp [intOf]; omega
      · have e : j = L.length := by omega
        subst e
        have HE := hid (show k = 0 by
          rw [HK1.out, if_pos]
          rw [List.all_eq_true]
          intro x hx
          obtain ⟨y, hy, rfl⟩ := List.mem_map.1 hx
          obtain ⟨i, hi, rfl⟩ := List.getElem_of_mem hy
          exact HJ.out i hi hi)
        have HO1 : Hid (wr.ownsRow w2.heap.size 25 4 u8 L.length ((L.map g).flatMap fr4)) := by have := HO.out; rw [List.take_length] at this; exact this
        have HV : Hid (OwnX w.heap.size wr u8 (L.map g).length (fun i => ((L.map g).flatMap fi4).getD i 0)) := hid ((OwnX.of_owns (L := L.map g) (by rw [List.length_map]; exact HO1.out)).base (by omega))
        clear hU
        go_wp2_with fail
        go_ret2
        rw [HE.out]
        exact ⟨_, rfl, HV.out, HU2'.out.trans (HU.out.mono hz2)⟩
  · have HE := hid (HK.out.trans (if_neg hf))
    have hf' : (f == 0) = false := by simpa using hf
    have HF0 := hid hf
    clear hf
    go_wp2_with fail
    go_ret2
    rw [HE.out]
    exact ⟨_, rfl, .inl ⟨rfl, by rw [if_neg HF0.out]⟩, U1⟩

end Go.Proofs.YtambbhldhhlfgaaDoor
