/- Several texts in one: XMa, XMn. -/
import Derived.Test.YtikmjefbjejbkaaBbZ14
import Derived.Test.YtikmjefbjejbkaaBbC1u
import Derived.Test.YtikmjefbjejbkaaBbZ15
import Derived.Test.YtikmjefbjejbkaaBbZ20

/- Chapter 2: slices.Collect over the keys of a map of forms. -/
namespace Go.Proofs.Ytikmjefbjejbkaa
open Go.RowKit Go.Shelf
attribute [local go_sem] Oper.semAt_some

/-- A row of cells is no map and no walk. -/
theorem row_noWalk {W : World} {B : Nat} {e : TypeId} {m : Nat} {v : Value} {k : Nat} {xs : List Value} (h : W.ownsRow B e m v k xs) (j : Nat) (o : Obj) (hj : v.ownBlock = some j) (ho : W.heap[j]? = some o) : o.isWalk = false := by
  obtain ⟨_, ⟨hv, _⟩ | ⟨g, cap, cur, hv, _, hg, _⟩⟩ := h <;> subst hv
  · cases hj
  · cases hj
    rw [hg] at ho
    cases ho
    rfl
theorem info_fmK : (Try.prog.info? 26).map (fun i => (i.zero, i.size, i.bytes)) = some (some (.agg #[.int .i64 0, .int .i64 0, .int .i64 0, .int .i64 0]), 4, 32) := by kernel_rfl
set_option maxRecDepth 100000 in
set_option maxHeartbeats 4000000 in
theorem appendSeq_any (gf : Nat) (lb : Array Value) (S Sp : List Red.F4 → Prop) (N : Nat) (hN : N ≤ 1000) (w : World) (eg : ∀ args w, (callFunc gf args).run Try.prog w = .ok (.enter gf args) w)
    (hseq : SeqStopsK Fence.wide 2 Try.prog gf lb encK KeepsWalks S Sp N w) :
    Calls Try.prog 131 #[.slice none 0 0, .func (.func gf) #[] lb] w fun e w' => ∃ v xs, e = .returned v ∧ S xs ∧ w'.ownsRow w.heap.size 26 4 v xs.length (xs.flatMap hm4) ∧ Below w.heap.size w w' := by
  obtain ⟨i0, hi, hz0, hz1, hz2⟩ := info_parts info_fmK
  have HI := hid hi; have HZ0 := hid hz0; have HZ1 := hid hz1; have HZ2 := hid hz2
  clear hi hz0 hz1 hz2
  have U0 := gr_alloc (Below.refl w.heap.size w) (.cells #[.slice none 0 0] 38)
  have V0 := Boxed.new w 38 (.slice none 0 0)
  have hz : (w.alloc (.cells #[.slice none 0 0] 38)).heap.size = w.heap.size + 1 := by simp
  refine (callsIn_wide (n := 3)).1 ?_
  refine callsIn_of_wp_marks Try.func131 rfl trivial ?_ rfl
  simp only [Try.ntmps131, List.size_toArray, List.length_cons, List.length_nil, Nat.reduceAdd, Nat.reduceSub, Array.replicate_succ, Array.replicate_zero, List.push_toArray, List.append_toArray, List.nil_append, List.cons_append]
  gi_wp2_with fail
  generalize hW0 : w.alloc (.cells #[.slice none 0 0] 38) = W0 at U0 V0 hz ⊢
  have HW := hid hW0
  clear hW0
  refine wpIn_rangeFunc_ownH (n := 3) rfl (by omega) (gf := gf) (lb := lb) rfl trivial eg
      hseq (fun h k => KeepsWalks.trans h k) walksK_b U0 (fun _ => rfl)
      (fun pre W => (∃ v, Boxed W w.heap.size 38 v ∧ W.ownsRow (w.heap.size + 1) 26 4 v pre.length (pre.flatMap hm4) ∧ True) ∧ (Below w.heap.size w W ∧ w.heap.size + 1 ≤ W.heap.size))
      (fun _ _ _ => False)
      (OwnFrom.and (Own.from (holdsRow_own (w.heap.size + 1) w.heap.size 38 26 4 (fun pre => pre.length) (fun pre : List Red.F4 => pre.flatMap hm4) (fun _ _ => True)) _) (OwnFrom.and (ownFrom_below (Nat.le_refl _) (by omega)) (fun s A B row hs hg hr => Nat.le_trans hs hg.size)))
      (fun _ _ _ _ _ hs _ _ => hs)
      ⟨⟨_, V0, World.ownsRow_nil _ _ _ _, trivial⟩, U0, by omega⟩
      (fun x a' W => ∃ Bx, w.heap.size + 1 ≤ Bx ∧ Arr W Bx x.1 x.2.1 x.2.2.1 x.2.2.2 ∧ a' = { tmps := #[.slice none 0 0, .func (.func gf) #[] lb, .pointer (some ⟨w.heap.size, 0, none⟩), undef, .slice none 0 0, .pointer (some ⟨Bx, 0, none⟩), .func (.func gf) #[] lb, vF x, undef, undef, undef, undef, undef], defers := [] })
      (fun x a' s A B row hs hg hr => by obtain ⟨Bx, h1, h2, h3⟩ := hs; exact ⟨Bx, h1, h2.kept hg (fun r e => (hr r e).2), h3⟩) ?assign ?body ?done ?stop
  case assign =>
    rintro l pre x W K ⟨⟨v, hv, hrow, _⟩, hU, hrs⟩ hK
    dsimp only [encK]
    unfold vF at hK ⊢
    gi_wp2
    refine hK _ _ ((KeepsOthers.alloc W (.cells #[.int .i64 x.1, .int .i64 x.2.1, .int .i64 x.2.2.1, .int .i64 x.2.2.2] 26)).from _) (KeepsWalks.alloc _ _) ⟨⟨v, hv.alloc _, hrow.alloc _, trivial⟩, gr_alloc hU _, by simp; omega⟩ ⟨W.heap.size, hrs, Arr.new _ _ _ _ _ _, ?_⟩
    rfl
  case body =>
    rintro l pre x a' W _ _ ⟨⟨v, hv, hrow, _⟩, hU, hrs⟩ ⟨Bx, hBx, hA, rfl⟩ hlt
    have HA := hid hA
    obtain ⟨_, a0, a1, a2, a3, _⟩ := id hA
    have hUs := hU.size
    have hvl := hv.lt
    have hcv := hv.cell
    gi_wp2_with (gi_at_builtin; refine wpListIn_append_own _ rfl _ _ 38 rfl (w.heap.size + 1) 26 i0 (.agg #[.int .i64 0, .int .i64 0, .int .i64 0, .int .i64 0]) 4 32 Try.underlying38 HI.out HZ0.out HZ1.out HZ2.out rfl (by decide) _ _ _ rfl (hrow.alloc _) ⟨W.heap.size, 0, none⟩ 1 1 (hm4 x) rfl rfl ?a1 ?b1 ?c1 ?d1 ?e1 ?_)
    case a1 =>
      intro j u hj
      match j, hj with
      | 0, hj => simp [hm4] at hj; subst hj; simp [Addr.add, go_sem]
      | 1, hj => simp [hm4] at hj; subst hj; simp [Addr.add, go_sem]
      | 2, hj => simp [hm4] at hj; subst hj; simp [Addr.add, go_sem]
      | 3, hj => simp [hm4] at hj; subst hj; simp [Addr.add, go_sem]
    case b1 => intro u hu; simp [hm4] at hu; rcases hu with rfl | rfl | rfl | rfl <;> rfl
    case c1 => unfold maxLen; omega
    case d1 => omega
    case e1 => simp; omega
    intro v' w4 hown' hgrow _
    obtain ⟨g', cap', rfl⟩ := ownsRow_succ hown'
    have hkw : KeepsWalks W w4 := (KeepsWalks.alloc W _).trans (KeepsWalks.of_grownBy hgrow (row_noWalk (hrow.alloc _)))
    obtain ⟨hv4, hv5, _, hk5, hb5⟩ := hv.appended (by decide) (row_weak hrow (base' := w.heap.size) (by omega)) (by omega) (by omega) (row_weak hown' (by omega)) hgrow
    have hr5 := hown'.kept (grownBy_setCell' w4 w.heap.size (.slice (some ⟨g', 0, none⟩) (pre.length + 1) cap')) (.inr (hv4.not_row (by decide) hown').symm)
    have hc4 := hv4.cell
    have hf4 := hv4.frozen
    have HR5 := hid hr5; have HV5 := hid hv5; have HK5 := hid hk5; have HBW := hid hb5; have HKW := hid (hkw.trans (KeepsWalks.setCell w4 ⟨w.heap.size, 0, none⟩ (.slice (some ⟨g', 0, none⟩) (pre.length + 1) cap')))
    clear hr5 hv5 hk5 hb5 hown' hgrow a0 a1 a2 a3 hA hkw
    gi_wp2_with fail
    exact ⟨HK5.out.from _, HKW.out, ⟨⟨_, HV5.out, by simpa using HR5.out, trivial⟩, hU.trans HBW.out, Nat.le_trans (by omega) HBW.out.size⟩⟩
  case done =>
    rintro D ys W hD hS ⟨⟨v, hv, hrow, _⟩, hB, hrs⟩ hK
    have hcv := hv.cell
    have HKD := hid hK
    clear hK
    gi_wp2_with fail
    refine ⟨by simp, .inl ⟨_, _, rfl, run_takeDeferred HKD.out, ?_⟩⟩
    have hro := ownsRow_putObj hrow (.deferred none) HKD.out rfl
    exact ⟨_, results_tmp rfl _ _ _, _, _, rfl, hS, row_weak hro (by omega), hB.trans (belowK_b (w := w) (Nat.le_refl _) W D _ _ (by omega) HKD.out rfl rfl)⟩
  case stop =>
    rintro D c pre W _ _ h _
    exact h.elim
set_option maxHeartbeats 1000000 in
theorem collect_any (gf : Nat) (lb : Array Value) (S Sp : List Red.F4 → Prop) (N : Nat) (hN : N ≤ 1000) (w : World) (eg : ∀ args w, (callFunc gf args).run Try.prog w = .ok (.enter gf args) w)
    (hseq : SeqStopsK Fence.wide 2 Try.prog gf lb encK KeepsWalks S Sp N w) :
    Calls Try.prog 101 #[.func (.func gf) #[] lb] w fun e w' => ∃ v xs, e = .returned v ∧ S xs ∧ w'.ownsRow w.heap.size 26 4 v xs.length (xs.flatMap hm4) ∧ Below w.heap.size w w' := by
  have hC := appendSeq_any gf lb S Sp N hN w eg hseq
  go_enter Try.func101, Try.ntmps101
  go_wp2_with fail
  refine hC.mono ?_
  rintro e w1 ⟨v, xs, rfl, hS, hrow, hb⟩
  go_wp2
  go_ret
  exact ⟨_, _, rfl, hS, hrow, hb⟩

end Go.Proofs.Ytikmjefbjejbkaa

/- Chapter 2: the program's waysToNormal. -/
namespace Go.Proofs.Ytikmjefbjejbkaa
open Go.RowKit

theorem Rd4.drew {w : World} {v : Value} {L : List Red.F4} (h : Rd4 w v L) : Rd4 w.drew v L := h.next (gr_drew (Below.refl _ w))
theorem Mp.set4 {w : World} {b k : Nat} {L : List (Red.F4 × Value)} (h : Mp w b L) (hne : b ≠ k) (x y z u : Value) : Mp ((((w.setCell ⟨k, 0, none⟩ x).setCell ⟨k, 1, none⟩ y).setCell ⟨k, 2, none⟩ z).setCell ⟨k, 3, none⟩ u) b L := by
  unfold Mp at *
  rw [Below.heap_setCell _ _ _ b hne, Below.heap_setCell _ _ _ b hne, Below.heap_setCell _ _ _ b hne, Below.heap_setCell _ _ _ b hne]
  exact h
theorem grownBy_cell (w : World) (k o : Nat) (v : Value) : w.grownBy (w.setCell ⟨k, o, none⟩ v) (some k) :=
  ⟨rfl, rfl, rfl, by rw [World.size_setCell]; exact Nat.le_refl _, fun i _ hi => Below.heap_setCell _ _ _ i (fun e => hi (by rw [e]))⟩
theorem RowM.set4 {w : World} {B k : Nat} {v : Value} {L : List Red.F4} (h : RowM B w v L) (hk : k < B) (x y z u : Value) : RowM B ((((w.setCell ⟨k, 0, none⟩ x).setCell ⟨k, 1, none⟩ y).setCell ⟨k, 2, none⟩ z).setCell ⟨k, 3, none⟩ u) v L := by
  have hne : v.ownBlock = none ∨ v.ownBlock ≠ some k := by
    cases hv : v.ownBlock with
    | none => exact .inl rfl
    | some q => exact .inr (fun e => by cases e; have := (World.ownsRow.lt h k hv).1; omega)
  exact (((World.ownsRow.kept h (grownBy_cell _ k 0 x) hne).kept (grownBy_cell _ k 1 y) hne).kept (grownBy_cell _ k 2 z) hne).kept (grownBy_cell _ k 3 u) hne
set_option maxRecDepth 100000 in
set_option maxHeartbeats 4000000 in
theorem iNormal_any (a b c d : Int) (s : Bool) (T M : Red.F4) (hT : Red.Bd T) (hU : Red.UB T) (hr : Red.rdF s T = true) (hs : decide (0 < sg (dsc a b c d)) = s)
    (hR : ∀ w, Calls Try.prog 114 #[.agg #[.int .i64 a, .int .i64 b, .int .i64 c, .int .i64 d]] w fun e w' => e = .returned (.tuple #[vF T, vF M]) ∧ Below w.heap.size w w') (w : World) :
    Calls Try.prog 53 #[.agg #[.int .i64 a, .int .i64 b, .int .i64 c, .int .i64 d]] w fun e w' => ∃ v, e = .returned (.tuple #[vF (Rd.nrm s T), v]) ∧ RowM w.heap.size w' v (Rd.wys T M (Rd.uni 81) (Rd.nrm s T)) ∧ Below w.heap.size w w' := by
  have HW := hid (fun W => iWays_any a b c d s T M hT hU hs hR W)
  have hkn := Rd.nrm_grp (M := M) hr
  have hnum := Rd.grp_num s T M (Rd.uni 81)
  have hul := Rd.uni_len 81
  have hget := Rd.grp_get s T M (Rd.uni 81)
  have hke : (Rd.grp s T M (Rd.uni 81)).map (·.1) ≠ [] := by
    intro e
    have h1 : T ∈ (Rd.grp s T M (Rd.uni 81)).map (·.1) := (Rd.grp_keys s T M _ _).2 ⟨(1, 0, 0, 1), Rd.uni_has (by unfold Rd.Sm; decide) (by decide), by rw [Rd.ch_one]; exact hr, Rd.ch_one T⟩
    rw [e] at h1; cases h1
  generalize Rd.grp s T M (Rd.uni 81) = G at *
  clear hT hU hs hR hr
  have HK := hid hkn; have HN := hid hnum; have HL := hid hul; have HG := hid hget; have HKE := hid hke
  clear hkn hnum hul hget hke
  have A0 := (Arr.new w a b c d 26).alloc (.cells #[.int .i64 0, .int .i64 0, .int .i64 0, .int .i64 0] 26)
  have B0 := Arr.new (w.alloc (.cells #[.int .i64 a, .int .i64 b, .int .i64 c, .int .i64 d] 26)) 0 0 0 0 26
  have U0 := gr_alloc (gr_alloc (Below.refl w.heap.size w) (.cells #[.int .i64 a, .int .i64 b, .int .i64 c, .int .i64 d] 26)) (.cells #[.int .i64 0, .int .i64 0, .int .i64 0, .int .i64 0] 26)
  simp only [World.size_alloc] at B0
  go_enter Try.func53, Try.ntmps53
  obtain ⟨_, a0, a1, a2, a3, _⟩ := id A0
  go_wp2_with fail
  generalize (w.alloc (.cells #[.int .i64 a, .int .i64 b, .int .i64 c, .int .i64 d] 26)).alloc (.cells #[.int .i64 0, .int .i64 0, .int .i64 0, .int .i64 0] 26) = W0 at A0 B0 U0 ⊢
  refine (HW.out _).mono ?_
  rintro e w1 ⟨bm, L, BB, rfl, hmp, hwy, hBB, hbm, hb1⟩
  have hW0 := U0.size
  have hlt0 := B0.lt
  have B1 := B0.next hb1; have U1 := gr_trans U0 hb1
  clear a0 a1 a2 a3 A0 B0 U0
  have hsz := hb1.size
  have HMP := hid hmp; have HWY := hid hwy
  have hB2 : w.heap.size ≤ BB := by omega
  clear hb1 hmp hwy
  go_wp2_with fail
  refine (mapKeys_any bm _).mono ?_
  rintro e w2 ⟨rfl, hw2⟩
  have hk2 : w2.cell? ⟨w1.heap.size, 0, none⟩ = some (.map (some bm)) := by rw [hw2]; simp [go_sem]
  have hs2 : w1.heap.size < w2.heap.size := by rw [hw2]; simp
  have hb2 : Below w1.heap.size w1 w2 := by rw [hw2]; exact gr_alloc (Below.refl _ _) _
  clear hw2
  have B2 := B1.next hb2; have U2 := gr_trans U1 hb2
  have HP2 := hid (HMP.out.nextW hb2); have HY2 := hid (HWY.out.gb (Gb.below hb2) HMP.out)
  have hLl := HWY.out.len
  have hLn : L.length ≤ 1000 := by have := HN.out; have := HL.out; omega
  have hst := keys_stops w1.heap.size bm 2 L w2 (by omega) hs2 hk2 HP2.out
  have HC := hid (collect_any 113 #[.pointer (some ⟨w1.heap.size, 0, none⟩)] (fun xs => xs.Perm (L.map (·.1))) (fun _ => True) L.length hLn w2 (enters_of Try.func113 (by kernel_rfl) rfl) hst)
  clear hst hk2 B1 U1 hb2 HMP HWY
  go_wp2_with fail
  refine HC.out.mono ?_
  rintro e w3 ⟨v3, xs, rfl, hperm, hrow, hb3⟩
  have B3 := B2.next hb3; have U3 := gr_trans U2 hb3
  have HP3 := hid (HP2.out.nextW hb3); have HY3 := hid (HY2.out.gb (Gb.below hb3) HP2.out)
  have hpx : xs ≠ [] ∧ Rd.mn xs = Rd.nrm s T := by
    rw [HY2.out.keys] at hperm
    have h1 : ∀ x, x ∈ xs ↔ x ∈ G.map (·.1) := fun x => hperm.mem_iff
    have hx : xs ≠ [] := by
      rintro rfl
      exact HKE.out (List.Perm.nil_eq hperm).symm
    exact ⟨hx, (Rd.mn_set hx h1).trans HK.out⟩
  have hxl : xs.length ≤ 1000000 := by have := hperm.length_eq; rw [List.length_map] at this; omega
  have R3 := Rd4.of hrow hpx.1
  have HMn := hid (minF_any v3 xs hpx.1 hxl w3 R3)
  rw [hpx.2] at HMn
  obtain ⟨va, vc, hv3, _⟩ := R3
  subst hv3
  clear HC hrow hperm hpx hxl B2 U2 HP2 HY2 hb3
  go_wp2_with fail
  refine HMn.out.mono ?_
  rintro e w4 ⟨rfl, hb4⟩
  have B4 := B3.next hb4; have U4 := gr_trans U3 hb4
  have HP4 := hid (HP3.out.nextW hb4); have HY4 := hid (HY3.out.gb (Gb.below hb4) HP3.out)
  clear B3 U3 HP3 HY3 hb4 HMn
  obtain ⟨i, v, hLi, hRi⟩ : ∃ i v, L[i]? = some (Rd.nrm s T, v) ∧ RowM BB w4 v (Rd.wys T M (Rd.uni 81) (Rd.nrm s T)) := by
    have h1 : Rd.nrm s T ∈ L.map (·.1) := by
      rw [HY4.out.keys, ← HK.out]
      exact (Rd.mn_mem HKE.out).1
    obtain ⟨p, hp, e⟩ := List.mem_map.1 h1
    obtain ⟨k, v⟩ := p
    dsimp only at e
    subst e
    obtain ⟨i, hi⟩ := List.mem_iff_getElem?.1 hp
    have hlt := (List.getElem?_eq_some_iff.1 hi).1
    obtain ⟨q, hq⟩ : ∃ q, G[i]? = some q := ⟨_, List.getElem?_eq_getElem (by omega)⟩
    obtain ⟨k', ms⟩ := q
    have hk : k' = Rd.nrm s T := by
      have := congrArg (fun l => l[i]?) HY4.out.keys
      simp only [List.getElem?_map, hi, hq, Option.map_some, Option.some.injEq] at this
      exact this.symm
    subst hk
    have h3 := (HG.out _ (List.mem_of_getElem? hq)).2
    dsimp only at h3
    exact ⟨i, v, hi, by have := HY4.out.rows i _ _ v ms hi hq; rwa [h3] at this⟩
  have hlk := fun W (h : Mp W bm L) => lookF_run h (lkM_mem (i := 0) HY4.out.nodup hLi)
  have HR4 := hid (hRi.base hBB)
  clear hLi hRi HY4
  obtain ⟨vb, vd, rfl⟩ := HR4.out.val
  generalize hN : Rd.nrm s T = N at HR4 hlk ⊢
  have HN2 := hid hN
  clear hN
  obtain ⟨n0, n1, n2, n3⟩ := N
  unfold vF at hlk ⊢
  dsimp only at hlk ⊢
  have C5 := Arr.new w4 n0 n1 n2 n3 26
  have P5 := HP4.out.alloc (.cells #[.int .i64 n0, .int .i64 n1, .int .i64 n2, .int .i64 n3] 26)
  have B5 := B4.alloc (.cells #[.int .i64 n0, .int .i64 n1, .int .i64 n2, .int .i64 n3] 26)
  have U5 := gr_alloc U4 (.cells #[.int .i64 n0, .int .i64 n1, .int .i64 n2, .int .i64 n3] 26)
  have R5 := hid (HR4.out.next (gr_alloc (Below.refl w4.heap.size w4) (.cells #[.int .i64 n0, .int .i64 n1, .int .i64 n2, .int .i64 n3] 26)))
  have hne : w.heap.size + 1 < w4.heap.size := B4.lt
  clear B4 U4 HR4 HP4
  go_upto_region 3 with fail
  generalize hjn : w4.heap.size = jn at *
  generalize w4.alloc (.cells #[.int .i64 n0, .int .i64 n1, .int .i64 n2, .int .i64 n3] 26) = W5 at C5 P5 B5 U5 R5 ⊢
  clear hjn
  have C6 := C5.drew; have P6 := P5.drew; have B6 := B5.drew; have U6 := gr_drew U5
  have hl6 := hlk _ P6
  have hl7 := hlk _ (P5.set4 (k := w.heap.size + 1) (by omega) (.int .i64 n0) (.int .i64 n1) (.int .i64 n2) (.int .i64 n3)).drew
  obtain ⟨_, c0, c1, c2, c3, _⟩ := id C6
  obtain ⟨_, d0, d1, d2, d3, f0, f1, f2, f3⟩ := id B6
  obtain ⟨_, c0', c1', c2', c3', _⟩ := id C5
  obtain ⟨_, d0', d1', d2', d3', f0', f1', f2', f3'⟩ := id B5
  go_region
  have R6 := hid (((R5.out.set4 (k := w.heap.size + 1) (by omega) (.int .i64 n0) (.int .i64 n1) (.int .i64 n2) (.int .i64 n3)).next (gr_drew (Below.refl _ _))).base (B' := w.heap.size) (by omega))
  have B7 := (Arr.store4 B5.box (x := n0) (y := n1) (z := n2) (u := n3)).drew
  have U7 : Below w.heap.size w ((((W5.setCell ⟨w.heap.size + 1, 0, none⟩ (.int .i64 n0)).setCell ⟨w.heap.size + 1, 1, none⟩ (.int .i64 n1)).setCell ⟨w.heap.size + 1, 2, none⟩ (.int .i64 n2)).setCell ⟨w.heap.size + 1, 3, none⟩ (.int .i64 n3)).drew := by (repeat' (first | with_reducible exact Below.refl _ _ | with_reducible assumption | with_reducible refine gr_alloc ?_ _ | with_reducible refine gr_drew ?_ | with_reducible refine gr_drewN ?_ _ | with_reducible refine gr_trans ?_ (by assumption) | with_reducible refine gr_set ?_ ?_ _ | (simp; done) | omega | (simp; omega)))
  clear hl6 hl7 hlk C5 B5 C6 B6 P5 P6 R5
  go_wp2_with fail
  refine bodyPost_ret (res_A (e := 2) rfl Try.underlying26 (by kernel_rfl) rfl B7) rfl ?_
  refine ⟨.slice vb (Rd.wys T M (Rd.uni 81) (n0, n1, n2, n3)).length vd, ?_, ?_, U7⟩
  · rw [HN2.out]; rfl
  · rw [HN2.out]; exact R6.out

end Go.Proofs.Ytikmjefbjejbkaa
