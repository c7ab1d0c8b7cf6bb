/- Several texts in one: XMn, XPu. -/
import Derived.Test.YtipeeljapmiciaaBaZ13
import Derived.Deep.AppendLies

/- Chapter 2: the program's waysToNormal. -/
namespace Go.Proofs.Ytipeeljapmiciaa
open Go.RowKit

theorem Rd4.drew {w : World} {v : Value} {L : List Red.F4} (h : Rd4 w v L) : Rd4 w.drew v L := h.next (gr_drew (Below.refl _ w))
theorem Mp.set4 {w : World} {b k : Nat} {L : List (Red.F4 × Value)} (h : Mp w b L) (hne : b ≠ k) (x y z u : Value) : Mp ((((w.setCell ⟨k, 0, none⟩ x).setCell ⟨k, 1, none⟩ y).setCell ⟨k, 2, none⟩ z).setCell ⟨k, 3, none⟩ u) b L := by
  unfold Mp at *
  rw [Below.heap_setCell _ _ _ b hne, Below.heap_setCell _ _ _ b hne, Below.heap_setCell _ _ _ b hne, Below.heap_setCell _ _ _ b hne]
  exact h
theorem grownBy_cell (w : World) (k o : Nat) (v : Value) : w.grownBy (w.setCell ⟨k, o, none⟩ v) (some k) :=
  ⟨rfl, rfl, rfl, by rw [World.size_setCell]; exact Nat.le_refl _, fun i _ hi => Below.heap_setCell _ _ _ i (fun e => hi (by rw [e]))⟩
theorem RowM.set4 {w : World} {B k : Nat} {v : Value} {L : List Red.F4} (h : RowM B w v L) (hk : k < B) (x y z u : Value) : RowM B ((((w.setCell ⟨k, 0, none⟩ x).setCell ⟨k, 1, none⟩ y).setCell ⟨k, 2, none⟩ z).setCell ⟨k, 3, none⟩ u) v L := by
  have hne : v.ownBlock = none ∨ v.ownBlock ≠ some k := by
    cases hv : v.ownBlock with
    | none => exact .inl rfl
    | some q => exact .inr (fun e => by cases e; have := (World.ownsRow.lt h k hv).1; omega)
  exact (((World.ownsRow.kept h (grownBy_cell _ k 0 x) hne).kept (grownBy_cell _ k 1 y) hne).kept (grownBy_cell _ k 2 z) hne).kept (grownBy_cell _ k 3 u) hne
set_option maxRecDepth 100000 in
set_option maxHeartbeats 4000000 in
theorem iNormal_any (a b c d : Int) (s : Bool) (T M : Red.F4) (hT : Red.Bd T) (hU : Red.UB T) (hr : Red.rdF s T = true) (hs : decide (0 < sg (dsc a b c d)) = s)
    (hR : ∀ w, Calls Try.prog 81 #[.agg #[.int .i64 a, .int .i64 b, .int .i64 c, .int .i64 d]] w fun e w' => e = .returned (.tuple #[vF T, vF M]) ∧ Below w.heap.size w w') (w : World) :
    Calls Try.prog 43 #[.agg #[.int .i64 a, .int .i64 b, .int .i64 c, .int .i64 d]] w fun e w' => ∃ v, e = .returned (.tuple #[vF (Rd.nrm s T), v]) ∧ RowM w.heap.size w' v (Rd.wys T M (Rd.uni 81) (Rd.nrm s T)) ∧ Below w.heap.size w w' := by
  have HW := hid (fun W => iWays_any a b c d s T M hT hU hs hR W)
  have hkn := Rd.nrm_grp (M := M) hr
  have hnum := Rd.grp_num s T M (Rd.uni 81)
  have hul := Rd.uni_len 81
  have hget := Rd.grp_get s T M (Rd.uni 81)
  have hke : (Rd.grp s T M (Rd.uni 81)).map (·.1) ≠ [] := by
    intro e
    have h1 : T ∈ (Rd.grp s T M (Rd.uni 81)).map (·.1) := (Rd.grp_keys s T M _ _).2 ⟨(1, 0, 0, 1), Rd.uni_has (by unfold Rd.Sm; decide) (by decide), by rw [Rd.ch_one]; exact hr, Rd.ch_one T⟩
    rw [e] at h1; cases h1
  generalize Rd.grp s T M (Rd.uni 81) = G at *
  clear hT hU hs hR hr
  have HK := hid hkn; have HN := hid hnum; have HL := hid hul; have HG := hid hget; have HKE := hid hke
  clear hkn hnum hul hget hke
  have A0 := (Arr.new w a b c d 23).alloc (.cells #[.int .i64 0, .int .i64 0, .int .i64 0, .int .i64 0] 23)
  have B0 := Arr.new (w.alloc (.cells #[.int .i64 a, .int .i64 b, .int .i64 c, .int .i64 d] 23)) 0 0 0 0 23
  have U0 := gr_alloc (gr_alloc (Below.refl w.heap.size w) (.cells #[.int .i64 a, .int .i64 b, .int .i64 c, .int .i64 d] 23)) (.cells #[.int .i64 0, .int .i64 0, .int .i64 0, .int .i64 0] 23)
  simp only [World.size_alloc] at B0
  go_enter Try.func43, Try.ntmps43
  obtain ⟨_, a0, a1, a2, a3, _⟩ := id A0
  go_wp2_with fail
  generalize (w.alloc (.cells #[.int .i64 a, .int .i64 b, .int .i64 c, .int .i64 d] 23)).alloc (.cells #[.int .i64 0, .int .i64 0, .int .i64 0, .int .i64 0] 23) = W0 at A0 B0 U0 ⊢
  refine (HW.out _).mono ?_
  rintro e w1 ⟨bm, L, BB, rfl, hmp, hwy, hBB, hbm, hb1⟩
  have hW0 := U0.size
  have hlt0 := B0.lt
  have B1 := B0.next hb1; have U1 := gr_trans U0 hb1
  clear a0 a1 a2 a3 A0 B0 U0
  have hsz := hb1.size
  have HMP := hid hmp; have HWY := hid hwy
  have hB2 : w.heap.size ≤ BB := by omega
  clear hb1 hmp hwy
  go_wp2_with fail
  refine (mapKeys_any bm _).mono ?_
  rintro e w2 ⟨rfl, hw2⟩
  have hk2 : w2.cell? ⟨w1.heap.size, 0, none⟩ = some (.map (some bm)) := by rw [hw2]; simp [go_sem]
  have hs2 : w1.heap.size < w2.heap.size := by rw [hw2]; simp
  have hb2 : Below w1.heap.size w1 w2 := by rw [hw2]; exact gr_alloc (Below.refl _ _) _
  clear hw2
  have B2 := B1.next hb2; have U2 := gr_trans U1 hb2
  have HP2 := hid (HMP.out.nextW hb2); have HY2 := hid (HWY.out.gb (Gb.below hb2) HMP.out)
  have hLl := HWY.out.len
  have hLn : L.length ≤ 1000 := by have := HN.out; have := HL.out; omega
  have hst := keys_stops w1.heap.size bm 2 L w2 (by omega) hs2 hk2 HP2.out
  have HC := hid (collect_any 79 #[.pointer (some ⟨w1.heap.size, 0, none⟩)] (fun xs => xs.Perm (L.map (·.1))) (fun _ => True) L.length hLn w2 (enters_of Try.func79 (by kernel_rfl) rfl) hst)
  clear hst hk2 B1 U1 hb2 HMP HWY
  go_wp2_with fail
  refine HC.out.mono ?_
  rintro e w3 ⟨v3, xs, rfl, hperm, hrow, hb3⟩
  have B3 := B2.next hb3; have U3 := gr_trans U2 hb3
  have HP3 := hid (HP2.out.nextW hb3); have HY3 := hid (HY2.out.gb (Gb.below hb3) HP2.out)
  have hpx : xs ≠ [] ∧ Rd.mn xs = Rd.nrm s T := by
    rw [HY2.out.keys] at hperm
    have h1 : ∀ x, x ∈ xs ↔ x ∈ G.map (·.1) := fun x => hperm.mem_iff
    have hx : xs ≠ [] := by
      rintro rfl
      exact HKE.out (List.Perm.nil_eq hperm).symm
    exact ⟨hx, (Rd.mn_set hx h1).trans HK.out⟩
  have hxl : xs.length ≤ 1000000 := by have := hperm.length_eq; rw [List.length_map] at this; omega
  have R3 := Rd4.of hrow hpx.1
  have HMn := hid (minF_any v3 xs hpx.1 hxl w3 R3)
  rw [hpx.2] at HMn
  obtain ⟨va, vc, hv3, _⟩ := R3
  subst hv3
  clear HC hrow hperm hpx hxl B2 U2 HP2 HY2 hb3
  go_wp2_with fail
  refine HMn.out.mono ?_
  rintro e w4 ⟨rfl, hb4⟩
  have B4 := B3.next hb4; have U4 := gr_trans U3 hb4
  have HP4 := hid (HP3.out.nextW hb4); have HY4 := hid (HY3.out.gb (Gb.below hb4) HP3.out)
  clear B3 U3 HP3 HY3 hb4 HMn
  obtain ⟨i, v, hLi, hRi⟩ : ∃ i v, L[i]? = some (Rd.nrm s T, v) ∧ RowM BB w4 v (Rd.wys T M (Rd.uni 81) (Rd.nrm s T)) := by
    have h1 : Rd.nrm s T ∈ L.map (·.1) := by
      rw [HY4.out.keys, ← HK.out]
      exact (Rd.mn_mem HKE.out).1
    obtain ⟨p, hp, e⟩ := List.mem_map.1 h1
    obtain ⟨k, v⟩ := p
    dsimp only at e
    subst e
    obtain ⟨i, hi⟩ := List.mem_iff_getElem?.1 hp
    have hlt := (List.getElem?_eq_some_iff.1 hi).1
    obtain ⟨q, hq⟩ : ∃ q, G[i]? = some q := ⟨_, List.getElem?_eq_getElem (by omega)⟩
    obtain ⟨k', ms⟩ := q
    have hk : k' = Rd.nrm s T := by
      have := congrArg (fun l => l[i]?) HY4.out.keys
      simp only [List.getElem?_map, hi, hq, Option.map_some, Option.some.injEq] at this
      exact this.symm
    subst hk
    have h3 := (HG.out _ (List.mem_of_getElem? hq)).2
    dsimp only at h3
    exact ⟨i, v, hi, by have := HY4.out.rows i _ _ v ms hi hq; rwa [h3] at this⟩
  have hlk := fun W (h : Mp W bm L) => lookF_run h (lkM_mem (i := 0) HY4.out.nodup hLi)
  have HR4 := hid (hRi.base hBB)
  clear hLi hRi HY4
  obtain ⟨vb, vd, rfl⟩ := HR4.out.val
  generalize hN : Rd.nrm s T = N at HR4 hlk ⊢
  have HN2 := hid hN
  clear hN
  obtain ⟨n0, n1, n2, n3⟩ := N
  unfold vF at hlk ⊢
  dsimp only at hlk ⊢
  have C5 := Arr.new w4 n0 n1 n2 n3 23
  have P5 := HP4.out.alloc (.cells #[.int .i64 n0, .int .i64 n1, .int .i64 n2, .int .i64 n3] 23)
  have B5 := B4.alloc (.cells #[.int .i64 n0, .int .i64 n1, .int .i64 n2, .int .i64 n3] 23)
  have U5 := gr_alloc U4 (.cells #[.int .i64 n0, .int .i64 n1, .int .i64 n2, .int .i64 n3] 23)
  have R5 := hid (HR4.out.next (gr_alloc (Below.refl w4.heap.size w4) (.cells #[.int .i64 n0, .int .i64 n1, .int .i64 n2, .int .i64 n3] 23)))
  have hne : w.heap.size + 1 < w4.heap.size := B4.lt
  clear B4 U4 HR4 HP4
  go_upto_region 3 with fail
  generalize hjn : w4.heap.size = jn at *
  generalize w4.alloc (.cells #[.int .i64 n0, .int .i64 n1, .int .i64 n2, .int .i64 n3] 23) = W5 at C5 P5 B5 U5 R5 ⊢
  clear hjn
  have C6 := C5.drew; have P6 := P5.drew; have B6 := B5.drew; have U6 := gr_drew U5
  have hl6 := hlk _ P6
  have hl7 := hlk _ (P5.set4 (k := w.heap.size + 1) (by omega) (.int .i64 n0) (.int .i64 n1) (.int .i64 n2) (.int .i64 n3)).drew
  obtain ⟨_, c0, c1, c2, c3, _⟩ := id C6
  obtain ⟨_, d0, d1, d2, d3, f0, f1, f2, f3⟩ := id B6
  obtain ⟨_, c0', c1', c2', c3', _⟩ := id C5
  obtain ⟨_, d0', d1', d2', d3', f0', f1', f2', f3'⟩ := id B5
  go_region
  have R6 := hid (((R5.out.set4 (k := w.heap.size + 1) (by omega) (.int .i64 n0) (.int .i64 n1) (.int .i64 n2) (.int .i64 n3)).next (gr_drew (Below.refl _ _))).base (B' := w.heap.size) (by omega))
  have B7 := (Arr.store4 B5.box (x := n0) (y := n1) (z := n2) (u := n3)).drew
  have U7 : Below w.heap.size w ((((W5.setCell ⟨w.heap.size + 1, 0, none⟩ (.int .i64 n0)).setCell ⟨w.heap.size + 1, 1, none⟩ (.int .i64 n1)).setCell ⟨w.heap.size + 1, 2, none⟩ (.int .i64 n2)).setCell ⟨w.heap.size + 1, 3, none⟩ (.int .i64 n3)).drew := by (repeat' (first | with_reducible exact Below.refl _ _ | with_reducible assumption | with_reducible refine gr_alloc ?_ _ | with_reducible refine gr_drew ?_ | with_reducible refine gr_drewN ?_ _ | with_reducible refine gr_trans ?_ (by assumption) | with_reducible refine gr_set ?_ ?_ _ | (simp; done) | omega | (simp; omega)))
  clear hl6 hl7 hlk C5 B5 C6 B6 P5 P6 R5
  go_wp2_with fail
  refine bodyPost_ret (res_A (e := 2) rfl Try.underlying23 (by kernel_rfl) rfl B7) rfl ?_
  refine ⟨.slice vb (Rd.wys T M (Rd.uni 81) (n0, n1, n2, n3)).length vd, ?_, ?_, U7⟩
  · rw [HN2.out]; rfl
  · rw [HN2.out]; exact R6.out

end Go.Proofs.Ytipeeljapmiciaa

/- Chapter 2: rows of forms and of matrices that are put together; the model's l02Put. -/
namespace Go.Proofs.Ytipeeljapmiciaa
open Go.RowKit

/-- A row that is there (not nil), and can be read. -/
structure RdA (w : World) (g cap : Nat) (L : List Red.F4) : Prop where
  lt : g < w.heap.size
  le : L.length ≤ cap
  mx : cap ≤ maxLen
  at4 : ∀ k q, L[k]? = some q → At4 w g (k * 4) q.1 q.2.1 q.2.2.1 q.2.2.2
theorem RdA.next {w w' : World} {g cap : Nat} {L : List Red.F4} (h : RdA w g cap L) {B : Nat} (hb : Below B w w') (hB : g < B) : RdA w' g cap L :=
  ⟨Nat.lt_of_lt_of_le h.lt hb.size, h.le, h.mx, fun k q hk => (h.at4 k q hk).next hb hB⟩
theorem RdA.of {w : World} {B : Nat} {T : TypeId} {g cap : Nat} {L : List Red.F4} (h : w.ownsRow B T 4 (.slice (some ⟨g, 0, none⟩) L.length cap) L.length (L.flatMap hm4)) : RdA w g cap L := by
  rcases h.2 with ⟨h0, _⟩ | ⟨g', cap', cur, hv, hb, hg, hnc, hcm, hs, ht⟩
  · cases h0
  · cases hv
    refine ⟨(Array.getElem?_eq_some_iff.1 hg).1, hnc, hcm, fun k q hk => ?_⟩
    have hne : L ≠ [] := by rintro rfl; simp at hk
    obtain ⟨g', cap', hv, _, _, h4⟩ := Rd4.of h hne
    cases hv
    exact h4 k q hk
/-- The cells from place k on. -/
theorem RdA.cells {w : World} {g cap : Nat} {L : List Red.F4} (h : RdA w g cap L) (k m : Nat) : ∀ j u, (((L.drop k).take m).flatMap hm4)[j]? = some u → w.cell? ((⟨g, k * 4, none⟩ : Addr).add j) = some u := by
  intro j u hj
  have hadd : (⟨g, k * 4, none⟩ : Addr).add j = ⟨g, k * 4 + j, none⟩ := by unfold Addr.add; split <;> simp_all
  rw [hadd]
  have hlen : j < 4 * ((L.drop k).take m).length := by
    have := (List.getElem?_eq_some_iff.1 hj).1
    rw [hm4_map, List.length_map, gm4_len] at this; exact this
  have hi : j / 4 < ((L.drop k).take m).length := by omega
  obtain ⟨q, hq⟩ : ∃ q, ((L.drop k).take m)[j / 4]? = some q := ⟨_, List.getElem?_eq_getElem hi⟩
  have hqL : L[k + j / 4]? = some q := by
    rw [List.getElem?_take] at hq
    split at hq
    · rwa [List.getElem?_drop] at hq
    · cases hq
  have h4 := h.at4 _ _ hqL
  obtain ⟨e0, e1, e2, e3⟩ := flat_at hq
  have hu : u = .int .i64 ((((L.drop k).take m).flatMap gm4).getD j 0) := by
    rw [hm4_map, List.getElem?_map] at hj
    have hjl : j < (((L.drop k).take m).flatMap gm4).length := by rw [gm4_len]; exact hlen
    rw [List.getElem?_eq_getElem hjl] at hj
    simp only [Option.map_some, Option.some.injEq] at hj
    rw [← hj, List.getD, List.getElem?_eq_getElem hjl]; rfl
  have hjr : j % 4 = 0 ∨ j % 4 = 1 ∨ j % 4 = 2 ∨ j % 4 = 3 := by omega
  rcases hjr with hr | hr | hr | hr
  · have e : k * 4 + j = (k + j / 4) * 4 := by omega
    have e' : j = j / 4 * 4 := by omega
    have hx : (((L.drop k).take m).flatMap gm4).getD j 0 = q.1 := by have := e0; rwa [← e'] at this
    rw [e, hu, hx]; exact h4.c0
  · have e : k * 4 + j = (k + j / 4) * 4 + 1 := by omega
    have e' : j = j / 4 * 4 + 1 := by omega
    have hx : (((L.drop k).take m).flatMap gm4).getD j 0 = q.2.1 := by have := e1; rwa [← e'] at this
    rw [e, hu, hx]; exact h4.c1
  · have e : k * 4 + j = (k + j / 4) * 4 + 2 := by omega
    have e' : j = j / 4 * 4 + 2 := by omega
    have hx : (((L.drop k).take m).flatMap gm4).getD j 0 = q.2.2.1 := by have := e2; rwa [← e'] at this
    rw [e, hu, hx]; exact h4.c2
  · have e : k * 4 + j = (k + j / 4) * 4 + 3 := by omega
    have e' : j = j / 4 * 4 + 3 := by omega
    have hx : (((L.drop k).take m).flatMap gm4).getD j 0 = q.2.2.2 := by have := e3; rwa [← e'] at this
    rw [e, hu, hx]; exact h4.c3
theorem hm4_one (L : List Red.F4) : ∀ u ∈ L.flatMap hm4, u.oneCell' = true := by
  intro u hu
  rw [hm4_map] at hu
  obtain ⟨x, _, rfl⟩ := List.mem_map.1 hu
  rfl
/-- A row of forms of the call's own. -/
def RowFm (B : Nat) (w : World) (v : Value) (L : List Red.F4) : Prop := w.ownsRow B 23 4 v L.length (L.flatMap hm4)
theorem RowFm.nil (B : Nat) (w : World) : RowFm B w (.slice none 0 0) [] := World.ownsRow_nil _ _ _ _
theorem RowFm.empty (B : Nat) (w : World) (hB : B ≤ w.heap.size) : RowFm B (w.alloc (.cells #[] 23)) (.slice (some ⟨w.heap.size, 0, none⟩) 0 0) [] :=
  ⟨rfl, .inr ⟨w.heap.size, 0, #[], rfl, hB, heap_alloc_new w _, Nat.le_refl _, by decide, rfl, rfl⟩⟩
theorem RowFm.next {w w' : World} {B : Nat} {v : Value} {L : List Red.F4} (h : RowFm B w v L) (hb : Below w.heap.size w w') : RowFm B w' v L :=
  World.ownsRow.kept (row := none) h ⟨hb.os, hb.tape, hb.output, hb.size, fun k hk _ => hb.block k hk⟩ (by cases v.ownBlock <;> simp)
theorem RowFm.val {w : World} {B : Nat} {v : Value} {L : List Red.F4} (h : RowFm B w v L) : ∃ a cap, v = .slice a L.length cap := by
  rcases h.2 with ⟨rfl, hn⟩ | ⟨g, cap, cur, rfl, _⟩
  · exact ⟨none, 0, by rw [hn]⟩
  · exact ⟨_, _, rfl⟩
theorem RowFm.base {w : World} {B B' : Nat} {v : Value} {L : List Red.F4} (h : RowFm B w v L) (hB : B' ≤ B) : RowFm B' w v L := by
  refine ⟨h.1, ?_⟩
  rcases h.2 with h2 | ⟨g, cap, cur, h3, hb, h4⟩
  · exact .inl h2
  · exact .inr ⟨g, cap, cur, h3, by omega, h4⟩
/-- A block just laid that holds one. -/
theorem one_row {T : TypeId} (B : Nat) (w : World) (p q r t : Int) (hB : B ≤ w.heap.size) : (w.alloc (.cells #[.int .i64 p, .int .i64 q, .int .i64 r, .int .i64 t] T)).ownsRow B T 4 (.slice (some ⟨w.heap.size, 0, none⟩) 1 1) 1 ([(p, q, r, t)].flatMap hm4) :=
  ⟨rfl, .inr ⟨w.heap.size, 1, _, rfl, hB, heap_alloc_new w _, Nat.le_refl _, by decide, rfl, rfl⟩⟩

section
variable {ops : Array Oper} {rest : List Oper} {o : Oper} {a : Act} {Q : Exit → Act → World → Prop} {w : World}
/-- append(row, others..). -/
theorem appF (hgd : o.guard = none) (s x : Operand) (ho : o.op = .call { callee := .builtin .append, args := #[s, x], argTypes := #[29, 29] }) (base : Nat) (v : Value) (L1 L2 : List Red.F4) (hs : a.eval s = v) (hown : RowFm base w v L1) (hv : v ≠ .slice none 0 0)
    (ad : Addr) (n2 c : Nat) (hx : a.eval x = .slice (some ad) n2 c) (hn2 : L2.length = n2) (hc : ∀ j u, (L2.flatMap hm4)[j]? = some u → w.cell? (ad.add j) = some u) (hn : L1.length + L2.length ≤ 1000000) (hbase : base ≤ w.heap.size)
    (h : ∀ g n cap w', n = L1.length + L2.length → RowFm base w' (.slice (some ⟨g, 0, none⟩) n cap) (L1 ++ L2) → w.grownBy w' v.ownBlock → wpList Try.prog ops Q rest (a.put o.dst (.slice (some ⟨g, 0, none⟩) n cap)) w') : wpList Try.prog ops Q (o :: rest) a w := by
  subst hn2
  obtain ⟨i0, hi, hi0, hi1, hi2⟩ := info_parts info_fmK
  refine wpList_append_own _ hgd s x 29 ho base 23 i0 (.agg #[.int .i64 0, .int .i64 0, .int .i64 0, .int .i64 0]) 4 32 Try.underlying29 hi hi0 hi1 hi2 rfl (by decide) v L1.length (L1.flatMap hm4) hs hown ad L2.length c (L2.flatMap hm4) hx ?_ hc (hm4_one L2) ?_ ?_ hbase (fun v' w' h1 h2 h3 => ?_)
  · rw [hm4_map, List.length_map, gm4_len]; omega
  · unfold maxLen; omega
  · omega
  · have h4 : v' ≠ .slice none 0 0 := fun e => hv ((h3.1 e).1)
    have h5 : w'.ownsRow base 23 4 v' (L1 ++ L2).length ((L1 ++ L2).flatMap hm4) := by simpa using h1
    obtain ⟨g, cap, rfl⟩ : ∃ g cap, v' = .slice (some ⟨g, 0, none⟩) (L1 ++ L2).length cap := by
      rcases h5.2 with ⟨e, _⟩ | ⟨g, cap, cur, e, _⟩
      · exact absurd e h4
      · exact ⟨g, cap, e⟩
    exact h g (L1 ++ L2).length cap w' (List.length_append) h5 h2
/-- .. at a step of a region that draws its order. -/
theorem stepF {K : Act → World → Prop} {E : Prop} (hgd : o.guard = none) (s x : Operand) (ho : o.op = .call { callee := .builtin .append, args := #[s, x], argTypes := #[29, 29] }) (base : Nat) (v : Value) (L1 L2 : List Red.F4) (hs : a.eval s = v) (hown : RowFm base w v L1) (hv : v ≠ .slice none 0 0)
    (ad : Addr) (n2 c : Nat) (hx : a.eval x = .slice (some ad) n2 c) (hn2 : L2.length = n2) (hc : ∀ j u, (L2.flatMap hm4)[j]? = some u → w.cell? (ad.add j) = some u) (hn : L1.length + L2.length ≤ 1000000) (hbase : base ≤ w.heap.size)
    (h : ∀ g n cap w', n = L1.length + L2.length → RowFm base w' (.slice (some ⟨g, 0, none⟩) n cap) (L1 ++ L2) → w.grownBy w' v.ownBlock → K (a.put o.dst (.slice (some ⟨g, 0, none⟩) n cap)) w') :
    if Region.wanted o (yielded ops a.tmps) = true then Oper.wp Try.prog o a w K Q else E := by
  subst hn2
  have hw : Region.wanted o (yielded ops a.tmps) = true := by simp [Region.wanted, hgd]
  rw [if_pos hw]
  obtain ⟨i0, hi, hi0, hi1, hi2⟩ := info_parts info_fmK
  obtain ⟨v', w', hr, h1, h2, h3, _⟩ := run_append_own_at w base 29 o.type 23 i0 (.agg #[.int .i64 0, .int .i64 0, .int .i64 0, .int .i64 0]) 4 32 Try.underlying29 hi hi0 hi1 hi2 rfl (by decide) v L1.length (L1.flatMap hm4) hown ad L2.length c (L2.flatMap hm4) (by rw [hm4_map, List.length_map, gm4_len]; omega) hc (hm4_one L2) (by unfold maxLen; omega) (by omega) hbase
  have h4 : v' ≠ .slice none 0 0 := fun e => hv ((h3.1 e).1)
  have h5 : w'.ownsRow base 23 4 v' (L1 ++ L2).length ((L1 ++ L2).flatMap hm4) := by simpa using h1
  obtain ⟨g, cap, rfl⟩ : ∃ g cap, v' = .slice (some ⟨g, 0, none⟩) (L1 ++ L2).length cap := by
    rcases h5.2 with ⟨e, _⟩ | ⟨g, cap, cur, e, _⟩
    · exact absurd e h4
    · exact ⟨g, cap, e⟩
  unfold Oper.wp
  simp only [execOp, ho]
  simp [resolve, invoke, builtin, hs, hx, hr, Result.andThen]
  have := h g (L1 ++ L2).length cap w' (List.length_append) h5 h2
  rw [List.length_append] at this
  exact this
end

section
variable {ops : Array Oper} {rest : List Oper} {o : Oper} {a : Act} {Q : Exit → Act → World → Prop} {w : World}
/-- append(row, others..). -/
theorem appM (hgd : o.guard = none) (s x : Operand) (ho : o.op = .call { callee := .builtin .append, args := #[s, x], argTypes := #[41, 41] }) (base : Nat) (v : Value) (L1 L2 : List Red.F4) (hs : a.eval s = v) (hown : RowM base w v L1) (hv : v ≠ .slice none 0 0)
    (ad : Addr) (n2 c : Nat) (hx : a.eval x = .slice (some ad) n2 c) (hn2 : L2.length = n2) (hc : ∀ j u, (L2.flatMap hm4)[j]? = some u → w.cell? (ad.add j) = some u) (hn : L1.length + L2.length ≤ 1000000) (hbase : base ≤ w.heap.size)
    (h : ∀ g n cap w', n = L1.length + L2.length → RowM base w' (.slice (some ⟨g, 0, none⟩) n cap) (L1 ++ L2) → w.grownBy w' v.ownBlock → wpList Try.prog ops Q rest (a.put o.dst (.slice (some ⟨g, 0, none⟩) n cap)) w') : wpList Try.prog ops Q (o :: rest) a w := by
  subst hn2
  obtain ⟨i0, hi, hi0, hi1, hi2⟩ := info_parts info_m4
  refine wpList_append_own _ hgd s x 41 ho base 34 i0 (.agg #[.int .i64 0, .int .i64 0, .int .i64 0, .int .i64 0]) 4 32 Try.underlying41 hi hi0 hi1 hi2 rfl (by decide) v L1.length (L1.flatMap hm4) hs hown ad L2.length c (L2.flatMap hm4) hx ?_ hc (hm4_one L2) ?_ ?_ hbase (fun v' w' h1 h2 h3 => ?_)
  · rw [hm4_map, List.length_map, gm4_len]; omega
  · unfold maxLen; omega
  · omega
  · have h4 : v' ≠ .slice none 0 0 := fun e => hv ((h3.1 e).1)
    have h5 : w'.ownsRow base 34 4 v' (L1 ++ L2).length ((L1 ++ L2).flatMap hm4) := by simpa using h1
    obtain ⟨g, cap, rfl⟩ : ∃ g cap, v' = .slice (some ⟨g, 0, none⟩) (L1 ++ L2).length cap := by
      rcases h5.2 with ⟨e, _⟩ | ⟨g, cap, cur, e, _⟩
      · exact absurd e h4
      · exact ⟨g, cap, e⟩
    exact h g (L1 ++ L2).length cap w' (List.length_append) h5 h2
/-- .. at a step of a region that draws its order. -/
theorem stepM {K : Act → World → Prop} {E : Prop} (hgd : o.guard = none) (s x : Operand) (ho : o.op = .call { callee := .builtin .append, args := #[s, x], argTypes := #[41, 41] }) (base : Nat) (v : Value) (L1 L2 : List Red.F4) (hs : a.eval s = v) (hown : RowM base w v L1) (hv : v ≠ .slice none 0 0)
    (ad : Addr) (n2 c : Nat) (hx : a.eval x = .slice (some ad) n2 c) (hn2 : L2.length = n2) (hc : ∀ j u, (L2.flatMap hm4)[j]? = some u → w.cell? (ad.add j) = some u) (hn : L1.length + L2.length ≤ 1000000) (hbase : base ≤ w.heap.size)
    (h : ∀ g n cap w', n = L1.length + L2.length → RowM base w' (.slice (some ⟨g, 0, none⟩) n cap) (L1 ++ L2) → w.grownBy w' v.ownBlock → K (a.put o.dst (.slice (some ⟨g, 0, none⟩) n cap)) w') :
    if Region.wanted o (yielded ops a.tmps) = true then Oper.wp Try.prog o a w K Q else E := by
  subst hn2
  have hw : Region.wanted o (yielded ops a.tmps) = true := by simp [Region.wanted, hgd]
  rw [if_pos hw]
  obtain ⟨i0, hi, hi0, hi1, hi2⟩ := info_parts info_m4
  obtain ⟨v', w', hr, h1, h2, h3, _⟩ := run_append_own_at w base 41 o.type 34 i0 (.agg #[.int .i64 0, .int .i64 0, .int .i64 0, .int .i64 0]) 4 32 Try.underlying41 hi hi0 hi1 hi2 rfl (by decide) v L1.length (L1.flatMap hm4) hown ad L2.length c (L2.flatMap hm4) (by rw [hm4_map, List.length_map, gm4_len]; omega) hc (hm4_one L2) (by unfold maxLen; omega) (by omega) hbase
  have h4 : v' ≠ .slice none 0 0 := fun e => hv ((h3.1 e).1)
  have h5 : w'.ownsRow base 34 4 v' (L1 ++ L2).length ((L1 ++ L2).flatMap hm4) := by simpa using h1
  obtain ⟨g, cap, rfl⟩ : ∃ g cap, v' = .slice (some ⟨g, 0, none⟩) (L1 ++ L2).length cap := by
    rcases h5.2 with ⟨e, _⟩ | ⟨g, cap, cur, e, _⟩
    · exact absurd e h4
    · exact ⟨g, cap, e⟩
  unfold Oper.wp
  simp only [execOp, ho]
  simp [resolve, invoke, builtin, hs, hx, hr, Result.andThen]
  have := h g (L1 ++ L2).length cap w' (List.length_append) h5 h2
  rw [List.length_append] at this
  exact this
end

end Go.Proofs.Ytipeeljapmiciaa
