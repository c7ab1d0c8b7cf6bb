/- Several texts in one: XRo2, XMa. -/
import Derived.Test.YtipeeljapmiciaaBaMf
import Derived.Test.YtipeeljapmiciaaBaMx
import Derived.Test.YtipeeljapmiciaaBaC1u
import Derived.Test.YtipeeljapmiciaaBaZ10

/- Chapter 2: the order of four numbers; the least of a list; keys of the ways. Mathematics. -/
namespace Go.Proofs.Ytipeeljapmiciaa
open Go.RowKit
namespace Rd
/-- x comes ahead of y. -/
def Ls (x y : Red.F4) : Prop := x.1 < y.1 ∨ x.1 = y.1 ∧ (x.2.1 < y.2.1 ∨ x.2.1 = y.2.1 ∧ (x.2.2.1 < y.2.2.1 ∨ x.2.2.1 = y.2.2.1 ∧ x.2.2.2 < y.2.2.2))
theorem ls_iff (x y : Red.F4) : ls x y = true ↔ Ls x y := by
  unfold ls Ls
  (repeat' split) <;> simp only [decide_eq_true_eq] <;> omega
theorem cm4_iff (x y : Red.F4) : cm4 x y < 0 ↔ Ls x y := by
  unfold cm4 Ls c3
  (repeat' split) <;> omega
theorem Ls.irrefl (x : Red.F4) : ¬ Ls x x := by unfold Ls; omega
theorem Ls.trans {x y z : Red.F4} (h : Ls x y) (k : Ls y z) : Ls x z := by unfold Ls at *; omega
theorem Ls.total {x y : Red.F4} (h : ¬ Ls x y) (k : ¬ Ls y x) : x = y := by
  unfold Ls at *
  refine Prod.ext ?_ (Prod.ext ?_ (Prod.ext ?_ ?_)) <;> omega
theorem Ls.ntrans {x y z : Red.F4} (h : ¬ Ls x y) (k : ¬ Ls y z) : ¬ Ls x z := by unfold Ls at *; omega
theorem mn_fold : ∀ (r : List Red.F4) (x : Red.F4), (r.foldl mnS x = x ∨ r.foldl mnS x ∈ r) ∧ ¬ Ls x (r.foldl mnS x) ∧ ∀ y ∈ r, ¬ Ls y (r.foldl mnS x)
  | [], x => ⟨.inl rfl, Ls.irrefl x, by simp⟩
  | z :: r, x => by
    obtain ⟨h1, h2, h3⟩ := mn_fold r (mnS x z)
    have hz : (mnS x z = x ∧ ¬ Ls z x) ∨ (mnS x z = z ∧ Ls z x) := by
      unfold mnS
      by_cases h : cm4 z x < 0
      · rw [if_pos h]; exact .inr ⟨rfl, (cm4_iff _ _).1 h⟩
      · rw [if_neg h]; exact .inl ⟨rfl, fun k => h ((cm4_iff _ _).2 k)⟩
    simp only [List.foldl_cons]
    rcases hz with ⟨e, hz⟩ | ⟨e, hz⟩
    · rw [e] at h1 h2 h3 ⊢
      refine ⟨h1.imp id (List.mem_cons_of_mem _), h2, fun y hy => ?_⟩
      rcases List.mem_cons.1 hy with rfl | hy
      · exact Ls.ntrans hz h2
      · exact h3 y hy
    · rw [e] at h1 h2 h3 ⊢
      refine ⟨.inr ?_, fun k => h2 (hz.trans k), fun y hy => ?_⟩
      · rcases h1 with h1 | h1
        · rw [h1]; simp
        · exact List.mem_cons_of_mem _ h1
      · rcases List.mem_cons.1 hy with rfl | hy
        · exact h2
        · exact h3 y hy
theorem mn_mem {l : List Red.F4} (h : l ≠ []) : mn l ∈ l ∧ ∀ y ∈ l, ¬ Ls y (mn l) := by
  cases l with
  | nil => exact absurd rfl h
  | cons x r =>
    obtain ⟨h1, h2, h3⟩ := mn_fold r x
    refine ⟨?_, fun y hy => ?_⟩
    · rcases h1 with h1 | h1
      · show r.foldl mnS x ∈ _
        rw [h1]; simp
      · exact List.mem_cons_of_mem _ h1
    · rcases List.mem_cons.1 hy with rfl | hy
      · exact h2
      · exact h3 y hy
/-- The least is one. -/
theorem mn_eq {l : List Red.F4} (h : l ≠ []) {x : Red.F4} (hx : x ∈ l) (hl : ∀ y ∈ l, ¬ Ls y x) : mn l = x := by
  obtain ⟨h1, h2⟩ := mn_mem h
  exact Ls.total (hl _ h1) (h2 x hx)
theorem mn_set {l l' : List Red.F4} (h : l ≠ []) (hs : ∀ x, x ∈ l ↔ x ∈ l') : mn l = mn l' := by
  have h' : l' ≠ [] := by
    intro e
    obtain ⟨h1, _⟩ := mn_mem h
    rw [hs, e] at h1; cases h1
  obtain ⟨h1, h2⟩ := mn_mem h'
  exact mn_eq h ((hs _).2 h1) (fun y hy => h2 y ((hs y).1 hy))
theorem addG_get : ∀ (G : List (Red.F4 × List Red.F4)) (k m : Red.F4), ∀ p ∈ addG G k m, p.1 ≠ k → p ∈ G
  | [], k, m, p, hp, hne => by simp [addG] at hp; subst hp; exact absurd rfl hne
  | (k', l) :: r, k, m, p, hp, hne => by
    unfold addG at hp
    split at hp
    · rename_i e; subst e
      rcases List.mem_cons.1 hp with rfl | hp
      · exact absurd rfl hne
      · exact List.mem_cons_of_mem _ hp
    · rcases List.mem_cons.1 hp with rfl | hp
      · simp
      · exact List.mem_cons_of_mem _ (addG_get r k m p hp hne)
theorem addG_len : ∀ (G : List (Red.F4 × List Red.F4)) (k m : Red.F4), (addG G k m).length ≤ G.length + 1
  | [], _, _ => by simp [addG]
  | (k', l) :: r, k, m => by
    unfold addG
    split
    · simp
    · have := addG_len r k m; simp; omega
/-- The keys are the reduced forms; the ways to one are told in the units' order. -/
theorem grp_keys (s : Bool) (T M : Red.F4) (us : List Red.F4) (q : Red.F4) : q ∈ (grp s T M us).map (·.1) ↔ ∃ u ∈ us, Red.rdF s (ch T u) = true ∧ ch T u = q := by
  have : ∀ vs : List Red.F4, q ∈ (grp s T M vs.reverse).map (·.1) ↔ ∃ u ∈ vs, Red.rdF s (ch T u) = true ∧ ch T u = q := by
    intro vs
    induction vs with
    | nil => simp [grp]
    | cons u vs ih =>
      rw [List.reverse_cons, grp_snoc]
      unfold oneG
      split
      · rename_i h
        rw [addG_keys, ih]
        constructor
        · rintro (⟨v, h1, h2⟩ | rfl)
          · exact ⟨v, by simp [h1], h2⟩
          · exact ⟨u, by simp, h, rfl⟩
        · rintro ⟨v, h1, h2, h3⟩
          rcases List.mem_cons.1 h1 with rfl | h1
          · exact .inr h3.symm
          · exact .inl ⟨v, h1, h2, h3⟩
      · rename_i h
        rw [ih]
        constructor
        · rintro ⟨v, h1, h2⟩; exact ⟨v, by simp [h1], h2⟩
        · rintro ⟨v, h1, h2, h3⟩
          rcases List.mem_cons.1 h1 with rfl | h1
          · exact absurd h2 h
          · exact ⟨v, h1, h2, h3⟩
  have h := this us.reverse
  rw [List.reverse_reverse] at h
  rw [h]
  constructor
  · rintro ⟨u, h1, h2⟩; exact ⟨u, by simpa using h1, h2⟩
  · rintro ⟨u, h1, h2⟩; exact ⟨u, by simpa using h1, h2⟩
theorem grp_num (s : Bool) (T M : Red.F4) (us : List Red.F4) : (grp s T M us).length ≤ us.length := by
  have : ∀ vs : List Red.F4, (grp s T M vs.reverse).length ≤ vs.length := by
    intro vs
    induction vs with
    | nil => simp [grp]
    | cons u vs ih =>
      rw [List.reverse_cons, grp_snoc]
      unfold oneG
      split
      · have := addG_len (grp s T M vs.reverse) (ch T u) (mm M u); simp; omega
      · simp; omega
  have h := this us.reverse
  rwa [List.reverse_reverse, List.length_reverse] at h
/-- The ways to q, in the units' order. -/
def wys (T M : Red.F4) (us : List Red.F4) (q : Red.F4) : List Red.F4 := (us.filter fun u => decide (ch T u = q)).map (mm M)
theorem grp_get (s : Bool) (T M : Red.F4) (us : List Red.F4) : ∀ p ∈ grp s T M us, Red.rdF s p.1 = true ∧ p.2 = wys T M us p.1 := by
  have kn : ∀ vs : List Red.F4, ((grp s T M vs).map (·.1)).Nodup := by
    intro vs
    have key : ∀ (G : List (Red.F4 × List Red.F4)) (k m : Red.F4), (G.map (·.1)).Nodup → ((addG G k m).map (·.1)).Nodup := by
      intro G k m
      induction G with
      | nil => intro _; simp [addG]
      | cons p r ih =>
        obtain ⟨k', l⟩ := p
        intro h
        simp only [List.map_cons, List.nodup_cons] at h
        unfold addG
        split
        · simpa using h
        · rename_i hne
          simp only [List.map_cons, List.nodup_cons]
          refine ⟨fun hm => ?_, ih h.2⟩
          rcases (addG_keys r k m k').1 hm with hm | hm
          · exact h.1 hm
          · exact hne hm.symm
    have : ∀ ws : List Red.F4, ((grp s T M ws.reverse).map (·.1)).Nodup := by
      intro ws
      induction ws with
      | nil => simp [grp]
      | cons u ws ih =>
        rw [List.reverse_cons, grp_snoc]
        unfold oneG
        split
        · exact key _ _ _ ih
        · exact ih
    have h := this vs.reverse
    rwa [List.reverse_reverse] at h
  have : ∀ vs : List Red.F4, ∀ p ∈ grp s T M vs.reverse, Red.rdF s p.1 = true ∧ p.2 = wys T M vs.reverse p.1 := by
    intro vs
    induction vs with
    | nil => intro p hp; simp [grp] at hp
    | cons u vs ih =>
      intro p hp
      rw [List.reverse_cons, grp_snoc] at hp
      rw [List.reverse_cons]
      have hw : wys T M (vs.reverse ++ [u]) p.1 = wys T M vs.reverse p.1 ++ (if ch T u = p.1 then [mm M u] else []) := by
        unfold wys
        rw [List.filter_append, List.map_append]
        congr 1
        by_cases h : ch T u = p.1
        · simp [h]
        · simp [h]
      unfold oneG at hp
      split at hp
      · rename_i hr
        by_cases e : p.1 = ch T u
        · -- the one that was added to
          rw [hw, if_pos e.symm]
          by_cases hk : ∃ l, (ch T u, l) ∈ grp s T M vs.reverse
          · obtain ⟨l, hl⟩ := hk
            obtain ⟨i, hi⟩ := List.mem_iff_getElem?.1 hl
            rw [addG_old (kn _) hi] at hp
            obtain ⟨j, hj⟩ := List.mem_iff_getElem?.1 hp
            have hil := (List.getElem?_eq_some_iff.1 hi).1
            by_cases eij : j = i
            · subst eij
              rw [List.getElem?_set_self hil] at hj
              simp at hj; subst hj
              refine ⟨hr, ?_⟩
              have := (ih _ hl).2
              dsimp only at this ⊢
              rw [this]
            · rw [List.getElem?_set_ne (fun h => eij h.symm)] at hj
              have h1 : ((grp s T M vs.reverse).map (·.1))[j]? = some (ch T u) := by rw [List.getElem?_map, hj]; simp [e]
              have h2 : ((grp s T M vs.reverse).map (·.1))[i]? = some (ch T u) := by rw [List.getElem?_map, hi]; rfl
              have hjl := (List.getElem?_eq_some_iff.1 h1).1
              exact absurd ((List.getElem?_inj hjl (kn _)).1 (h1.trans h2.symm)) eij
          · have hno : ∀ q ∈ (grp s T M vs.reverse).map (·.1), q ≠ ch T u := fun q hq e2 => by
              obtain ⟨p', hp', rfl⟩ := List.mem_map.1 hq
              exact hk ⟨p'.2, by rw [← e2]; exact hp'⟩
            rw [addG_new hno] at hp
            rcases List.mem_append.1 hp with h | h
            · exact absurd e (hno _ (List.mem_map.2 ⟨p, h, rfl⟩))
            · rw [List.mem_singleton] at h
              subst h
              refine ⟨hr, ?_⟩
              have hem : wys T M vs.reverse (ch T u) = [] := by
                unfold wys
                rw [List.map_eq_nil_iff, List.filter_eq_nil_iff]
                intro v hv hvq
                rw [decide_eq_true_eq] at hvq
                exact hno (ch T u) ((grp_keys s T M _ _).2 ⟨v, hv, by rw [hvq]; exact hr, hvq⟩) rfl
              dsimp only
              rw [hem]; rfl
        · have hp2 := addG_get _ _ _ p hp e
          obtain ⟨h1, h2⟩ := ih p hp2
          rw [hw, if_neg (fun h => e h.symm), List.append_nil]
          exact ⟨h1, h2⟩
      · rename_i hr
        obtain ⟨h1, h2⟩ := ih p hp
        rw [hw, if_neg (fun h => hr (by rw [h]; exact h1)), List.append_nil]
        exact ⟨h1, h2⟩
  have h := this us.reverse
  rwa [List.reverse_reverse] at h
/-- The normal form. -/
def nrm (s : Bool) (T : Red.F4) : Red.F4 := mn (((uni 81).filter fun u => Red.rdF s (ch T u)).map (ch T))
theorem nrm_has {s : Bool} {T : Red.F4} (hr : Red.rdF s T = true) : T ∈ ((uni 81).filter fun u => Red.rdF s (ch T u)).map (ch T) := by
  refine List.mem_map.2 ⟨(1, 0, 0, 1), ?_, ch_one T⟩
  rw [List.mem_filter, ch_one]
  exact ⟨uni_has (by unfold Sm; decide) (by decide), hr⟩
theorem nrm_grp {s : Bool} {T M : Red.F4} (hr : Red.rdF s T = true) : mn ((grp s T M (uni 81)).map (·.1)) = nrm s T := by
  unfold nrm
  refine (mn_set (by intro e; have := nrm_has hr; rw [e] at this; cases this) fun x => ?_).symm
  rw [grp_keys]
  simp only [List.mem_map, List.mem_filter]
  constructor
  · rintro ⟨u, ⟨h1, h2⟩, h3⟩; exact ⟨u, h1, h2, h3⟩
  · rintro ⟨u, h1, h2, h3⟩; exact ⟨u, ⟨h1, h2⟩, h3⟩
end Rd

end Go.Proofs.Ytipeeljapmiciaa

/- Chapter 2: slices.Collect over the keys of a map of forms. -/
namespace Go.Proofs.Ytipeeljapmiciaa
open Go.RowKit Go.Shelf
attribute [local go_sem] Oper.semAt_some

/-- A row of cells is no map and no walk. -/
theorem row_noWalk {W : World} {B : Nat} {e : TypeId} {m : Nat} {v : Value} {k : Nat} {xs : List Value} (h : W.ownsRow B e m v k xs) (j : Nat) (o : Obj) (hj : v.ownBlock = some j) (ho : W.heap[j]? = some o) : o.isWalk = false := by
  obtain ⟨_, ⟨hv, _⟩ | ⟨g, cap, cur, hv, _, hg, _⟩⟩ := h <;> subst hv
  · cases hj
  · cases hj
    rw [hg] at ho
    cases ho
    rfl
theorem info_fmK : (Try.prog.info? 23).map (fun i => (i.zero, i.size, i.bytes)) = some (some (.agg #[.int .i64 0, .int .i64 0, .int .i64 0, .int .i64 0]), 4, 32) := by kernel_rfl
set_option maxRecDepth 100000 in
set_option maxHeartbeats 4000000 in
theorem appendSeq_any (gf : Nat) (lb : Array Value) (S Sp : List Red.F4 → Prop) (N : Nat) (hN : N ≤ 1000) (w : World) (eg : ∀ args w, (callFunc gf args).run Try.prog w = .ok (.enter gf args) w)
    (hseq : SeqStopsK Fence.wide 2 Try.prog gf lb encK KeepsWalks S Sp N w) :
    Calls Try.prog 98 #[.slice none 0 0, .func (.func gf) #[] lb] w fun e w' => ∃ v xs, e = .returned v ∧ S xs ∧ w'.ownsRow w.heap.size 23 4 v xs.length (xs.flatMap hm4) ∧ Below w.heap.size w w' := by
  obtain ⟨i0, hi, hz0, hz1, hz2⟩ := info_parts info_fmK
  have HI := hid hi; have HZ0 := hid hz0; have HZ1 := hid hz1; have HZ2 := hid hz2
  clear hi hz0 hz1 hz2
  have U0 := gr_alloc (Below.refl w.heap.size w) (.cells #[.slice none 0 0] 29)
  have V0 := Boxed.new w 29 (.slice none 0 0)
  have hz : (w.alloc (.cells #[.slice none 0 0] 29)).heap.size = w.heap.size + 1 := by simp
  refine (callsIn_wide (n := 3)).1 ?_
  refine callsIn_of_wp_marks Try.func98 rfl trivial ?_ rfl
  simp only [Try.ntmps98, List.size_toArray, List.length_cons, List.length_nil, Nat.reduceAdd, Nat.reduceSub, Array.replicate_succ, Array.replicate_zero, List.push_toArray, List.append_toArray, List.nil_append, List.cons_append]
  gi_wp2_with fail
  generalize hW0 : w.alloc (.cells #[.slice none 0 0] 29) = W0 at U0 V0 hz ⊢
  have HW := hid hW0
  clear hW0
  refine wpIn_rangeFunc_ownH (n := 3) rfl (by omega) (gf := gf) (lb := lb) rfl trivial eg
      hseq (fun h k => KeepsWalks.trans h k) walksK_b U0 (fun _ => rfl)
      (fun pre W => (∃ v, Boxed W w.heap.size 29 v ∧ W.ownsRow (w.heap.size + 1) 23 4 v pre.length (pre.flatMap hm4) ∧ True) ∧ (Below w.heap.size w W ∧ w.heap.size + 1 ≤ W.heap.size))
      (fun _ _ _ => False)
      (OwnFrom.and (Own.from (holdsRow_own (w.heap.size + 1) w.heap.size 29 23 4 (fun pre => pre.length) (fun pre : List Red.F4 => pre.flatMap hm4) (fun _ _ => True)) _) (OwnFrom.and (ownFrom_below (Nat.le_refl _) (by omega)) (fun s A B row hs hg hr => Nat.le_trans hs hg.size)))
      (fun _ _ _ _ _ hs _ _ => hs)
      ⟨⟨_, V0, World.ownsRow_nil _ _ _ _, trivial⟩, U0, by omega⟩
      (fun x a' W => ∃ Bx, w.heap.size + 1 ≤ Bx ∧ Arr W Bx x.1 x.2.1 x.2.2.1 x.2.2.2 ∧ a' = { tmps := #[.slice none 0 0, .func (.func gf) #[] lb, .pointer (some ⟨w.heap.size, 0, none⟩), undef, .slice none 0 0, .pointer (some ⟨Bx, 0, none⟩), .func (.func gf) #[] lb, vF x, undef, undef, undef, undef, undef], defers := [] })
      (fun x a' s A B row hs hg hr => by obtain ⟨Bx, h1, h2, h3⟩ := hs; exact ⟨Bx, h1, h2.kept hg (fun r e => (hr r e).2), h3⟩) ?assign ?body ?done ?stop
  case assign =>
    rintro l pre x W K ⟨⟨v, hv, hrow, _⟩, hU, hrs⟩ hK
    dsimp only [encK]
    unfold vF at hK ⊢
    gi_wp2
    refine hK _ _ ((KeepsOthers.alloc W (.cells #[.int .i64 x.1, .int .i64 x.2.1, .int .i64 x.2.2.1, .int .i64 x.2.2.2] 23)).from _) (KeepsWalks.alloc _ _) ⟨⟨v, hv.alloc _, hrow.alloc _, trivial⟩, gr_alloc hU _, by simp; omega⟩ ⟨W.heap.size, hrs, Arr.new _ _ _ _ _ _, ?_⟩
    rfl
  case body =>
    rintro l pre x a' W _ _ ⟨⟨v, hv, hrow, _⟩, hU, hrs⟩ ⟨Bx, hBx, hA, rfl⟩ hlt
    have HA := hid hA
    obtain ⟨_, a0, a1, a2, a3, _⟩ := id hA
    have hUs := hU.size
    have hvl := hv.lt
    have hcv := hv.cell
    gi_wp2_with (gi_at_builtin; refine wpListIn_append_own _ rfl _ _ 29 rfl (w.heap.size + 1) 23 i0 (.agg #[.int .i64 0, .int .i64 0, .int .i64 0, .int .i64 0]) 4 32 Try.underlying29 HI.out HZ0.out HZ1.out HZ2.out rfl (by decide) _ _ _ rfl (hrow.alloc _) ⟨W.heap.size, 0, none⟩ 1 1 (hm4 x) rfl rfl ?a1 ?b1 ?c1 ?d1 ?e1 ?_)
    case a1 =>
      intro j u hj
      match j, hj with
      | 0, hj => simp [hm4] at hj; subst hj; simp [Addr.add, go_sem]
      | 1, hj => simp [hm4] at hj; subst hj; simp [Addr.add, go_sem]
      | 2, hj => simp [hm4] at hj; subst hj; simp [Addr.add, go_sem]
      | 3, hj => simp [hm4] at hj; subst hj; simp [Addr.add, go_sem]
    case b1 => intro u hu; simp [hm4] at hu; rcases hu with rfl | rfl | rfl | rfl <;> rfl
    case c1 => unfold maxLen; omega
    case d1 => omega
    case e1 => simp; omega
    intro v' w4 hown' hgrow _
    obtain ⟨g', cap', rfl⟩ := ownsRow_succ hown'
    have hkw : KeepsWalks W w4 := (KeepsWalks.alloc W _).trans (KeepsWalks.of_grownBy hgrow (row_noWalk (hrow.alloc _)))
    obtain ⟨hv4, hv5, _, hk5, hb5⟩ := hv.appended (by decide) (row_weak hrow (base' := w.heap.size) (by omega)) (by omega) (by omega) (row_weak hown' (by omega)) hgrow
    have hr5 := hown'.kept (grownBy_setCell' w4 w.heap.size (.slice (some ⟨g', 0, none⟩) (pre.length + 1) cap')) (.inr (hv4.not_row (by decide) hown').symm)
    have hc4 := hv4.cell
    have hf4 := hv4.frozen
    have HR5 := hid hr5; have HV5 := hid hv5; have HK5 := hid hk5; have HBW := hid hb5; have HKW := hid (hkw.trans (KeepsWalks.setCell w4 ⟨w.heap.size, 0, none⟩ (.slice (some ⟨g', 0, none⟩) (pre.length + 1) cap')))
    clear hr5 hv5 hk5 hb5 hown' hgrow a0 a1 a2 a3 hA hkw
    gi_wp2_with fail
    exact ⟨HK5.out.from _, HKW.out, ⟨⟨_, HV5.out, by simpa using HR5.out, trivial⟩, hU.trans HBW.out, Nat.le_trans (by omega) HBW.out.size⟩⟩
  case done =>
    rintro D ys W hD hS ⟨⟨v, hv, hrow, _⟩, hB, hrs⟩ hK
    have hcv := hv.cell
    have HKD := hid hK
    clear hK
    gi_wp2_with fail
    refine ⟨by simp, .inl ⟨_, _, rfl, run_takeDeferred HKD.out, ?_⟩⟩
    have hro := ownsRow_putObj hrow (.deferred none) HKD.out rfl
    exact ⟨_, results_tmp rfl _ _ _, _, _, rfl, hS, row_weak hro (by omega), hB.trans (belowK_b (w := w) (Nat.le_refl _) W D _ _ (by omega) HKD.out rfl rfl)⟩
  case stop =>
    rintro D c pre W _ _ h _
    exact h.elim
set_option maxHeartbeats 1000000 in
theorem collect_any (gf : Nat) (lb : Array Value) (S Sp : List Red.F4 → Prop) (N : Nat) (hN : N ≤ 1000) (w : World) (eg : ∀ args w, (callFunc gf args).run Try.prog w = .ok (.enter gf args) w)
    (hseq : SeqStopsK Fence.wide 2 Try.prog gf lb encK KeepsWalks S Sp N w) :
    Calls Try.prog 72 #[.func (.func gf) #[] lb] w fun e w' => ∃ v xs, e = .returned v ∧ S xs ∧ w'.ownsRow w.heap.size 23 4 v xs.length (xs.flatMap hm4) ∧ Below w.heap.size w w' := by
  have hC := appendSeq_any gf lb S Sp N hN w eg hseq
  go_enter Try.func72, Try.ntmps72
  go_wp2_with fail
  refine hC.mono ?_
  rintro e w1 ⟨v, xs, rfl, hS, hrow, hb⟩
  go_wp2
  go_ret
  exact ⟨_, _, rfl, hS, hrow, hb⟩

end Go.Proofs.Ytipeeljapmiciaa
