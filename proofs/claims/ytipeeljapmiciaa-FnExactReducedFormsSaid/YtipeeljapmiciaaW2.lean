/- Several texts in one: XSo4, XSp1. -/
import Derived.Test.YtipeeljapmiciaaW1
import Derived.Test.YtipeeljapmiciaaBaPg
import Derived.Test.YtipeeljapmiciaaBaZ13
import Derived.Test.YtipeeljapmiciaaBaQa

/- slices.SortFunc and slices.SortedFunc at the program's forms. -/
namespace Go.Proofs.Ytipeeljapmiciaa
open Go.RowKit Go.Lib Go.Sort

theorem asc_of {d : Array Red.F4} (h : SortedIn (ltOf Rd.cm4) 0 d.size d) : Rd.Asc d.toList := by
  unfold Rd.Asc
  rw [List.pairwise_iff_getElem]
  intro i j hi hj hij
  rw [Array.length_toList] at hi hj
  have h1 := h i j (Nat.zero_le _) hij hj
  rw [getElem!_pos d j hj, getElem!_pos d i hi] at h1
  simp only [ltOf, decide_eq_false_iff_not, Rd.cm4_iff] at h1
  simpa using h1
set_option maxHeartbeats 1000000 in
theorem sortF_any {w : World} {B g cap : Nat} {L : List Red.F4} (h : RowFm B w (.slice (some ⟨g, 0, none⟩) L.length cap) L) (hl : L.length ≤ 1000) :
    Calls Try.prog 78 #[.slice (some ⟨g, 0, none⟩) L.length cap, .func (.func 50) #[] #[]] w fun e w' =>
      e = .returned (.tuple #[]) ∧ ∃ ys : List Red.F4, ys.Perm L ∧ Rd.Asc ys ∧ RowFm B w' (.slice (some ⟨g, 0, none⟩) L.length cap) ys ∧ Below B w w' := by
  obtain ⟨hH, hlt, hB, hml, hout⟩ := srt_world h
  have eg : ∀ args w, (callFunc 50 args).run Try.prog w = .ok (.enter 50 args) w := enters_of Try.func50 (by kernel_rfl) rfl
  have hcon := AnyQ.slices_SortFunc Try.sortForms 4 Try.isAgg23 Try.sizeOf23 hm4 (fun _ => rfl) (fun x v hv => by simp [hm4] at hv; rcases hv with rfl | rfl | rfl | rfl <;> rfl) Rd.cm4 Rd.swo4 50 #[] g 0 cap L.toArray w eg (cmpLaysF g 0 L.toArray.size w) hH hlt (by simp; omega)
  refine Calls.mono hcon ?_
  rintro e w' ⟨rfl, d, n, os, hp, hs, rfl⟩
  have hd : d.size = L.length := by have := hp.1; simpa using this
  obtain ⟨hr, hb⟩ := hout d n os hd
  have hs' : SortedIn (ltOf Rd.cm4) 0 d.size d := by rw [hd]; simpa using hs
  refine ⟨rfl, d.toList, ?_, asc_of hs', ?_, hb⟩
  · have := hp.2.2
    rw [show L.toArray.size = d.size by rw [hd]; simp] at this
    have h2 : d.toList.length = L.length := by rw [Array.length_toList, hd]
    simp only [Array.toList_extract, List.extract_eq_take_drop, List.drop_zero, Nat.sub_zero, hd] at this
    rwa [List.take_of_length_le (by omega), List.take_of_length_le (Nat.le_refl _)] at this
  · have h2 : d.toList.length = L.length := by rw [Array.length_toList, hd]
    unfold RowFm
    rw [h2]
    exact hr

end Go.Proofs.Ytipeeljapmiciaa

/- Chapter 2: the reduced forms: what the program's sorted keys are. -/
namespace Go.Proofs.Ytipeeljapmiciaa
open Go.RowKit

/-- The reduced forms of the class, in order. -/
noncomputable def frms (a b c d : Int) : List Red.F4 := Classical.epsilon (Rd.Got (decide (0 < dsc a b c d)) (cls a b c d).1 (Rd.uni 81))
theorem got_frms {a b c d : Int} {xs : List Red.F4} (h : Rd.Got (decide (0 < dsc a b c d)) (cls a b c d).1 (Rd.uni 81) xs) : xs = frms a b c d := by
  have h2 : Rd.Got (decide (0 < dsc a b c d)) (cls a b c d).1 (Rd.uni 81) (frms a b c d) := Classical.epsilon_spec (p := Rd.Got (decide (0 < dsc a b c d)) (cls a b c d).1 (Rd.uni 81)) ⟨xs, h⟩
  exact Rd.Srt.eq h.1 h2.1 fun q => (h.2 q).trans (h2.2 q).symm
/-- All of a list's forms lie within the limit. -/
def alF (L : List Red.F4) : Bool := L.all fun q => isF q.1 q.2.1 q.2.2.1 q.2.2.2
noncomputable def rfc (a b c d : Int) : Int := if rcd a b c d = 0 then (if alF (frms a b c d) then 0 else 3) else rcd a b c d
def RfOut (a b c d : Int) (w : World) (e : Ending) (w' : World) : Prop := FlsOut (rfc a b c d) (frms a b c d).length (fun i => ((frms a b c d).flatMap gm4).getD i 0) w e w' ∧ (if rfc a b c d = 0 then (frms a b c d).length else 0) ≤ 1000
theorem RowFm.out {B : Nat} {w : World} {v : Value} {L : List Red.F4} (h : RowFm B w v L) : OwnX B w v L.length (fun i => (L.flatMap gm4).getD i 0) := by
  rcases h.2 with ⟨rfl, hn⟩ | ⟨g, cap, cur, rfl, hb, hg, hnc, hcm, hs, ht⟩
  · exact .inl ⟨rfl, hn⟩
  · refine .inr ⟨g, cap, rfl, hb, hnc, hcm, (Array.getElem?_eq_some_iff.1 hg).1, fun i hi => ⟨?_, by simp [World.frozen?, hg]⟩⟩
    have hl := gm4_len L
    have hx : (L.flatMap hm4)[i]? = some (.int .i64 ((L.flatMap gm4).getD i 0)) := by
      have hlt : i < (L.flatMap gm4).length := by omega
      rw [hm4_map, List.getElem?_map, List.getElem?_eq_getElem hlt]
      simp only [Option.map_some, List.getD, List.getElem?_eq_getElem hlt, Option.getD_some]
    rw [← ht, List.getElem?_take] at hx
    split at hx
    · simp [World.cell?, hg]
      simpa using hx
    · cases hx
theorem Rd.Asc.srt {L : List Red.F4} (h : Rd.Asc L) (hn : L.Nodup) : Rd.Srt L := by
  unfold Rd.Asc at h
  unfold Rd.Srt
  refine List.Pairwise.imp ?_ (List.Pairwise.and h hn)
  intro x y ⟨h1, h2⟩
  by_cases h3 : Rd.Ls x y
  · exact h3
  · exact (h2 (Rd.Ls.total h3 h1)).elim
set_option maxHeartbeats 1000000 in
theorem sortedF_any (gf : Nat) (lb : Array Value) (S Sp : List Red.F4 → Prop) (N : Nat) (hN : N ≤ 1000) (w : World) (eg : ∀ args w, (callFunc gf args).run Try.prog w = .ok (.enter gf args) w)
    (hseq : SeqStopsK Fence.wide 2 Try.prog gf lb encK KeepsWalks S Sp N w) (hS : ∀ xs, S xs → xs ≠ [] ∧ xs.length ≤ 1000) :
    Calls Try.prog 47 #[.func (.func gf) #[] lb, .func (.func 50) #[] #[]] w fun e w' =>
      ∃ g n cap xs ys, e = .returned (.slice (some ⟨g, 0, none⟩) n cap) ∧ S xs ∧ ys.Perm xs ∧ Rd.Asc ys ∧ RowFm w.heap.size w' (.slice (some ⟨g, 0, none⟩) n cap) ys ∧ Below w.heap.size w w' := by
  have hC := collect_any gf lb S Sp N hN w eg hseq
  go_enter Try.func47, Try.ntmps47
  go_wp2_with fail
  refine hC.mono ?_
  rintro e w1 ⟨v, xs, rfl, hx, hrow, hb⟩
  obtain ⟨h1, h2⟩ := hS xs hx
  obtain ⟨g, cap, rfl⟩ : ∃ g cap, v = .slice (some ⟨g, 0, none⟩) xs.length cap := by
    rcases hrow.2 with ⟨_, h0⟩ | ⟨g, cap, cur, hv, _⟩
    · exact (h1 (List.eq_nil_of_length_eq_zero h0)).elim
    · exact ⟨g, cap, hv⟩
  have hst := hid (sortF_any (B := w.heap.size) hrow h2)
  clear hC hrow
  go_wp2_with fail
  refine hst.out.mono ?_
  rintro e w2 ⟨rfl, ys, hp, ha, hr, hb2⟩
  go_wp2
  go_ret
  exact ⟨_, _, _, _, ys, rfl, hx, hp, ha, hr, hb.trans hb2⟩
theorem iWy_any (a b c d : Int) (h : rcd a b c d = 0) (w : World) :
    Calls Try.prog 49 #[.agg #[.int .i64 a, .int .i64 b, .int .i64 c, .int .i64 d]] w fun e w' => ∃ bm L B, e = .returned (.map (some bm)) ∧ Mp w' bm L ∧ Wys B w' (Rd.grp (decide (0 < dsc a b c d)) (cls a b c d).1 (cls a b c d).2.1 (Rd.uni 81)) L ∧ w.heap.size ≤ B ∧ w.heap.size ≤ bm ∧ Below w.heap.size w w' := by
  obtain ⟨h1, h2, h3, h4, h5, h6, h7, h8⟩ := cls_spec h
  refine iWays_any a b c d (decide (0 < dsc a b c d)) (cls a b c d).1 (cls a b c d).2.1 h4 h5 ?_ h7 w
  unfold sg
  (repeat' split) <;> simp <;> omega

end Go.Proofs.Ytipeeljapmiciaa
