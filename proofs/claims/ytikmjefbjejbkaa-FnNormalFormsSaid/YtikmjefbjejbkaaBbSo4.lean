/- slices.SortFunc and slices.SortedFunc at the program's forms. -/
import Derived.Test.YtikmjefbjejbkaaBbSo3
import Derived.Test.YtikmjefbjejbkaaBbZ23
import Derived.Test.YtikmjefbjejbkaaBbZ21
namespace Go.Proofs.Ytikmjefbjejbkaa
open Go.RowKit Go.Lib Go.Sort

theorem asc_of {d : Array Red.F4} (h : SortedIn (ltOf Rd.cm4) 0 d.size d) : Rd.Asc d.toList := by
  unfold Rd.Asc
  rw [List.pairwise_iff_getElem]
  intro i j hi hj hij
  rw [Array.length_toList] at hi hj
  have h1 := h i j (Nat.zero_le _) hij hj
  rw [getElem!_pos d j hj, getElem!_pos d i hi] at h1
  simp only [ltOf, decide_eq_false_iff_not, Rd.cm4_iff] at h1
  simpa using h1
set_option maxHeartbeats 1000000 in
theorem sortF_any {w : World} {B g cap : Nat} {L : List Red.F4} (h : RowFm B w (.slice (some ⟨g, 0, none⟩) L.length cap) L) (hl : L.length ≤ 1000) :
    Calls Try.prog 112 #[.slice (some ⟨g, 0, none⟩) L.length cap, .func (.func 68) #[] #[]] w fun e w' =>
      e = .returned (.tuple #[]) ∧ ∃ ys : List Red.F4, ys.Perm L ∧ Rd.Asc ys ∧ RowFm B w' (.slice (some ⟨g, 0, none⟩) L.length cap) ys ∧ Below B w w' := by
  obtain ⟨hH, hlt, hB, hml, hout⟩ := srt_world h
  have eg : ∀ args w, (callFunc 68 args).run Try.prog w = .ok (.enter 68 args) w := enters_of Try.func68 (by kernel_rfl) rfl
  have hcon := AnyQ.slices_SortFunc Try.sortForms 4 Try.isAgg26 Try.sizeOf26 hm4 (fun _ => rfl) (fun x v hv => by simp [hm4] at hv; rcases hv with rfl | rfl | rfl | rfl <;> rfl) Rd.cm4 Rd.swo4 68 #[] g 0 cap L.toArray w eg (cmpLaysF g 0 L.toArray.size w) hH hlt (by simp; omega)
  refine Calls.mono hcon ?_
  rintro e w' ⟨rfl, d, n, os, hp, hs, rfl⟩
  have hd : d.size = L.length := by have := hp.1; simpa using this
  obtain ⟨hr, hb⟩ := hout d n os hd
  have hs' : SortedIn (ltOf Rd.cm4) 0 d.size d := by rw [hd]; simpa using hs
  refine ⟨rfl, d.toList, ?_, asc_of hs', ?_, hb⟩
  · have := hp.2.2
    rw [show L.toArray.size = d.size by rw [hd]; simp] at this
    have h2 : d.toList.length = L.length := by rw [Array.length_toList, hd]
    simp only [Array.toList_extract, List.extract_eq_take_drop, List.drop_zero, Nat.sub_zero, hd] at this
    rwa [List.take_of_length_le (by omega), List.take_of_length_le (Nat.le_refl _)] at this
  · have h2 : d.toList.length = L.length := by rw [Array.length_toList, hd]
    unfold RowFm
    rw [h2]
    exact hr

end Go.Proofs.Ytikmjefbjejbkaa
