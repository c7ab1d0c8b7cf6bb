/- Ranging over the map of formWithValues: whichever order the entries come in, the sum is one. -/
import Derived.Test.YtipeeljapmiciaaBaMapF
import Derived.Test.YtipeeljapmiciaaBaC1m
import Derived.Maps.RangeRun
namespace Go.Proofs.Ytipeeljapmiciaa
open Go.RowKit

theorem range_run {w : World} {b : Nat} {es : Array MapEntry} {c : Nat} (hb : w.heap[b]? = some (.map es c)) :
    (Instr.range 140 (.map (some b))).run Try.prog w = .ok (.pointer (some ⟨w.heap.size, 0, none⟩)) (w.alloc (.mapIter (some b) c #[] c)) := by
  unfold Instr.range
  simp only [Sem.run_bind, run_underlying Try.underlying140, Result.andThen_ok, getM hb]
  rfl

def vals (a b c d : Int) : Nat → Int
  | 0 => a
  | 1 => b
  | 2 => c
  | _ => d
/-- The map literal's four entries, in some order, at stamps 0 to 3. -/
def ord (i j k l : Nat) : List (Nat × Nat) := [(i, 0), (j, 1), (k, 2), (l, 3)]
def isOrd (i j k l : Nat) : Bool := [i, j, k, l].isPerm [0, 1, 2, 3]

/-- x where stamp t has been seen. -/
def con (seen : Array Nat) (t : Nat) (x : Int) : Int := if seen.contains t then x else 0
/-- The sum of what has been seen, g the component. -/
def tot (V : Nat → Int) (g : Nat → Int) (i j k l : Nat) (seen : Array Nat) : Int := con seen 0 (V i * g i) + con seen 1 (V j * g j) + con seen 2 (V k * g k) + con seen 3 (V l * g l)
theorem con_push (seen : Array Nat) (t s : Nat) (x : Int) (h : seen.contains s = false) : con (seen.push s) t x = con seen t x + if t = s then x else 0 := by
  unfold con
  by_cases e : t = s
  · subst e; simp at h; simp [h]
  · have : (seen.push s).contains t = seen.contains t := by
      rw [Bool.eq_iff_iff]; simp [e]
    rw [this]; simp [e]
theorem tot_start (V g : Nat → Int) (i j k l : Nat) : tot V g i j k l #[] = 0 := by simp [tot, con]
theorem tot_step (V g : Nat → Int) {i j k l : Nat} {seen : Array Nat} {p : Nat × Nat} (hp : p ∈ ord i j k l) (h : seen.contains p.2 = false) :
    tot V g i j k l (seen.push p.2) = tot V g i j k l seen + V p.1 * g p.1 := by
  simp only [tot, con_push _ _ _ _ h]
  simp only [ord, List.mem_cons, List.not_mem_nil, or_false] at hp
  rcases hp with rfl | rfl | rfl | rfl <;> simp <;> omega
theorem tot_end (V g : Nat → Int) {i j k l : Nat} {seen : Array Nat} (hs : ∀ t, t < 4 → seen.contains t = true) (h : isOrd i j k l = true) :
    tot V g i j k l seen = V 0 * g 0 + V 1 * g 1 + V 2 * g 2 + V 3 * g 3 := by
  have hb : i < 4 ∧ j < 4 ∧ k < 4 ∧ l < 4 := by
    have hp := List.isPerm_iff.1 h
    have m : ∀ x ∈ [i, j, k, l], x < 4 := fun x hx => by have := hp.mem_iff.1 hx; simp at this; omega
    exact ⟨m i (by simp), m j (by simp), m k (by simp), m l (by simp)⟩
  simp only [tot, con, hs 0 (by omega), hs 1 (by omega), hs 2 (by omega), hs 3 (by omega), if_true]
  have hp := List.isPerm_iff.1 h
  have e : ∀ (a b c d : Nat), a < 4 → b < 4 → c < 4 → d < 4 → isOrd a b c d = true → V a * g a + V b * g b + V c * g c + V d * g d = V 0 * g 0 + V 1 * g 1 + V 2 * g 2 + V 3 * g 3 := by
    intro a b c d ha hb hc hd ho
    generalize hf : (fun n => V n * g n) = f
    have fe : ∀ n, V n * g n = f n := fun n => by rw [← hf]
    simp only [fe]
    clear fe hf
    rcases (show a = 0 ∨ a = 1 ∨ a = 2 ∨ a = 3 by omega) with rfl | rfl | rfl | rfl <;>
    rcases (show b = 0 ∨ b = 1 ∨ b = 2 ∨ b = 3 by omega) with rfl | rfl | rfl | rfl <;>
    rcases (show c = 0 ∨ c = 1 ∨ c = 2 ∨ c = 3 by omega) with rfl | rfl | rfl | rfl <;>
    rcases (show d = 0 ∨ d = 1 ∨ d = 2 ∨ d = 3 by omega) with rfl | rfl | rfl | rfl <;>
    first | omega | exact absurd ho (by decide)
  exact e i j k l hb.1 hb.2.1 hb.2.2.1 hb.2.2.2 h

theorem left_mem {V : Nat → Int} {L : List (Nat × Nat)} {seen : Array Nat} {e : MapEntry} (h : e ∈ (leftOf (mapOf V L) seen).toList) : ∃ p ∈ L, e = bent V p.1 p.2 ∧ seen.contains p.2 = false := by
  simp only [leftOf, mapOf, Array.toList_filter, List.mem_filter, List.mem_map] at h
  obtain ⟨⟨p, hp, rfl⟩, h2⟩ := h
  exact ⟨p, hp, rfl, by simpa [bent, ent] using h2⟩
theorem left_none {V : Nat → Int} {i j k l : Nat} {seen : Array Nat} (h : (leftOf (mapOf V (ord i j k l)) seen).size = 0) : ∀ t, t < 4 → seen.contains t = true := by
  intro t ht
  by_cases hc : seen.contains t = true
  · exact hc
  · have hm : ∀ p ∈ ord i j k l, p.2 = t → bent V p.1 p.2 ∈ (leftOf (mapOf V (ord i j k l)) seen).toList := by
      intro p hp e
      simp only [leftOf, mapOf, Array.toList_filter, List.mem_filter, List.mem_map]
      refine ⟨⟨p, hp, rfl⟩, ?_⟩
      simp only [bent, ent, e]; simpa using hc
    have : (leftOf (mapOf V (ord i j k l)) seen).toList = [] := by simpa using h
    rw [this] at hm
    rcases (show t = 0 ∨ t = 1 ∨ t = 2 ∨ t = 3 by omega) with rfl | rfl | rfl | rfl
    · exact absurd (hm (i, 0) (by simp [ord]) rfl) (by simp)
    · exact absurd (hm (j, 1) (by simp [ord]) rfl) (by simp)
    · exact absurd (hm (k, 2) (by simp [ord]) rfl) (by simp)
    · exact absurd (hm (l, 3) (by simp [ord]) rfl) (by simp)

open Go.ChangeMaps (setBlock)

/-- How many entries are still to come, read off the iterator. -/
def lefts (M : Array MapEntry) (wr : World) (r : Nat) : Nat := match wr.heap[r]? with
  | some (.mapIter _ _ seen _) => (leftOf M seen).size
  | _ => 0
theorem left_lt {M : Array MapEntry} {seen : Array Nat} {e : MapEntry} (he : e ∈ (leftOf M seen).toList) : (leftOf M (seen.push e.born)).size < (leftOf M seen).size := by
  have h1 : leftOf M (seen.push e.born) = (leftOf M seen).filter fun x => decide (x.born ≠ e.born) := by
    unfold leftOf
    rw [Array.filter_filter]
    congr 1
    funext x
    rw [Bool.eq_iff_iff]; simp; constructor
    · rintro ⟨a, b⟩; exact ⟨b, a⟩
    · rintro ⟨a, b⟩; exact ⟨b, a⟩
  have h2 : ∀ (L : Array MapEntry) (q : MapEntry → Bool), (L.filter q).size = (L.toList.filter q).length := fun L q => by
    rw [← Array.toList_filter, Array.length_toList]
  rw [h1, h2, ← Array.length_toList]
  exact List.length_filter_lt_length_iff_exists.2 ⟨e, he, by simp⟩
theorem below_setBlock {w : World} {b : Nat} {o : Obj} : Below b w (setBlock w b o) :=
  ⟨rfl, rfl, rfl, by simp [setBlock], fun k hk => by simp [setBlock, Array.getElem?_setIfInBounds]; omega⟩
theorem mapOf_born (V : Nat → Int) (i j k l : Nat) : ∀ x ∈ (mapOf V (ord i j k l)).toList, x.born < 4 := by
  intro x hx
  simp [mapOf, ord, bent, ent] at hx
  rcases hx with rfl | rfl | rfl | rfl <;> simp
theorem mapOf_nodup (V : Nat → Int) (i j k l : Nat) : ((mapOf V (ord i j k l)).toList.map (·.born)).Nodup := by
  simp [mapOf, ord, bent, ent]
theorem con_bd {seen : Array Nat} {t : Nat} {x B : Int} (h : -B ≤ x ∧ x ≤ B) (hB : 0 ≤ B) : -B ≤ con seen t x ∧ con seen t x ≤ B := by
  unfold con; split <;> omega
theorem tot_bd {V g : Nat → Int} {i j k l : Nat} {seen : Array Nat} (h : ∀ n, -200000000000000 ≤ V n * g n ∧ V n * g n ≤ 200000000000000) : -800000000000000 ≤ tot V g i j k l seen ∧ tot V g i j k l seen ≤ 800000000000000 := by
  have a := con_bd (seen := seen) (t := 0) (h i) (by omega)
  have b := con_bd (seen := seen) (t := 1) (h j) (by omega)
  have c := con_bd (seen := seen) (t := 2) (h k) (by omega)
  have d := con_bd (seen := seen) (t := 3) (h l) (by omega)
  unfold tot; omega
theorem am_tot {V g : Nat → Int} {i j k l : Nat} {seen : Array Nat} {p : Nat × Nat} (hb : ∀ n, -200000000000000 ≤ V n * g n ∧ V n * g n ≤ 200000000000000) (hp : p ∈ ord i j k l) (h : seen.contains p.2 = false) :
    am (tot V g i j k l seen) (V p.1) (g p.1) = tot V g i j k l (seen.push p.2) := by
  rw [tot_step V g hp h]
  have h1 := hb p.1
  have h2 := tot_bd (i := i) (j := j) (k := k) (l := l) (seen := seen) hb
  unfold am pl mu
  rw [IntWalk.wrap64_in (V p.1 * g p.1) (by omega), IntWalk.wrap64_in _ (by omega)]
theorem comp_bd {a b c d : Int} (ha : -100000000000000 ≤ a ∧ a ≤ 100000000000000) (hb : -100000000000000 ≤ b ∧ b ≤ 100000000000000) (hc : -100000000000000 ≤ c ∧ c ≤ 100000000000000) (hd : -100000000000000 ≤ d ∧ d ≤ 100000000000000) :
    (∀ n, -200000000000000 ≤ vals a b c d n * (bk n).1 ∧ vals a b c d n * (bk n).1 ≤ 200000000000000) ∧ (∀ n, -200000000000000 ≤ vals a b c d n * (bk n).2.1 ∧ vals a b c d n * (bk n).2.1 ≤ 200000000000000) ∧
    (∀ n, -200000000000000 ≤ vals a b c d n * (bk n).2.2.1 ∧ vals a b c d n * (bk n).2.2.1 ≤ 200000000000000) ∧ (∀ n, -200000000000000 ≤ vals a b c d n * (bk n).2.2.2 ∧ vals a b c d n * (bk n).2.2.2 ≤ 200000000000000) := by
  refine ⟨?_, ?_, ?_, ?_⟩ <;> intro n <;> (match n with
    | 0 => simp only [vals, bk]; omega
    | 1 => simp only [vals, bk]; omega
    | 2 => simp only [vals, bk]; omega
    | n + 3 => simp only [vals, bk]; omega)

end Go.Proofs.Ytipeeljapmiciaa
