/- Several texts in one: XMapF, XC1m, XMapG. -/
import Derived.Test.YtikmjefbjejbkaaBbZ6
import Derived.Test.YtikmjefbjejbkaaBbZ5
import Derived.Maps.RangeRun

/- The map of formWithValues: four keys, laid in whichever order. -/
namespace Go.Proofs.Ytikmjefbjejbkaa
open Go.RowKit

theorem checkForm_run (e : Bool) (a b c d : Int) (w : World) : (Instr.checkKey e 10000 26 (.agg #[.int .i64 a, .int .i64 b, .int .i64 c, .int .i64 d])).run Try.prog w = .ok () w := by
  have ia := Try.isAgg2
  have z := Try.sizeOf2
  have ck := fun x w => checkInt_run e 9998 x w
  rw [show (10000 : Nat) = 9999 + 1 from rfl, Instr.checkKey]
  simp only [Sem.run_bind, run_underlying Try.underlying26, Result.andThen_ok]
  simp only [Std.Legacy.Range.forIn_eq_forIn_range', Std.Legacy.Range.size, Nat.sub_zero, Nat.add_sub_cancel, Nat.div_one, List.range'_succ, List.range'_zero, List.forIn_cons, List.forIn_nil]
  go_simp

/-- The four keys, the entry at key i. -/
def bk : Nat → Int × Int × Int × Int
  | 0 => (2, 0, -2, 0)
  | 1 => (0, -2, 0, 2)
  | 2 => (0, 1, 1, 0)
  | _ => (0, -1, 1, 0)
def bent (V : Nat → Int) (i t : Nat) : MapEntry := ent (bk i).1 (bk i).2.1 (bk i).2.2.1 (bk i).2.2.2 (V i) t
/-- The entries, in the order in which they were laid: key and stamp. -/
def mapOf (V : Nat → Int) (l : List (Nat × Nat)) : Array MapEntry := (l.map fun p => bent V p.1 p.2).toArray
def fresh (i : Nat) (l : List (Nat × Nat)) : Bool := l.all fun p => decide (p.1 < 4) && decide (p.1 ≠ i)

theorem bk_ne {i j : Nat} (hi : i < 4) (hj : j < 4) (h : j ≠ i) : ((bk i).1 == (bk j).1 && (bk i).2.1 == (bk j).2.1 && (bk i).2.2.1 == (bk j).2.2.1 && (bk i).2.2.2 == (bk j).2.2.2) = false := by
  rcases (show i = 0 ∨ i = 1 ∨ i = 2 ∨ i = 3 by omega) with rfl | rfl | rfl | rfl <;>
  rcases (show j = 0 ∨ j = 1 ∨ j = 2 ∨ j = 3 by omega) with rfl | rfl | rfl | rfl <;>
  first | rfl | exact absurd rfl h

theorem ask_none {V : Nat → Int} {i : Nat} (hi : i < 4) (w : World) : ∀ (l : List (Nat × Nat)) (n : Nat), fresh i l = true →
    (Instr.findAsking 26 (.agg #[.int .i64 ((bk i).1), .int .i64 ((bk i).2.1), .int .i64 ((bk i).2.2.1), .int .i64 ((bk i).2.2.2)]) (l.map fun p => bent V p.1 p.2) n).run Try.prog w = .ok none w
  | [], _, _ => rfl
  | p :: l, n, h => by
    simp only [fresh, List.all_cons, Bool.and_eq_true, decide_eq_true_eq] at h
    simp only [List.map_cons, Instr.findAsking, Op.equal, Op.maxDepth, bent, ent, Sem.run_bind, eqForm_run, Result.andThen_ok, bk_ne hi h.1.1 h.1.2]
    exact ask_none hi w l (n + 1) h.2
theorem find_none {V : Nat → Int} {i : Nat} (hi : i < 4) (w : World) (l : List (Nat × Nat)) (h : fresh i l = true) :
    (Instr.findKey 26 (.agg #[.int .i64 ((bk i).1), .int .i64 ((bk i).2.1), .int .i64 ((bk i).2.2.1), .int .i64 ((bk i).2.2.2)]) (mapOf V l).toList).run Try.prog w = .ok none w := by
  unfold Instr.findKey mapOf
  simp only [Sem.run_bind, run_underlying Try.underlying26, Result.andThen_ok]
  cases l with
  | nil => rfl
  | cons p l =>
    simp only [List.map_cons, Instr.findNow, Instr.sameNow]
    exact ask_none hi w (p :: l) 0 h

theorem putF_run {w : World} {b : Nat} {es : Array MapEntry} {clock : Nat} {a p q r v : Int} (hb : w.heap[b]? = some (.map es clock)) (hf : (Instr.findKey 26 (.agg #[.int .i64 a, .int .i64 p, .int .i64 q, .int .i64 r]) es.toList).run Try.prog w = .ok none w) :
    (Instr.mapUpdate 153 (.map (some b)) (.agg #[.int .i64 a, .int .i64 p, .int .i64 q, .int .i64 r]) (.int .i64 v)).run Try.prog w = .ok () { w with heap := w.heap.setIfInBounds b (.map (es.push (ent a p q r v clock)) (clock + 1)) } := by
  unfold Instr.mapUpdate
  simp only [Sem.run_bind, run_underlying Try.underlying153, Result.andThen_ok, getM hb, checkForm_run, hf, setM _ hb, ent]

theorem new_map (W : World) (es : Array MapEntry) (c : Nat) : (W.alloc (.map es c)).drew.heap[W.heap.size]? = some (.map es c) := heap_alloc_new W _
theorem push_mapOf (V : Nat → Int) (l : List (Nat × Nat)) (i n : Nat) : (mapOf V l).push (bent V i n) = mapOf V (l ++ [(i, n)]) := by
  simp [mapOf]
theorem layF (V : Nat → Int) (W : World) (l : List (Nat × Nat)) (n i : Nat) (hi : i < 4) (h : fresh i l = true) :
    (Instr.mapUpdate 153 (.map (some W.heap.size)) (.agg #[.int .i64 ((bk i).1), .int .i64 ((bk i).2.1), .int .i64 ((bk i).2.2.1), .int .i64 ((bk i).2.2.2)]) (.int .i64 (V i))).run Try.prog (W.alloc (.map (mapOf V l) n)).drew = .ok () (W.alloc (.map (mapOf V (l ++ [(i, n)])) (n + 1))).drew := by
  rw [putF_run (new_map W _ _) (find_none hi _ l h)]
  refine congrArg (fun x => Result.ok () (World.drew x)) ((set_alloc W _ _).trans ?_)
  rw [← push_mapOf]; rfl

end Go.Proofs.Ytikmjefbjejbkaa

/- Chapter 1: sums of forms. -/
namespace Go.Proofs.Ytikmjefbjejbkaa
open Go.RowKit

/-- One number of a sum. -/
def am (x k y : Int) : Int := pl x (mu k y)

set_option maxRecDepth 100000 in
set_option maxHeartbeats 1000000 in
theorem iAddM_any (a b c d p q r s k : Int) (w : World) :
    Calls Try.prog 149 #[.agg #[.int .i64 a, .int .i64 b, .int .i64 c, .int .i64 d], .agg #[.int .i64 p, .int .i64 q, .int .i64 r, .int .i64 s], .int .i64 k] w fun e w' => e = .returned (.agg #[.int .i64 (am a k p), .int .i64 (am b k q), .int .i64 (am c k r), .int .i64 (am d k s)]) ∧ Below w.heap.size w w' := by
  have A0 := ((Arr.new w a b c d 26).alloc (.cells #[.int .i64 p, .int .i64 q, .int .i64 r, .int .i64 s] 26)).alloc (.cells #[.int .i64 0, .int .i64 0, .int .i64 0, .int .i64 0] 26)
  have G0 := (Arr.new (w.alloc (.cells #[.int .i64 a, .int .i64 b, .int .i64 c, .int .i64 d] 26)) p q r s 26).alloc (.cells #[.int .i64 0, .int .i64 0, .int .i64 0, .int .i64 0] 26)
  have R0 := (Arr.new ((w.alloc (.cells #[.int .i64 a, .int .i64 b, .int .i64 c, .int .i64 d] 26)).alloc (.cells #[.int .i64 p, .int .i64 q, .int .i64 r, .int .i64 s] 26)) 0 0 0 0 26)
  have B0 := gr_alloc (gr_alloc (gr_alloc (Below.refl w.heap.size w) (.cells #[.int .i64 a, .int .i64 b, .int .i64 c, .int .i64 d] 26)) (.cells #[.int .i64 p, .int .i64 q, .int .i64 r, .int .i64 s] 26)) (.cells #[.int .i64 0, .int .i64 0, .int .i64 0, .int .i64 0] 26)
  simp only [World.size_alloc] at A0 G0 R0
  go_enter Try.func149, Try.ntmps149
  go_wp2
  generalize (((w.alloc (.cells #[.int .i64 a, .int .i64 b, .int .i64 c, .int .i64 d] 26)).alloc (.cells #[.int .i64 p, .int .i64 q, .int .i64 r, .int .i64 s] 26)).alloc (.cells #[.int .i64 0, .int .i64 0, .int .i64 0, .int .i64 0] 26)) = W0 at A0 G0 R0 B0 ⊢
  refine wp_loop_rounds 5 ?_
  -- round 0
  obtain ⟨_, c0, c1, c2, c3, f0, f1, f2, f3⟩ := id A0
  obtain ⟨_, g0, g1, g2, g3, _⟩ := id G0
  rw [rounds_succ]; go_wp2
  go_still_tail 10, (by kernel_rfl)
  go_wp2
  have A1 := (A0.set0 (am a k p)).drew
  have G1 := (G0.oth (p := ⟨w.heap.size, 0, none⟩) (by simp) (.int .i64 (am a k p))).drew
  have R1 := (R0.oth (p := ⟨w.heap.size, 0, none⟩) (by simp; omega) (.int .i64 (am a k p))).drew
  have B1 := gr_drew (gr_set B0 (p := ⟨w.heap.size, 0, none⟩) (by simp) (.int .i64 (am a k p)))
  clear c0 c1 c2 c3 f0 f1 f2 f3 g0 g1 g2 g3
  simp only [am, pl, mu] at A1 G1 R1 B1
  generalize (World.setCell W0 ⟨w.heap.size, 0, none⟩ (.int .i64 (wrap64 (a + wrap64 (k * p))))).drew = W1 at A1 G1 R1 B1 ⊢
  clear A0 G0 R0 B0
  -- round 1
  obtain ⟨_, c0, c1, c2, c3, f0, f1, f2, f3⟩ := id A1
  obtain ⟨_, g0, g1, g2, g3, _⟩ := id G1
  rw [rounds_succ]; go_wp2
  go_still_tail 10, (by kernel_rfl)
  go_wp2
  have A2 := (A1.set1 (am b k q)).drew
  have G2 := (G1.oth (p := ⟨w.heap.size, 1, none⟩) (by simp) (.int .i64 (am b k q))).drew
  have R2 := (R1.oth (p := ⟨w.heap.size, 1, none⟩) (by simp; omega) (.int .i64 (am b k q))).drew
  have B2 := gr_drew (gr_set B1 (p := ⟨w.heap.size, 1, none⟩) (by simp) (.int .i64 (am b k q)))
  clear c0 c1 c2 c3 f0 f1 f2 f3 g0 g1 g2 g3
  simp only [am, pl, mu] at A2 G2 R2 B2
  generalize (World.setCell W1 ⟨w.heap.size, 1, none⟩ (.int .i64 (wrap64 (b + wrap64 (k * q))))).drew = W2 at A2 G2 R2 B2 ⊢
  clear A1 G1 R1 B1
  -- round 2
  obtain ⟨_, c0, c1, c2, c3, f0, f1, f2, f3⟩ := id A2
  obtain ⟨_, g0, g1, g2, g3, _⟩ := id G2
  rw [rounds_succ]; go_wp2
  go_still_tail 10, (by kernel_rfl)
  go_wp2
  have A3 := (A2.set2 (am c k r)).drew
  have G3 := (G2.oth (p := ⟨w.heap.size, 2, none⟩) (by simp) (.int .i64 (am c k r))).drew
  have R3 := (R2.oth (p := ⟨w.heap.size, 2, none⟩) (by simp; omega) (.int .i64 (am c k r))).drew
  have B3 := gr_drew (gr_set B2 (p := ⟨w.heap.size, 2, none⟩) (by simp) (.int .i64 (am c k r)))
  clear c0 c1 c2 c3 f0 f1 f2 f3 g0 g1 g2 g3
  simp only [am, pl, mu] at A3 G3 R3 B3
  generalize (World.setCell W2 ⟨w.heap.size, 2, none⟩ (.int .i64 (wrap64 (c + wrap64 (k * r))))).drew = W3 at A3 G3 R3 B3 ⊢
  clear A2 G2 R2 B2
  -- round 3
  obtain ⟨_, c0, c1, c2, c3, f0, f1, f2, f3⟩ := id A3
  obtain ⟨_, g0, g1, g2, g3, _⟩ := id G3
  rw [rounds_succ]; go_wp2
  go_still_tail 10, (by kernel_rfl)
  go_wp2
  have A4 := (A3.set3 (am d k s)).drew
  have G4 := (G3.oth (p := ⟨w.heap.size, 3, none⟩) (by simp) (.int .i64 (am d k s))).drew
  have R4 := (R3.oth (p := ⟨w.heap.size, 3, none⟩) (by simp; omega) (.int .i64 (am d k s))).drew
  have B4 := gr_drew (gr_set B3 (p := ⟨w.heap.size, 3, none⟩) (by simp) (.int .i64 (am d k s)))
  clear c0 c1 c2 c3 f0 f1 f2 f3 g0 g1 g2 g3
  simp only [am, pl, mu] at A4 G4 R4 B4
  generalize (World.setCell W3 ⟨w.heap.size, 3, none⟩ (.int .i64 (wrap64 (d + wrap64 (k * s))))).drew = W4 at A4 G4 R4 B4 ⊢
  clear A3 G3 R3 B3
  obtain ⟨_, c0, c1, c2, c3, f0, f1, f2, f3⟩ := id A4
  obtain ⟨_, r0, r1, r2, r3, g0, g1, g2, g3⟩ := id R4
  rw [rounds_succ]; go_wp2
  refine bodyPost_ret (res_A1 (e := 2) rfl Try.underlying26 (by kernel_rfl) rfl (by (repeat (first | with_reducible assumption | with_reducible exact Arr.box (by assumption) | with_reducible apply Arr.drew | with_reducible apply Arr.drewN | with_reducible refine Arr.store4 ?_ | with_reducible apply Arr.alloc | with_reducible refine Box.drew ?_ | with_reducible refine Box.drewN ?_ _ | with_reducible refine Box.alloc ?_ _ | refine Arr.oth ?_ (by first | (simp; done) | omega | (simp; omega)) _ | refine Box.oth ?_ (by first | (simp; done) | omega | (simp; omega)) _)))) rfl ?_
  exact ⟨rfl, by (repeat' (first | with_reducible exact Below.refl _ _ | with_reducible assumption | with_reducible refine gr_alloc ?_ _ | with_reducible refine gr_drew ?_ | with_reducible refine gr_drewN ?_ _ | with_reducible refine gr_trans ?_ (by assumption) | with_reducible refine gr_set ?_ ?_ _ | (simp; done) | omega | (simp; omega)))⟩

end Go.Proofs.Ytikmjefbjejbkaa

/- Ranging over the map of formWithValues: whichever order the entries come in, the sum is one. -/
namespace Go.Proofs.Ytikmjefbjejbkaa
open Go.RowKit

theorem range_run {w : World} {b : Nat} {es : Array MapEntry} {c : Nat} (hb : w.heap[b]? = some (.map es c)) :
    (Instr.range 153 (.map (some b))).run Try.prog w = .ok (.pointer (some ⟨w.heap.size, 0, none⟩)) (w.alloc (.mapIter (some b) c #[] c)) := by
  unfold Instr.range
  simp only [Sem.run_bind, run_underlying Try.underlying153, Result.andThen_ok, getM hb]
  rfl

def vals (a b c d : Int) : Nat → Int
  | 0 => a
  | 1 => b
  | 2 => c
  | _ => d
/-- The map literal's four entries, in some order, at stamps 0 to 3. -/
def ord (i j k l : Nat) : List (Nat × Nat) := [(i, 0), (j, 1), (k, 2), (l, 3)]
def isOrd (i j k l : Nat) : Bool := [i, j, k, l].isPerm [0, 1, 2, 3]

/-- x where stamp t has been seen. -/
def con (seen : Array Nat) (t : Nat) (x : Int) : Int := if seen.contains t then x else 0
/-- The sum of what has been seen, g the component. -/
def tot (V : Nat → Int) (g : Nat → Int) (i j k l : Nat) (seen : Array Nat) : Int := con seen 0 (V i * g i) + con seen 1 (V j * g j) + con seen 2 (V k * g k) + con seen 3 (V l * g l)
theorem con_push (seen : Array Nat) (t s : Nat) (x : Int) (h : seen.contains s = false) : con (seen.push s) t x = con seen t x + if t = s then x else 0 := by
  unfold con
  by_cases e : t = s
  · subst e; simp at h; simp [h]
  · have : (seen.push s).contains t = seen.contains t := by
      rw [Bool.eq_iff_iff]; simp [e]
    rw [this]; simp [e]
theorem tot_start (V g : Nat → Int) (i j k l : Nat) : tot V g i j k l #[] = 0 := by simp [tot, con]
theorem tot_step (V g : Nat → Int) {i j k l : Nat} {seen : Array Nat} {p : Nat × Nat} (hp : p ∈ ord i j k l) (h : seen.contains p.2 = false) :
    tot V g i j k l (seen.push p.2) = tot V g i j k l seen + V p.1 * g p.1 := by
  simp only [tot, con_push _ _ _ _ h]
  simp only [ord, List.mem_cons, List.not_mem_nil, or_false] at hp
  rcases hp with rfl | rfl | rfl | rfl <;> simp <;> omega
theorem tot_end (V g : Nat → Int) {i j k l : Nat} {seen : Array Nat} (hs : ∀ t, t < 4 → seen.contains t = true) (h : isOrd i j k l = true) :
    tot V g i j k l seen = V 0 * g 0 + V 1 * g 1 + V 2 * g 2 + V 3 * g 3 := by
  have hb : i < 4 ∧ j < 4 ∧ k < 4 ∧ l < 4 := by
    have hp := List.isPerm_iff.1 h
    have m : ∀ x ∈ [i, j, k, l], x < 4 := fun x hx => by have := hp.mem_iff.1 hx; simp at this; omega
    exact ⟨m i (by simp), m j (by simp), m k (by simp), m l (by simp)⟩
  simp only [tot, con, hs 0 (by omega), hs 1 (by omega), hs 2 (by omega), hs 3 (by omega), if_true]
  have hp := List.isPerm_iff.1 h
  have e : ∀ (a b c d : Nat), a < 4 → b < 4 → c < 4 → d < 4 → isOrd a b c d = true → V a * g a + V b * g b + V c * g c + V d * g d = V 0 * g 0 + V 1 * g 1 + V 2 * g 2 + V 3 * g 3 := by
    intro a b c d ha hb hc hd ho
    generalize hf : (fun n => V n * g n) = f
    have fe : ∀ n, V n * g n = f n := fun n => by rw [← hf]
    simp only [fe]
    clear fe hf
    rcases (show a = 0 ∨ a = 1 ∨ a = 2 ∨ a = 3 by omega) with rfl | rfl | rfl | rfl <;>
    rcases (show b = 0 ∨ b = 1 ∨ b = 2 ∨ b = 3 by omega) with rfl | rfl | rfl | rfl <;>
    rcases (show c = 0 ∨ c = 1 ∨ c = 2 ∨ c = 3 by omega) with rfl | rfl | rfl | rfl <;>
    rcases (show d = 0 ∨ d = 1 ∨ d = 2 ∨ d = 3 by omega) with rfl | rfl | rfl | rfl <;>
    first | omega | exact absurd ho (by decide)
  exact e i j k l hb.1 hb.2.1 hb.2.2.1 hb.2.2.2 h

theorem left_mem {V : Nat → Int} {L : List (Nat × Nat)} {seen : Array Nat} {e : MapEntry} (h : e ∈ (leftOf (mapOf V L) seen).toList) : ∃ p ∈ L, e = bent V p.1 p.2 ∧ seen.contains p.2 = false := by
  simp only [leftOf, mapOf, Array.toList_filter, List.mem_filter, List.mem_map] at h
  obtain ⟨⟨p, hp, rfl⟩, h2⟩ := h
  exact ⟨p, hp, rfl, by simpa [bent, ent] using h2⟩
theorem left_none {V : Nat → Int} {i j k l : Nat} {seen : Array Nat} (h : (leftOf (mapOf V (ord i j k l)) seen).size = 0) : ∀ t, t < 4 → seen.contains t = true := by
  intro t ht
  by_cases hc : seen.contains t = true
  · exact hc
  · have hm : ∀ p ∈ ord i j k l, p.2 = t → bent V p.1 p.2 ∈ (leftOf (mapOf V (ord i j k l)) seen).toList := by
      intro p hp e
      simp only [leftOf, mapOf, Array.toList_filter, List.mem_filter, List.mem_map]
      refine ⟨⟨p, hp, rfl⟩, ?_⟩
      simp only [bent, ent, e]; simpa using hc
    have : (leftOf (mapOf V (ord i j k l)) seen).toList = [] := by simpa using h
    rw [this] at hm
    rcases (show t = 0 ∨ t = 1 ∨ t = 2 ∨ t = 3 by omega) with rfl | rfl | rfl | rfl
    · exact absurd (hm (i, 0) (by simp [ord]) rfl) (by simp)
    · exact absurd (hm (j, 1) (by simp [ord]) rfl) (by simp)
    · exact absurd (hm (k, 2) (by simp [ord]) rfl) (by simp)
    · exact absurd (hm (l, 3) (by simp [ord]) rfl) (by simp)

open Go.ChangeMaps (setBlock)

/-- How many entries are still to come, read off the iterator. -/
def lefts (M : Array MapEntry) (wr : World) (r : Nat) : Nat := match wr.heap[r]? with
  | some (.mapIter _ _ seen _) => (leftOf M seen).size
  | _ => 0
theorem left_lt {M : Array MapEntry} {seen : Array Nat} {e : MapEntry} (he : e ∈ (leftOf M seen).toList) : (leftOf M (seen.push e.born)).size < (leftOf M seen).size := by
  have h1 : leftOf M (seen.push e.born) = (leftOf M seen).filter fun x => decide (x.born ≠ e.born) := by
    unfold leftOf
    rw [Array.filter_filter]
    congr 1
    funext x
    rw [Bool.eq_iff_iff]; simp; constructor
    · rintro ⟨a, b⟩; exact ⟨b, a⟩
    · rintro ⟨a, b⟩; exact ⟨b, a⟩
  have h2 : ∀ (L : Array MapEntry) (q : MapEntry → Bool), (L.filter q).size = (L.toList.filter q).length := fun L q => by
    rw [← Array.toList_filter, Array.length_toList]
  rw [h1, h2, ← Array.length_toList]
  exact List.length_filter_lt_length_iff_exists.2 ⟨e, he, by simp⟩
theorem below_setBlock {w : World} {b : Nat} {o : Obj} : Below b w (setBlock w b o) :=
  ⟨rfl, rfl, rfl, by simp [setBlock], fun k hk => by simp [setBlock, Array.getElem?_setIfInBounds]; omega⟩
theorem mapOf_born (V : Nat → Int) (i j k l : Nat) : ∀ x ∈ (mapOf V (ord i j k l)).toList, x.born < 4 := by
  intro x hx
  simp [mapOf, ord, bent, ent] at hx
  rcases hx with rfl | rfl | rfl | rfl <;> simp
theorem mapOf_nodup (V : Nat → Int) (i j k l : Nat) : ((mapOf V (ord i j k l)).toList.map (·.born)).Nodup := by
  simp [mapOf, ord, bent, ent]
theorem con_bd {seen : Array Nat} {t : Nat} {x B : Int} (h : -B ≤ x ∧ x ≤ B) (hB : 0 ≤ B) : -B ≤ con seen t x ∧ con seen t x ≤ B := by
  unfold con; split <;> omega
theorem tot_bd {V g : Nat → Int} {i j k l : Nat} {seen : Array Nat} (h : ∀ n, -200000000000000 ≤ V n * g n ∧ V n * g n ≤ 200000000000000) : -800000000000000 ≤ tot V g i j k l seen ∧ tot V g i j k l seen ≤ 800000000000000 := by
  have a := con_bd (seen := seen) (t := 0) (h i) (by omega)
  have b := con_bd (seen := seen) (t := 1) (h j) (by omega)
  have c := con_bd (seen := seen) (t := 2) (h k) (by omega)
  have d := con_bd (seen := seen) (t := 3) (h l) (by omega)
  unfold tot; omega
theorem am_tot {V g : Nat → Int} {i j k l : Nat} {seen : Array Nat} {p : Nat × Nat} (hb : ∀ n, -200000000000000 ≤ V n * g n ∧ V n * g n ≤ 200000000000000) (hp : p ∈ ord i j k l) (h : seen.contains p.2 = false) :
    am (tot V g i j k l seen) (V p.1) (g p.1) = tot V g i j k l (seen.push p.2) := by
  rw [tot_step V g hp h]
  have h1 := hb p.1
  have h2 := tot_bd (i := i) (j := j) (k := k) (l := l) (seen := seen) hb
  unfold am pl mu
  rw [IntWalk.wrap64_in (V p.1 * g p.1) (by omega), IntWalk.wrap64_in _ (by omega)]
theorem comp_bd {a b c d : Int} (ha : -100000000000000 ≤ a ∧ a ≤ 100000000000000) (hb : -100000000000000 ≤ b ∧ b ≤ 100000000000000) (hc : -100000000000000 ≤ c ∧ c ≤ 100000000000000) (hd : -100000000000000 ≤ d ∧ d ≤ 100000000000000) :
    (∀ n, -200000000000000 ≤ vals a b c d n * (bk n).1 ∧ vals a b c d n * (bk n).1 ≤ 200000000000000) ∧ (∀ n, -200000000000000 ≤ vals a b c d n * (bk n).2.1 ∧ vals a b c d n * (bk n).2.1 ≤ 200000000000000) ∧
    (∀ n, -200000000000000 ≤ vals a b c d n * (bk n).2.2.1 ∧ vals a b c d n * (bk n).2.2.1 ≤ 200000000000000) ∧ (∀ n, -200000000000000 ≤ vals a b c d n * (bk n).2.2.2 ∧ vals a b c d n * (bk n).2.2.2 ≤ 200000000000000) := by
  refine ⟨?_, ?_, ?_, ?_⟩ <;> intro n <;> (match n with
    | 0 => simp only [vals, bk]; omega
    | 1 => simp only [vals, bk]; omega
    | 2 => simp only [vals, bk]; omega
    | n + 3 => simp only [vals, bk]; omega)

end Go.Proofs.Ytikmjefbjejbkaa
