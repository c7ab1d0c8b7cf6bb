/- Several texts in one: XList, XList2, XPl. -/
import Derived.Test.YtambbhldhhlfgaaDoorFkZ1
import Derived.Test.YtambbhldhhlfgaaDoorFkZ3
import Derived.Deep.OwnRows
import Derived.Test.YtambbhldhhlfgaaDoorFkBx
import Derived.Test.YtambbhldhhlfgaaDoorFkDet0

/- Lists of integers: copies, comparisons. -/
namespace Go.Proofs.YtambbhldhhlfgaaDoor
open Go.ChangeShapes Go.WideShapes Go.ChangeAt Go.RowKit

theorem info_l64 : (Tryd.prog.info? 2).map (fun i => (i.zero, i.size, i.bytes)) = some (some (.int .i64 0), 1, 8) := by kernel_rfl

theorem add_block (x : Addr) (k : Nat) : (x.add k).block = x.block := by unfold Addr.add; split <;> rfl
/-- A slice of n integers, g 0, .., g (n - 1). -/
def Rd (w : World) (v : Value) (n : Nat) (g : Nat → Int) : Prop :=
  (v = .slice none 0 0 ∧ n = 0) ∨ ∃ b cap, v = .slice (some ⟨b, 0, none⟩) n cap ∧ n ≤ cap ∧ cap ≤ maxLen ∧ b < w.heap.size ∧ ∀ i, i < n → w.cell? ⟨b, i, none⟩ = some (.int .i64 (g i))
theorem Rd.next {w w' : World} {v : Value} {n : Nat} {g : Nat → Int} (h : Rd w v n g) (hb : Below w.heap.size w w') : Rd w' v n g := by
  rcases h with h | ⟨b, cap, h1, h2, h3, h4, h5⟩
  · exact .inl h
  · exact .inr ⟨b, cap, h1, h2, h3, Nat.lt_of_lt_of_le h4 hb.size, fun i hi => (hb.cell (p := ⟨b, i, none⟩) h4).trans (h5 i hi)⟩
theorem Rd.of_row {w : World} {k n : Nat} {g : Nat → Int} (h : w.rowIs k 2 n (fun i => .int .i64 (g i))) (hn : n ≤ maxLen) : Rd w (.slice (some ⟨k, 0, none⟩) n n) n g :=
  .inr ⟨k, n, rfl, Nat.le_refl _, hn, h.lt, fun _ hi => h.cell hi⟩





end Go.Proofs.YtambbhldhhlfgaaDoor

/- Lists of integers that a call laid: marks, and what they hold. -/
namespace Go.Proofs.YtambbhldhhlfgaaDoor
open Go.ChangeShapes Go.WideShapes Go.ChangeAt Go.RowKit

/-- A slice of len integers that lies in a block of its own, from B on; or nil. -/
def OwnV (B : Nat) (w : World) (v : Value) (len : Nat) (g : Nat → Int) : Prop :=
  (v = .slice none 0 0 ∧ len = 0) ∨ ∃ k cap, v = .slice (some ⟨k, 0, none⟩) len cap ∧ B ≤ k ∧ k < w.heap.size ∧ len ≤ cap ∧ cap ≤ maxLen ∧ ∀ i, i < len → w.cell? ⟨k, i, none⟩ = some (.int .i64 (g i)) ∧ w.frozen? ⟨k, i, none⟩ = false
/-- A slice of n integers in a block below B; or nil. -/
def RdB (B : Nat) (w : World) (v : Value) (n : Nat) (g : Nat → Int) : Prop :=
  (v = .slice none 0 0 ∧ n = 0) ∨ ∃ b cap, v = .slice (some ⟨b, 0, none⟩) n cap ∧ n ≤ cap ∧ cap ≤ maxLen ∧ b < B ∧ ∀ i, i < n → w.cell? ⟨b, i, none⟩ = some (.int .i64 (g i))
theorem RdB.rd {B : Nat} {w : World} {v : Value} {n : Nat} {g : Nat → Int} (h : RdB B w v n g) (hB : B ≤ w.heap.size) : Rd w v n g := by
  rcases h with h | ⟨b, cap, h1, h2, h3, h4, h5⟩
  · exact .inl h
  · exact .inr ⟨b, cap, h1, h2, h3, by omega, h5⟩
theorem RdB.below {B : Nat} {w w' : World} {v : Value} {n : Nat} {g : Nat → Int} (h : RdB B w v n g) {C : Nat} (hb : Below C w w') (hC : B ≤ C) : RdB B w' v n g := by
  rcases h with h | ⟨b, cap, h1, h2, h3, h4, h5⟩
  · exact .inl h
  · exact .inr ⟨b, cap, h1, h2, h3, h4, fun i hi => (hb.cell (p := ⟨b, i, none⟩) (by show b < C; omega)).trans (h5 i hi)⟩
theorem OwnV.rdB {B : Nat} {w : World} {v : Value} {n : Nat} {g : Nat → Int} (h : OwnV B w v n g) : RdB w.heap.size w v n g := by
  rcases h with h | ⟨b, cap, h1, _, h4, h2, h3, h5⟩
  · exact .inl h
  · exact .inr ⟨b, cap, h1, h2, h3, h4, fun i hi => (h5 i hi).1⟩
theorem OwnV.rd {B : Nat} {w : World} {v : Value} {n : Nat} {g : Nat → Int} (h : OwnV B w v n g) : Rd w v n g := h.rdB.rd (Nat.le_refl _)
theorem OwnV.next {B : Nat} {w w' : World} {v : Value} {n : Nat} {g : Nat → Int} (h : OwnV B w v n g) (hb : Below w.heap.size w w') : OwnV B w' v n g := by
  rcases h with h | ⟨b, cap, h1, h6, h4, h2, h3, h5⟩
  · exact .inl h
  · exact .inr ⟨b, cap, h1, h6, Nat.lt_of_lt_of_le h4 hb.size, h2, h3, fun i hi => ⟨(hb.cell (p := ⟨b, i, none⟩) h4).trans (h5 i hi).1, (hb.frozen (p := ⟨b, i, none⟩) h4).trans (h5 i hi).2⟩⟩
theorem OwnV.congr {B : Nat} {w : World} {v : Value} {n : Nat} {g g' : Nat → Int} (h : OwnV B w v n g) (e : ∀ i, i < n → g i = g' i) : OwnV B w v n g' := by
  rcases h with h | ⟨b, cap, h1, h6, h4, h2, h3, h5⟩
  · exact .inl h
  · exact .inr ⟨b, cap, h1, h6, h4, h2, h3, fun i hi => by rw [← e i hi]; exact h5 i hi⟩
theorem OwnV.base {B B' : Nat} {w : World} {v : Value} {n : Nat} {g : Nat → Int} (h : OwnV B w v n g) (hB : B' ≤ B) : OwnV B' w v n g := by
  rcases h with h | ⟨b, cap, h1, h6, h4, h2, h3, h5⟩
  · exact .inl h
  · exact .inr ⟨b, cap, h1, by omega, h4, h2, h3, h5⟩
theorem OwnV.arr {B : Nat} {w : World} {k : Nat} {a b c d : Int} (h : Arr w k a b c d) (hB : B ≤ k) : OwnV B w (.slice (some ⟨k, 0, none⟩) 4 4) 4 (fun i => if i = 0 then a else if i = 1 then b else if i = 2 then c else d) := by
  refine .inr ⟨k, 4, rfl, hB, h.lt, Nat.le_refl _, by decide, fun i hi => ?_⟩
  match i, hi with
  | 0, _ => exact ⟨h.c0, h.f0⟩
  | 1, _ => exact ⟨h.c1, h.f1⟩
  | 2, _ => exact ⟨h.c2, h.f2⟩
  | 3, _ => exact ⟨h.c3, h.f3⟩
/-- The cells of one own row, and a store into it. -/
def Cl (w : World) (k len : Nat) (g : Nat → Int) : Prop := k < w.heap.size ∧ ∀ i, i < len → w.cell? ⟨k, i, none⟩ = some (.int .i64 (g i)) ∧ w.frozen? ⟨k, i, none⟩ = false
theorem Cl.set {w : World} {k len : Nat} {g : Nat → Int} (h : Cl w k len g) {i : Nat} (hi : i < len) (x : Int) : Cl (w.setCell ⟨k, i, none⟩ (.int .i64 x)) k len (fun j => if j = i then x else g j) := by
  refine ⟨by rw [World.size_setCell]; exact h.1, fun j hj => ⟨?_, (World.frozen?_setCell _ _ _ _).trans (h.2 j hj).2⟩⟩
  by_cases e : j = i
  · subst e
    simp only [if_true]
    exact World.cell?_setCell_same' _ _ _ (by rw [(h.2 j hj).1]; rfl)
  · simp only [e, if_false]
    exact (World.cell?_setCell_other _ _ _ _ (ne_off (fun h => e h.symm))).trans (h.2 j hj).1
theorem Cl.congr {w : World} {k len : Nat} {g g' : Nat → Int} (h : Cl w k len g) (e : ∀ i, i < len → g i = g' i) : Cl w k len g' := ⟨h.1, fun i hi => by rw [← e i hi]; exact h.2 i hi⟩
theorem Cl.below {w w' : World} {k len : Nat} {g : Nat → Int} (h : Cl w k len g) (hb : Below w.heap.size w w') : Cl w' k len g :=
  ⟨Nat.lt_of_lt_of_le h.1 hb.size, fun i hi => ⟨(hb.cell (p := ⟨k, i, none⟩) h.1).trans (h.2 i hi).1, (hb.frozen (p := ⟨k, i, none⟩) h.1).trans (h.2 i hi).2⟩⟩
theorem below_set {B : Nat} {w w' : World} (h : Below B w w') {p : Addr} (hp : B ≤ p.block) (u : Value) : Below B w (w'.setCell p u) := h.setCell hp u



def q4 (x y z u : Int) (i : Nat) : Int := if i = 0 then x else if i = 1 then y else if i = 2 then z else u
/-- A list that the call laid, and a code. -/
def LstOut (code : Int) (len : Nat) (g : Nat → Int) (w : World) (e : Ending) (w' : World) : Prop :=
  ∃ v, e = .returned (.tuple #[v, .int .i64 code]) ∧ OwnV w.heap.size w' v (if code = 0 then len else 0) g ∧ Below w.heap.size w w'

end Go.Proofs.YtambbhldhhlfgaaDoor

/- Chapter 5: lists of primes, the program's and the model's. -/
namespace Go.Proofs.YtambbhldhhlfgaaDoor
open Go.RowKit

theorem OwnV.of_owns {B : Nat} {w : World} {v : Value} {t : TypeId} {L : List Int} (h : w.ownsRow B t 1 v L.length (L.map (Value.int .i64))) : OwnV B w v L.length (fun i => L.getD i 0) := by
  rcases h.2 with ⟨rfl, hn⟩ | ⟨g, cap, cur, rfl, hb, hg, hnc, hcm, hs, ht⟩
  · exact .inl ⟨rfl, hn⟩
  · refine .inr ⟨g, cap, rfl, hb, (Array.getElem?_eq_some_iff.1 hg).1, hnc, hcm, fun i hi => ⟨?_, by simp [World.frozen?, hg]⟩⟩
    have hx : (L.map (Value.int .i64))[i]? = some (.int .i64 (L.getD i 0)) := by simp [List.getD, hi]
    rw [← ht, List.getElem?_take] at hx
    split at hx
    · simp [World.cell?, hg]
      simpa using hx
    · cases hx
theorem owns_empty (w : World) (B : Nat) (t : TypeId) (s : Nat) (hB : B ≤ w.heap.size) : (w.alloc (.cells #[] t)).ownsRow B t s (.slice (some ⟨w.heap.size, 0, none⟩) 0 0) 0 [] :=
  ⟨by simp, .inr ⟨w.heap.size, 0, #[], rfl, hB, heap_alloc_new w _, Nat.le_refl _, by decide, by simp, by simp⟩⟩
theorem prl_app {w : World} {B : Nat} {t : TypeId} {v : Value} {k : Nat} (hp : prm k = true) (h : w.ownsRow B t 1 v ((prl k).length + 1) ((prl k).map (Value.int .i64) ++ [.int .i64 k])) : w.ownsRow B t 1 v (prl (k + 1)).length ((prl (k + 1)).map (Value.int .i64)) := by
  rw [prl_t hp]; simpa using h

set_option maxRecDepth 100000 in
set_option maxHeartbeats 1000000 in
theorem iPrimesUpTo_any (n : Int) (w : World) : Calls Tryd.prog 66 #[.int .i64 n] w (LstOut (nco n) (prl (n.toNat + 1)).length (fun i => (prl (n.toNat + 1)).getD i 0) w) := by
  by_cases hr : rng 2 97 n = true
  · obtain ⟨h2, h97⟩ := rng_t hr
    have h0 : nco n = 0 := by simp [nco, hr]
    have H0 := hid h0
    obtain ⟨i0, hi, hi0, hi1, hi2⟩ := info_parts info_l64
    have HI := hid hi; have HZ0 := hid hi0; have HZ1 := hid hi1; have HZ2 := hid hi2
    clear hi hi0 hi1 hi2 h0 hr
    have O0 := World.ownsRow_nil w w.heap.size 2 1
    go_enter Tryd.func66, Tryd.ntmps66
    go_wp2
    go_loopw [4, 5] (fun v s wr => ∃ k : Nat, 2 ≤ k ∧ (k : Int) ≤ n + 1 ∧ s = .int .i64 ((k : Int)) ∧ wr.ownsRow w.heap.size 2 1 v (prl k).length ((prl k).map (Value.int .i64)) ∧ Below w.heap.size w wr) (fun _ s _ => (n + 1 - intOf s).toNat)
    case atStart => exact ⟨2, by omega, by omega, rfl, by rw [prl_2]; exact O0, Below.refl _ _⟩
    case round =>
      obtain ⟨k, hk2, hkn, rfl, hO, hU⟩ := hrel
      have HO := hid hO; have HU := hid hU
      have hl := prl_len k
      have hv := hU.size
      clear hO hU O0
      by_cases hle : (k : Int) ≤ n
      · cases hp : prm (k : Int) with
        | false =>
          have HP := hid (prl_f hp)
          go_wp2_with (go_at_call 144; refine (isPrime_any _ _).mono ?_; rintro e w' ⟨rfl, rfl⟩)
          go_roundw
          case rel => exact ⟨k + 1, by omega, by omega, by go_num, by rw [HP.out]; exact HO.out, HU.out⟩
          case measure => simp [intOf]; omega
        | true =>
          have HP := hid hp
          go_wp2_with (first | (go_at_call 144; refine (isPrime_any _ _).mono ?_; rintro e w' ⟨rfl, rfl⟩) | (at_builtin; refine wpList_append_own _ rfl _ _ 32 rfl w.heap.size 2 i0 (.int .i64 0) 1 8 Tryd.underlying32 HI.out HZ0.out HZ1.out HZ2.out rfl (by decide) _ _ _ rfl (HO.out.alloc _) ⟨wr.heap.size, 0, none⟩ 1 1 [.int .i64 ((k : Int))] rfl rfl ?a1 ?b1 ?c1 ?d1 ?e1 ?_))
          case a1 =>
            intro j u hj
            match j, hj with
            | 0, hj => simp at hj; subst hj; simp [Addr.add, go_sem]
          case b1 => first | (intro u hu; simp at hu; subst hu; rfl) | rfl | simp [Value.oneCell']
          case c1 => unfold maxLen; omega
          case d1 => omega
          case e1 => first | omega | (simp; omega)
          intro y1 W1 O1 hg1 _
          have HO1 := hid (prl_app HP.out O1)
          have HU1 := hid (gr_own (gr_alloc HU.out _) hg1 (fun j hj => (HO.out.lt j hj).1))
          clear O1 hg1
          go_wp2
          go_roundw
          case rel => exact ⟨k + 1, by omega, by omega, by go_num, HO1.out, HU1.out⟩
          case measure => simp [intOf]; omega
      · have e : k = n.toNat + 1 := by omega
        subst e
        go_wp2
        go_ret2
        rw [H0.out]
        exact ⟨_, rfl, OwnV.of_owns HO.out, HU.out⟩
  · have hr' : rng 2 97 n = false := by simpa using hr
    have h0 : nco n = 2 := by simp [nco, hr']
    have H0 := hid h0
    have hn := rng_f hr'
    clear h0 hr hr'
    rcases hn with hn | hn
    · go_enter Tryd.func66, Tryd.ntmps66
      go_wp2
      go_ret2
      rw [H0.out]
      exact ⟨_, rfl, .inl ⟨rfl, by simp⟩, Below.refl _ _⟩
    · go_enter Tryd.func66, Tryd.ntmps66
      go_wp2
      go_ret2
      rw [H0.out]
      exact ⟨_, rfl, .inl ⟨rfl, by simp⟩, Below.refl _ _⟩

theorem prl_le (n : Int) : (if nco n = 0 then (prl (n.toNat + 1)).length else 0) ≤ 1000 := by
  by_cases hr : rng 2 97 n = true
  · have h := rng_t hr
    have := prl_len (n.toNat + 1)
    split <;> omega
  · simp [nco, hr]

/-- A list that the call laid. -/
def LstV (len : Nat) (g : Nat → Int) (w : World) (e : Ending) (w' : World) : Prop := ∃ v, e = .returned v ∧ OwnV w.heap.size w' v len g ∧ Below w.heap.size w w'

set_option maxRecDepth 100000 in
set_option maxHeartbeats 1000000 in
theorem l05Primes_any (n : Int) (w : World) (h2 : 2 ≤ n) (h97 : n ≤ 97) : Calls Tryd.prog 147 #[.int .i64 n] w (LstV (prl (n.toNat + 1)).length (fun i => (prl (n.toNat + 1)).getD i 0) w) := by
  obtain ⟨i0, hi, hi0, hi1, hi2⟩ := info_parts info_l64
  have HI := hid hi; have HZ0 := hid hi0; have HZ1 := hid hi1; have HZ2 := hid hi2
  clear hi hi0 hi1 hi2
  have O0 := owns_empty w w.heap.size 2 1 (Nat.le_refl _)
  have U0 := gr_alloc (Below.refl w.heap.size w) (.cells #[] 2)
  go_enter Tryd.func147, Tryd.ntmps147
  go_wp2
  go_loopw [3, 4] (fun v s wr => ∃ k : Nat, 2 ≤ k ∧ (k : Int) ≤ n + 1 ∧ s = .int .i64 ((k : Int)) ∧ wr.ownsRow w.heap.size 2 1 v (prl k).length ((prl k).map (Value.int .i64)) ∧ Below w.heap.size w wr) (fun _ s _ => (n + 1 - intOf s).toNat)
  case atStart => exact ⟨2, by omega, by omega, rfl, by rw [prl_2]; exact O0, U0⟩
  case round =>
    obtain ⟨k, hk2, hkn, rfl, hO, hU⟩ := hrel
    have HO := hid hO; have HU := hid hU
    have hl := prl_len k
    have hv := hU.size
    clear hO hU O0 U0
    by_cases hle : (k : Int) ≤ n
    · cases hp : prm (k : Int) with
      | false =>
        have HP := hid (prl_f hp)
        go_wp2_with (go_at_call 152; refine (l05Prime_any _ _).mono ?_; rintro e w' ⟨rfl, rfl⟩)
        go_roundw
        case rel => exact ⟨k + 1, by omega, by omega, by go_num, by rw [HP.out]; exact HO.out, HU.out⟩
        case measure => simp [intOf]; omega
      | true =>
        have HP := hid hp
        go_wp2_with (first | (go_at_call 152; refine (l05Prime_any _ _).mono ?_; rintro e w' ⟨rfl, rfl⟩) | (at_builtin; refine wpList_append_own _ rfl _ _ 32 rfl w.heap.size 2 i0 (.int .i64 0) 1 8 Tryd.underlying32 HI.out HZ0.out HZ1.out HZ2.out rfl (by decide) _ _ _ rfl (HO.out.alloc _) ⟨wr.heap.size, 0, none⟩ 1 1 [.int .i64 ((k : Int))] rfl rfl ?a1 ?b1 ?c1 ?d1 ?e1 ?_))
        case a1 =>
          intro j u hj
          match j, hj with
          | 0, hj => simp at hj; subst hj; simp [Addr.add, go_sem]
        case b1 => first | (intro u hu; simp at hu; subst hu; rfl) | rfl | simp [Value.oneCell']
        case c1 => unfold maxLen; omega
        case d1 => omega
        case e1 => first | omega | (simp; omega)
        intro y1 W1 O1 hg1 _
        have HO1 := hid (prl_app HP.out O1)
        have HU1 := hid (gr_own (gr_alloc HU.out _) hg1 (fun j hj => (HO.out.lt j hj).1))
        clear O1 hg1
        go_wp2
        go_roundw
        case rel => exact ⟨k + 1, by omega, by omega, by go_num, HO1.out, HU1.out⟩
        case measure => simp [intOf]; omega
    · have e : k = n.toNat + 1 := by omega
      subst e
      go_wp2
      go_ret
      exact ⟨_, rfl, OwnV.of_owns HO.out, HU.out⟩

set_option maxRecDepth 100000 in
set_option maxHeartbeats 400000 in
theorem sPrimesUpTo_any (n : Int) (w : World) : Calls Tryd.prog 67 #[.int .i64 n] w (LstOut (nco n) (prl (n.toNat + 1)).length (fun i => (prl (n.toNat + 1)).getD i 0) w) := by
  by_cases hr : rng 2 97 n = true
  · obtain ⟨h2, h97⟩ := rng_t hr
    have H0 := hid (show nco n = 0 by simp [nco, hr])
    go_enter Tryd.func67, Tryd.ntmps67
    go_wp2_with (first | (go_at_call 77; refine (l01In_any n 2 97 _).mono ?_; rintro e w' ⟨rfl, rfl⟩) | (go_at_call 147; refine (l05Primes_any n _ h2 h97).mono ?_; rintro e w' ⟨v, rfl, hV, hb⟩))
    go_ret2
    rw [H0.out]
    exact ⟨_, rfl, hV, hb⟩
  · have hr' : rng 2 97 n = false := by simpa using hr
    have H0 := hid (show nco n = 2 by simp [nco, hr'])
    clear hr
    go_enter Tryd.func67, Tryd.ntmps67
    go_wp2_with (go_at_call 77; refine (l01In_any n 2 97 _).mono ?_; rintro e w' ⟨rfl, rfl⟩)
    go_ret2
    rw [H0.out]
    exact ⟨_, rfl, .inl ⟨rfl, by simp⟩, Below.refl _ _⟩


end Go.Proofs.YtambbhldhhlfgaaDoor
