/- Chapter 5: points modulo a prime, the program's; rows of pairs and triples. -/
import Derived.Test.YtmhlolimaeejfaaDoorPl
import Derived.Test.YtmhlolimaeejfaaDoorPd
namespace Go.Proofs.YtmhlolimaeejfaaDoor
open Go.RowKit

theorem info_pl : (Tryd.prog.info? 47).map (fun i => (i.zero, i.size, i.bytes)) = some (some (.agg #[.int .i64 0, .int .i64 0]), 2, 16) := by kernel_rfl

theorem flat_get {α : Type} (f : α → List Value) (s : Nat) (hf : ∀ a, (f a).length = s) : ∀ (L : List α) (i j : Nat) (hi : i < L.length), j < s → (L.flatMap f)[i * s + j]? = (f L[i])[j]? := by
  intro L
  induction L with
  | nil => intro i j hi; simp at hi
  | cons a L ih =>
    intro i j hi hj
    cases i with
    | zero => simp only [Nat.zero_mul, Nat.zero_add, List.flatMap_cons, List.getElem_cons_zero]; rw [List.getElem?_append_left (by rw [hf]; exact hj)]
    | succ i =>
      simp only [List.flatMap_cons, List.getElem_cons_succ]
      rw [List.getElem?_append_right (by rw [hf, Nat.succ_mul]; omega), hf]
      rw [show (i + 1) * s + j - s = i * s + j by rw [Nat.succ_mul]; omega]
      exact ih i j (by simpa using hi) hj
/-- The two cells of a pair. -/
def pr2 (q : Int × Int) : List Value := [.int .i64 q.1, .int .i64 q.2]
/-- The points 0, 1 and so on; then 1, 0. -/
def ptl (k : Nat) : List (Int × Int) := (List.range k).map fun x : Nat => ((x : Int), 1)
def ptm (p : Int) : List (Int × Int) := ptl p.toNat ++ [(1, 0)]
theorem ptl_s (k : Nat) : ptl (k + 1) = ptl k ++ [((k : Int), 1)] := by simp [ptl, List.range_succ]
theorem ptl_len (k : Nat) : (ptl k).length = k := by simp [ptl]
theorem ptm_len (p : Int) : (ptm p).length = p.toNat + 1 := by simp [ptm, ptl]
/-- A row of pairs that a call has laid. -/
def PlOut (P : List (Int × Int)) (w : World) (e : Ending) (w' : World) : Prop := ∃ v, e = .returned v ∧ w'.ownsRow w.heap.size 47 2 v P.length (P.flatMap pr2) ∧ Below w.heap.size w w'
theorem pl_app {w : World} {B : Nat} {t : TypeId} {v : Value} {k : Nat} {P P' : List (Int × Int)} {q : Int × Int} (hl : P.length = k) (hs : P' = P ++ [q]) (h : w.ownsRow B t 2 v (k + 1) (P.flatMap pr2 ++ [.int .i64 q.1, .int .i64 q.2])) : w.ownsRow B t 2 v P'.length (P'.flatMap pr2) := by
  subst hs; simpa [hl, pr2] using h

set_option maxRecDepth 100000 in
set_option maxHeartbeats 1000000 in
theorem pointsModulo_any (p : Int) (w : World) (h2 : 2 ≤ p) (h97 : p ≤ 499) : Calls Tryd.prog 78 #[.int .i64 p] w (PlOut (ptm p) w) := by
  obtain ⟨i0, hi, hi0, hi1, hi2⟩ := info_parts info_pl
  have HI := hid hi; have HZ0 := hid hi0; have HZ1 := hid hi1; have HZ2 := hid hi2
  clear hi hi0 hi1 hi2
  obtain ⟨n, rfl⟩ : ∃ n : Nat, p = n := ⟨p.toNat, by omega⟩
  have HE := hid (show ptm (n : Int) = ptl n ++ [(1, 0)] by simp [ptm])
  generalize ptm (n : Int) = PM at HE ⊢
  have O0 := World.ownsRow_nil w w.heap.size 47 2
  go_enter Tryd.func78, Tryd.ntmps78
  go_wp2
  go_loopw [3, 4, 6] (fun s3 _ s6 wr => ∃ k : Nat, k ≤ n ∧ s6 = .int .i64 ((k : Int)) ∧ wr.ownsRow w.heap.size 47 2 s3 k ((ptl k).flatMap pr2) ∧ Below w.heap.size w wr) (fun _ _ s6 _ => n - (intOf s6).toNat)
  case atStart => exact ⟨0, Nat.zero_le _, rfl, O0, Below.refl _ _⟩
  case round =>
    obtain ⟨k, hk, rfl, hO, hU⟩ := hrel
    have HO := hid hO; have HU := hid hU
    have hv := hU.size
    clear hO hU O0
    by_cases hlt : k < n
    · have HS := hid (ptl_s k)
      have HN := hid (ptl_len k)
      go_wp2_with (at_builtin; refine wpList_append_own _ rfl _ _ 97 rfl w.heap.size 47 i0 (.agg #[.int .i64 0, .int .i64 0]) 2 16 Tryd.underlying97 HI.out HZ0.out HZ1.out HZ2.out rfl (by decide) _ _ _ rfl (HO.out.alloc _) ⟨wr.heap.size, 0, none⟩ 1 1 [.int .i64 ((k : Int)), .int .i64 1] rfl rfl ?a1 ?b1 ?c1 ?d1 ?e1 ?_)
      case a1 =>
        intro j u hj
        match j, hj with
        | 0, hj => simp at hj; subst hj; simp [Addr.add, go_sem]
        | 1, hj => simp at hj; subst hj; simp [Addr.add, go_sem]
      case b1 => intro u hu; simp at hu; rcases hu with rfl | rfl <;> rfl
      case c1 => unfold maxLen; omega
      case d1 => omega
      case e1 => first | omega | (simp; omega)
      intro y1 W1 O1 hg1 _
      have HO2 := hid (pl_app (q := ((k : Int), 1)) HN.out HS.out O1)
      have HU1 := hid (gr_own (gr_alloc HU.out _) hg1 (fun j hj => (HO.out.lt j hj).1))
      clear O1 hg1
      go_wp2
      go_roundw
      case rel => exact ⟨k + 1, by omega, by go_num, by have := HO2.out; rwa [ptl_len] at this, HU1.out⟩
      case measure => simp [intOf]; omega
    · have e : k = n := by omega
      subst e
      have HN := hid (ptl_len k)
      go_wp2_with (at_builtin; refine wpList_append_own _ rfl _ _ 97 rfl w.heap.size 47 i0 (.agg #[.int .i64 0, .int .i64 0]) 2 16 Tryd.underlying97 HI.out HZ0.out HZ1.out HZ2.out rfl (by decide) _ _ _ rfl (HO.out.alloc _) ⟨wr.heap.size, 0, none⟩ 1 1 [.int .i64 1, .int .i64 0] rfl rfl ?a2 ?b2 ?c2 ?d2 ?e2 ?_)
      case a2 =>
        intro j u hj
        match j, hj with
        | 0, hj => simp at hj; subst hj; simp [Addr.add, go_sem]
        | 1, hj => simp at hj; subst hj; simp [Addr.add, go_sem]
      case b2 => intro u hu; simp at hu; rcases hu with rfl | rfl <;> rfl
      case c2 => unfold maxLen; omega
      case d2 => omega
      case e2 => first | omega | (simp; omega)
      intro y1 W1 O1 hg1 _
      have HO2 := hid (pl_app (q := (1, 0)) HN.out HE.out O1)
      have HU1 := hid (gr_own (gr_alloc HU.out _) hg1 (fun j hj => (HO.out.lt j hj).1))
      clear O1 hg1
      go_wp2
      go_ret
      exact ⟨_, rfl, HO2.out, HU1.out⟩


end Go.Proofs.YtmhlolimaeejfaaDoor
