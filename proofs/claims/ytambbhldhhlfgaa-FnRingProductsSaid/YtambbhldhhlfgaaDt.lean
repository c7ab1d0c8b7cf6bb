/- Chapter 3: determinants of the program: a search through the columns. -/
import Derived.Test.YtambbhldhhlfgaaZ4
import Derived.Test.YtambbhldhhlfgaaGoto
import Derived.OwnWalk
import Derived.WalkMore
namespace Go.Proofs.Ytambbhldhhlfgaa.D3
open Go.RowKit

theorem info_dn : (Try.prog.info? 3).map (fun i => (i.zero, i.size, i.bytes)) = some (some (.int .i64 0), 1, 8) := by kernel_rfl
theorem info_di : (Try.prog.info? 2).map (fun i => (i.zero, i.size, i.bytes)) = some (some (.int .i64 0), 1, 8) := by kernel_rfl

/-- Six rows, each a window of three numbers. -/
def Rows3 (w : World) (v : Value) (M : Nat → Nat → Int) : Prop :=
  ∃ rb cap, v = .slice (some ⟨rb, 0, none⟩) 3 cap ∧ 3 ≤ cap ∧ cap ≤ maxLen ∧ rb < w.heap.size ∧ ∀ i, i < 3 → ∃ tb off rc, w.cell? ⟨rb, i, none⟩ = some (.slice (some ⟨tb, off, none⟩) 3 rc) ∧ tb < w.heap.size ∧ ∀ j, j < 3 → w.cell? ⟨tb, off + j, none⟩ = some (.int .i64 (M i j))
theorem Rows3.below {w w' : World} {v : Value} {M : Nat → Nat → Int} (h : Rows3 w v M) (hb : Below w.heap.size w w') : Rows3 w' v M := by
  obtain ⟨rb, cap, rfl, h1, h2, h3, h4⟩ := h
  refine ⟨rb, cap, rfl, h1, h2, Nat.lt_of_lt_of_le h3 hb.size, fun i hi => ?_⟩
  obtain ⟨tb, off, rc, c1, c2, c3⟩ := h4 i hi
  exact ⟨tb, off, rc, (hb.cell (p := ⟨rb, i, none⟩) h3).trans c1, Nat.lt_of_lt_of_le c2 hb.size, fun j hj => (hb.cell (p := ⟨tb, off + j, none⟩) c2).trans (c3 j hj)⟩
/-- The products on the way, the first one 1. -/
def prs (M : Nat → Nat → Int) : List Nat → List Int
  | [] => [1]
  | c :: K => prs M K ++ [wrap64 (prd M (c :: K))]
theorem prs_len (M : Nat → Nat → Int) (K : List Nat) : (prs M K).length = K.length + 1 := by
  induction K with
  | nil => rfl
  | cons c K ih => simp [prs, ih]
theorem prs_last (M : Nat → Nat → Int) (K : List Nat) : (prs M K).getD K.length 0 = wrap64 (prd M K) := by
  cases K with
  | nil => simp [prs, prd, wrap64]
  | cons c K => simp [prs, List.getD, prs_len]
theorem prs_take (M : Nat → Nat → Int) (c : Nat) (K : List Nat) : (prs M (c :: K)).take (K.length + 1) = prs M K := by
  simp [prs, ← prs_len M K]

/-- What holds at a label: 1 look, 2 take, 0 back. -/
def Stt (B : Nat) (M : Nat → Nat → Int) (tot : Int) (l m : Nat) (u3 u4 u5 u6 u7 : Value) (w wr : World) : Prop :=
  ∃ (K : List Nat) (col : Nat) (s : Int), K.length ≤ 3 ∧ col ≤ 3 ∧ (∀ c ∈ K, c < 3) ∧ u3 = .int .i64 (wrap64 s) ∧ u5 = .int .i64 col ∧
    wr.ownsRow B 3 1 u6 K.length (K.reverse.map fun c => Value.int .i64 ((c : Nat) : Int)) ∧ wr.ownsRow B 2 1 u7 (K.length + 1) ((prs M K).map (Value.int .i64)) ∧ Below w.heap.size w wr ∧
    ((l = 1 ∧ m = 2 * mst 3 K col + 1 ∧ s + prd M K * rest M 3 K.reverse col + pnd M 3 K = tot) ∨
     (l = 2 ∧ m = 2 * mst 3 K col ∧ K.length < 3 ∧ col < 3 ∧ u4 = .int .i64 (sgf K.reverse col (M K.length col)) ∧ s + prd M K * rest M 3 K.reverse col + pnd M 3 K = tot) ∨
     (l = 0 ∧ m = 2 * mst 3 K col ∧ s + pnd M 3 K = tot))
def Jd (rv : Value) (B : Nat) (M : Nat → Nat → Int) (tot : Int) (w : World) (l m : Nat) (a : Act) (wr : World) : Prop :=
  ∃ u1 u2 u3 u4 u5 u6 u7 u8 u9 u10 u11 u12 u13 u14 u15 u16 u17 u18 u19 u20 u21 u22 u23 u24 u25 u26 u27 u28 u29 u30 u31 u32 u33 u34 u35 u36 u37 u38 u39 u40 u41 u42 u43 u44 u45 u46 u47 u48 u49 u50 u51 u52 u53 u54 u55 u56 u57 u58 u59 u60 u61 u62 u63 u64 u65 u66 u67 u68 u69 u70 : Value, a = { tmps := #[rv, u1, u2, u3, u4, u5, u6, u7, u8, u9, u10, u11, u12, u13, u14, u15, u16, u17, u18, u19, u20, u21, u22, u23, u24, u25, u26, u27, u28, u29, u30, u31, u32, u33, u34, u35, u36, u37, u38, u39, u40, u41, u42, u43, u44, u45, u46, u47, u48, u49, u50, u51, u52, u53, u54, u55, u56, u57, u58, u59, u60, u61, u62, u63, u64, u65, u66, u67, u68, u69, u70], defers := [] } ∧ Stt B M tot l m u3 u4 u5 u6 u7 w wr

theorem owns_form {w : World} {B : Nat} {t : TypeId} {v : Value} {n : Nat} {xs : List Value} (h : w.ownsRow B t 1 v n xs) : ∃ a cap, v = .slice a n cap ∧ cap ≤ maxLen ∧ n ≤ cap ∧ (0 < n → ∃ g, a = some ⟨g, 0, none⟩ ∧ g < w.heap.size ∧ ∀ i x, xs[i]? = some x → w.cell? ⟨g, i, none⟩ = some x) := by
  rcases h.2 with ⟨rfl, rfl⟩ | ⟨g, cap, cur, rfl, hb, hg, hnc, hcm, hs, ht⟩
  · exact ⟨none, 0, rfl, by decide, Nat.le_refl _, fun h => absurd h (by omega)⟩
  · refine ⟨_, cap, rfl, hcm, hnc, fun _ => ⟨g, rfl, (Array.getElem?_eq_some_iff.1 hg).1, fun i x hx => ?_⟩⟩
    rw [← ht, List.getElem?_take] at hx
    split at hx
    · simp [World.cell?, hg]
      simpa using hx
    · cases hx
theorem owns_rdN {w : World} {B : Nat} {t : TypeId} {v : Value} {L : List Nat} (h : w.ownsRow B t 1 v L.length (L.map fun c => Value.int .i64 ((c : Nat) : Int))) : RdN w v L := by
  rcases h.2 with ⟨rfl, hn⟩ | ⟨g, cap, cur, rfl, hb, hg, hnc, hcm, hs, ht⟩
  · exact .inl ⟨rfl, List.length_eq_zero_iff.1 hn⟩
  · refine .inr ⟨g, cap, rfl, hnc, hcm, (Array.getElem?_eq_some_iff.1 hg).1, fun i hi => ?_⟩
    have hx : (L.map fun c => Value.int .i64 ((c : Nat) : Int))[i]? = some (.int .i64 ((L.getD i 0 : Nat) : Int)) := by simp [List.getD, hi]
    rw [← ht, List.getElem?_take] at hx
    split at hx
    · simp [World.cell?, hg]
      simpa using hx
    · cases hx
/-- One element less. -/
theorem owns_take {w : World} {B : Nat} {t : TypeId} {a : Option Addr} {n cap : Nat} {xs : List Value} (h : w.ownsRow B t 1 (.slice a (n + 1) cap) (n + 1) xs) : w.ownsRow B t 1 (.slice a n cap) n (xs.take n) := by
  obtain ⟨h1, h2⟩ := h
  refine ⟨by simp; omega, ?_⟩
  rcases h2 with ⟨h0, hn⟩ | ⟨g, cap', cur, he, hb, hg, hnc, hcm, hs, ht⟩
  · omega
  · cases he
    exact .inr ⟨g, cap, cur, rfl, hb, hg, by omega, hcm, hs, by rw [← ht, List.take_take]; congr 1; omega⟩

end Go.Proofs.Ytambbhldhhlfgaa.D3
