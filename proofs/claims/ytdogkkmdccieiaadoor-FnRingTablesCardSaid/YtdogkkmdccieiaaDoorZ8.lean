/- Several texts in one: XDt, XDt2. -/
import Derived.Test.YtdogkkmdccieiaaDoorZ7
import Derived.OwnWalk
import Derived.WalkMore

/- Chapter 3: determinants of the program: a search through the columns. -/
namespace Go.Proofs.YtdogkkmdccieiaaDoor.D3
open Go.RowKit

theorem info_dn : (Tryd.prog.info? 3).map (fun i => (i.zero, i.size, i.bytes)) = some (some (.int .i64 0), 1, 8) := by kernel_rfl
theorem info_di : (Tryd.prog.info? 2).map (fun i => (i.zero, i.size, i.bytes)) = some (some (.int .i64 0), 1, 8) := by kernel_rfl

/-- Six rows, each a window of three numbers. -/
def Rows3 (w : World) (v : Value) (M : Nat → Nat → Int) : Prop :=
  ∃ rb cap, v = .slice (some ⟨rb, 0, none⟩) 3 cap ∧ 3 ≤ cap ∧ cap ≤ maxLen ∧ rb < w.heap.size ∧ ∀ i, i < 3 → ∃ tb off rc, w.cell? ⟨rb, i, none⟩ = some (.slice (some ⟨tb, off, none⟩) 3 rc) ∧ tb < w.heap.size ∧ ∀ j, j < 3 → w.cell? ⟨tb, off + j, none⟩ = some (.int .i64 (M i j))
theorem Rows3.below {w w' : World} {v : Value} {M : Nat → Nat → Int} (h : Rows3 w v M) (hb : Below w.heap.size w w') : Rows3 w' v M := by
  obtain ⟨rb, cap, rfl, h1, h2, h3, h4⟩ := h
  refine ⟨rb, cap, rfl, h1, h2, Nat.lt_of_lt_of_le h3 hb.size, fun i hi => ?_⟩
  obtain ⟨tb, off, rc, c1, c2, c3⟩ := h4 i hi
  exact ⟨tb, off, rc, (hb.cell (p := ⟨rb, i, none⟩) h3).trans c1, Nat.lt_of_lt_of_le c2 hb.size, fun j hj => (hb.cell (p := ⟨tb, off + j, none⟩) c2).trans (c3 j hj)⟩
/-- The products on the way, the first one 1. -/
def prs (M : Nat → Nat → Int) : List Nat → List Int
  | [] => [1]
  | c :: K => prs M K ++ [wrap64 (prd M (c :: K))]
theorem prs_len (M : Nat → Nat → Int) (K : List Nat) : (prs M K).length = K.length + 1 := by
  induction K with
  | nil => rfl
  | cons c K ih => simp [prs, ih]
theorem prs_last (M : Nat → Nat → Int) (K : List Nat) : (prs M K).getD K.length 0 = wrap64 (prd M K) := by
  cases K with
  | nil => simp [prs, prd, wrap64]
  | cons c K => simp [prs, List.getD, prs_len]
theorem prs_take (M : Nat → Nat → Int) (c : Nat) (K : List Nat) : (prs M (c :: K)).take (K.length + 1) = prs M K := by
  simp [prs, ← prs_len M K]

/-- What holds at a label: 1 look, 2 take, 0 back. -/
def Stt (B : Nat) (M : Nat → Nat → Int) (tot : Int) (l m : Nat) (u3 u4 u5 u6 u7 : Value) (w wr : World) : Prop :=
  ∃ (K : List Nat) (col : Nat) (s : Int), K.length ≤ 3 ∧ col ≤ 3 ∧ (∀ c ∈ K, c < 3) ∧ u3 = .int .i64 (wrap64 s) ∧ u5 = .int .i64 col ∧
    wr.ownsRow B 3 1 u6 K.length (K.reverse.map fun c => Value.int .i64 ((c : Nat) : Int)) ∧ wr.ownsRow B 2 1 u7 (K.length + 1) ((prs M K).map (Value.int .i64)) ∧ Below w.heap.size w wr ∧
    ((l = 1 ∧ m = 2 * mst 3 K col + 1 ∧ s + prd M K * rest M 3 K.reverse col + pnd M 3 K = tot) ∨
     (l = 2 ∧ m = 2 * mst 3 K col ∧ K.length < 3 ∧ col < 3 ∧ u4 = .int .i64 (sgf K.reverse col (M K.length col)) ∧ s + prd M K * rest M 3 K.reverse col + pnd M 3 K = tot) ∨
     (l = 0 ∧ m = 2 * mst 3 K col ∧ s + pnd M 3 K = tot))
def Jd (rv : Value) (B : Nat) (M : Nat → Nat → Int) (tot : Int) (w : World) (l m : Nat) (a : Act) (wr : World) : Prop :=
  ∃ u1 u2 u3 u4 u5 u6 u7 u8 u9 u10 u11 u12 u13 u14 u15 u16 u17 u18 u19 u20 u21 u22 u23 u24 u25 u26 u27 u28 u29 u30 u31 u32 u33 u34 u35 u36 u37 u38 u39 u40 u41 u42 u43 u44 u45 u46 u47 u48 u49 u50 u51 u52 u53 u54 u55 u56 u57 u58 u59 u60 u61 u62 u63 u64 u65 u66 u67 u68 u69 u70 : Value, a = { tmps := #[rv, u1, u2, u3, u4, u5, u6, u7, u8, u9, u10, u11, u12, u13, u14, u15, u16, u17, u18, u19, u20, u21, u22, u23, u24, u25, u26, u27, u28, u29, u30, u31, u32, u33, u34, u35, u36, u37, u38, u39, u40, u41, u42, u43, u44, u45, u46, u47, u48, u49, u50, u51, u52, u53, u54, u55, u56, u57, u58, u59, u60, u61, u62, u63, u64, u65, u66, u67, u68, u69, u70], defers := [] } ∧ Stt B M tot l m u3 u4 u5 u6 u7 w wr

theorem owns_form {w : World} {B : Nat} {t : TypeId} {v : Value} {n : Nat} {xs : List Value} (h : w.ownsRow B t 1 v n xs) : ∃ a cap, v = .slice a n cap ∧ cap ≤ maxLen ∧ n ≤ cap ∧ (0 < n → ∃ g, a = some ⟨g, 0, none⟩ ∧ g < w.heap.size ∧ ∀ i x, xs[i]? = some x → w.cell? ⟨g, i, none⟩ = some x) := by
  rcases h.2 with ⟨rfl, rfl⟩ | ⟨g, cap, cur, rfl, hb, hg, hnc, hcm, hs, ht⟩
  · exact ⟨none, 0, rfl, by decide, Nat.le_refl _, fun h => absurd h (by omega)⟩
  · refine ⟨_, cap, rfl, hcm, hnc, fun _ => ⟨g, rfl, (Array.getElem?_eq_some_iff.1 hg).1, fun i x hx => ?_⟩⟩
    rw [← ht, List.getElem?_take] at hx
    split at hx
    · simp [World.cell?, hg]
      simpa using hx
    · cases hx
theorem owns_rdN {w : World} {B : Nat} {t : TypeId} {v : Value} {L : List Nat} (h : w.ownsRow B t 1 v L.length (L.map fun c => Value.int .i64 ((c : Nat) : Int))) : RdN w v L := by
  rcases h.2 with ⟨rfl, hn⟩ | ⟨g, cap, cur, rfl, hb, hg, hnc, hcm, hs, ht⟩
  · exact .inl ⟨rfl, List.length_eq_zero_iff.1 hn⟩
  · refine .inr ⟨g, cap, rfl, hnc, hcm, (Array.getElem?_eq_some_iff.1 hg).1, fun i hi => ?_⟩
    have hx : (L.map fun c => Value.int .i64 ((c : Nat) : Int))[i]? = some (.int .i64 ((L.getD i 0 : Nat) : Int)) := by simp [List.getD, hi]
    rw [← ht, List.getElem?_take] at hx
    split at hx
    · simp [World.cell?, hg]
      simpa using hx
    · cases hx
/-- One element less. -/
theorem owns_take {w : World} {B : Nat} {t : TypeId} {a : Option Addr} {n cap : Nat} {xs : List Value} (h : w.ownsRow B t 1 (.slice a (n + 1) cap) (n + 1) xs) : w.ownsRow B t 1 (.slice a n cap) n (xs.take n) := by
  obtain ⟨h1, h2⟩ := h
  refine ⟨by simp; omega, ?_⟩
  rcases h2 with ⟨h0, hn⟩ | ⟨g, cap', cur, he, hb, hg, hnc, hcm, hs, ht⟩
  · omega
  · cases he
    exact .inr ⟨g, cap, cur, rfl, hb, hg, by omega, hcm, hs, by rw [← ht, List.take_take]; congr 1; omega⟩

end Go.Proofs.YtdogkkmdccieiaaDoor.D3

/- Chapter 3: determinants of the program: the three labels. -/
namespace Go.Proofs.YtdogkkmdccieiaaDoor.D3
open Go.RowKit

def scp : Code → Code
  | .scope c => c
  | .seq _ b => scp b
  | c => c
noncomputable def lk (l : Nat) : Code := (findLabel (scp (Tryd.f100.body.getD .skip)) l).getD .skip
/-- What a pass ends with: the state at the next label. -/
theorem jd_mk {rv : Value} {B : Nat} {M : Nat → Nat → Int} {tot : Int} {w wr : World} {l m m' : Nat} {u1 u2 u3 u4 u5 u6 u7 u8 u9 u10 u11 u12 u13 u14 u15 u16 u17 u18 u19 u20 u21 u22 u23 u24 u25 u26 u27 u28 u29 u30 u31 u32 u33 u34 u35 u36 u37 u38 u39 u40 u41 u42 u43 u44 u45 u46 u47 u48 u49 u50 u51 u52 u53 u54 u55 u56 u57 u58 u59 u60 u61 u62 u63 u64 u65 u66 u67 u68 u69 u70 : Value} (hm : m' < m) (h : Stt B M tot l m' u3 u4 u5 u6 u7 w wr) :
    ∃ m', m' < m ∧ Jd rv B M tot w l m' { tmps := #[rv, u1, u2, u3, u4, u5, u6, u7, u8, u9, u10, u11, u12, u13, u14, u15, u16, u17, u18, u19, u20, u21, u22, u23, u24, u25, u26, u27, u28, u29, u30, u31, u32, u33, u34, u35, u36, u37, u38, u39, u40, u41, u42, u43, u44, u45, u46, u47, u48, u49, u50, u51, u52, u53, u54, u55, u56, u57, u58, u59, u60, u61, u62, u63, u64, u65, u66, u67, u68, u69, u70], defers := [] } wr := ⟨m', hm, u1, u2, u3, u4, u5, u6, u7, u8, u9, u10, u11, u12, u13, u14, u15, u16, u17, u18, u19, u20, u21, u22, u23, u24, u25, u26, u27, u28, u29, u30, u31, u32, u33, u34, u35, u36, u37, u38, u39, u40, u41, u42, u43, u44, u45, u46, u47, u48, u49, u50, u51, u52, u53, u54, u55, u56, u57, u58, u59, u60, u61, u62, u63, u64, u65, u66, u67, u68, u69, u70, rfl, h⟩
theorem cell_last {M : Nat → Nat → Int} {K : List Nat} {g : Nat} {wr : World} (h : ∀ i x, ((prs M K).map (Value.int .i64))[i]? = some x → wr.cell? ⟨g, i, none⟩ = some x) : wr.cell? ⟨g, K.length, none⟩ = some (.int .i64 (wrap64 (prd M K))) := by
  refine h _ _ ?_
  have hl := prs_len M K
  have hp := prs_last M K
  simp only [List.getD] at hp
  rw [List.getElem?_map]
  cases hx : (prs M K)[K.length]? with
  | none => rw [List.getElem?_eq_none_iff] at hx; omega
  | some x => rw [hx] at hp; simp at hp; simp [hp]

set_option maxRecDepth 1000000 in
set_option maxHeartbeats 4000000 in
theorem look_any (B : Nat) (M : Nat → Nat → Int) (tot : Int) (rv : Value) (w wr : World) (hB : B = w.heap.size) (HRW : Hid (Rows3 w rv M)) (HM : Hid (∀ i j, -1000000000000 ≤ M i j ∧ M i j ≤ 1000000000000)) (m : Nat) (u1 u2 u3 u4 u5 u6 u7 u8 u9 u10 u11 u12 u13 u14 u15 u16 u17 u18 u19 u20 u21 u22 u23 u24 u25 u26 u27 u28 u29 u30 u31 u32 u33 u34 u35 u36 u37 u38 u39 u40 u41 u42 u43 u44 u45 u46 u47 u48 u49 u50 u51 u52 u53 u54 u55 u56 u57 u58 u59 u60 u61 u62 u63 u64 u65 u66 u67 u68 u69 u70 : Value) (hS : Stt B M tot 1 m u3 u4 u5 u6 u7 w wr) (Q : Exit → Act → World → Prop) :
    Code.wp Tryd.prog (lk 1) (jmps (fun l' a' w' => ∃ m', m' < m ∧ Jd rv B M tot w l' m' a' w') Q) ⟨#[rv, u1, u2, u3, u4, u5, u6, u7, u8, u9, u10, u11, u12, u13, u14, u15, u16, u17, u18, u19, u20, u21, u22, u23, u24, u25, u26, u27, u28, u29, u30, u31, u32, u33, u34, u35, u36, u37, u38, u39, u40, u41, u42, u43, u44, u45, u46, u47, u48, u49, u50, u51, u52, u53, u54, u55, u56, u57, u58, u59, u60, u61, u62, u63, u64, u65, u66, u67, u68, u69, u70], []⟩ wr := by
  subst hB
  obtain ⟨K, col, s, hK, hcol, hKc, rfl, rfl, hT, hP, hU, hc⟩ := hS
  rcases hc with ⟨_, rfl, htot⟩ | ⟨h, _⟩ | ⟨h, _⟩
  · have hRW := HRW.out.below hU
    have hTN := owns_rdN (L := K.reverse) (by simpa using hT)
    have HT := hid hT; have HP := hid hP; have HU := hid hU; have HTOT := hid htot; have HKC := hid hKc; have HTN := hid hTN
    obtain ⟨a6, c6, rfl, h6m, h6n, _⟩ := owns_form hT
    obtain ⟨a7, c7, rfl, h7m, h7n, h7⟩ := owns_form hP
    obtain ⟨g7, rfl, hg7, h7c⟩ := h7 (by omega)
    have hlast := cell_last h7c
    obtain ⟨rb, cap, rfl, hr1, hr2, hrb, hrow⟩ := hRW
    have HROW := hid hrow
    clear hT hP hU htot hKc hTN h7 h7c hrow
    unfold maxLen at h6m h7m hr2
    conv => arg 2; whnf
    by_cases hf : K.length = 3
    · have hrest := rest_full (M := M) (n := 3) (K := K) (col := col) hf
      have HREST := hid hrest
      clear hrest
      rw [hf] at hlast
      go_wp2
      go_step3
      exact jd_mk (m' := 2 * mst 3 K col) (by omega) ⟨K, col, s + prd M K, hK, hcol, HKC.out, by simp only [wr_al, wr_ar], rfl, by simpa [hf] using HT.out, by simpa [hf] using HP.out, HU.out, .inr (.inr ⟨rfl, rfl, by have h := HTOT.out; rw [HREST.out] at h; omega⟩)⟩
    · have hK' : K.length < 3 := by omega
      by_cases hc : col = 3
      · subst hc
        have hrest := rest_end (M := M) (n := 3) (K := K) hK'
        have HREST := hid hrest
        clear hrest
        go_wp2
        go_step3
        exact jd_mk (m' := 2 * mst 3 K 3) (by omega) ⟨K, 3, s, hK, by omega, HKC.out, rfl, rfl, HT.out, HP.out, HU.out, .inr (.inr ⟨rfl, rfl, by have h := HTOT.out; rw [HREST.out, Int.mul_zero] at h; omega⟩)⟩
      · have hc' : col < 3 := by omega
        obtain ⟨tb, off, rc, r1, r2, r3⟩ := HROW.out K.length hK'
        have hcell := r3 col hc'
        have hx := HM.out K.length col
        have hstep := rest_step (M := M) hK' hc'
        have hmc := mst_col (K := K) hc'
        have HSTEP := hid hstep
        have HMC := hid hmc
        have HX := hid hx
        clear r3 hx hstep hmc
        have hLb : ∀ i, K.reverse.getD i 0 < 1000 := fun i => by
          simp only [List.getD]
          cases hi : K.reverse[i]? with
          | none => simp
          | some y => have := HKC.out y (by have := List.mem_of_getElem? hi; simpa using this); simp; omega
        have HLB := hid hLb
        clear hLb
        go_wp2_with fail
        refine (iSgf_any tb off rc _ K.reverse col _ _ hcell hc' HX.out HTN.out (by simp; omega) HLB.out).mono ?_
        rintro e w1 ⟨rfl, rfl⟩
        obtain ⟨f, hf0⟩ : ∃ f, f = sgf K.reverse col (M K.length col) := ⟨_, rfl⟩
        rw [← hf0]
        have HF := hid hf0
        clear hf0 hcell r1
        by_cases hz : f = 0
        · subst hz
          go_wp2
          go_step3
          exact jd_mk (m' := 2 * mst 3 K (col + 1) + 1) (by have := HMC.out; omega) ⟨K, col + 1, s, hK, by omega, HKC.out, rfl, by go_num, HT.out, HP.out, HU.out, .inl ⟨rfl, rfl, by have h := HTOT.out; rw [HSTEP.out, ← HF.out, Int.zero_mul, Int.zero_add] at h; exact h⟩⟩
        · have hz' : (f == 0) = false := by simpa using hz
          clear hz
          go_wp2
          go_step3
          exact jd_mk (m' := 2 * mst 3 K col) (by omega) ⟨K, col, s, hK, hcol, HKC.out, rfl, rfl, HT.out, HP.out, HU.out, .inr (.inl ⟨rfl, rfl, hK', hc', by rw [HF.out], HTOT.out⟩)⟩
  · omega
  · omega

/-- The code behind the first label. -/
noncomputable def lkb : Code := match lk 1 with | .seq _ b => b | c => c

set_option maxRecDepth 1000000 in
set_option maxHeartbeats 4000000 in
theorem lookb_any (B : Nat) (M : Nat → Nat → Int) (tot : Int) (rv : Value) (w wr : World) (hB : B = w.heap.size) (HRW : Hid (Rows3 w rv M)) (HM : Hid (∀ i j, -1000000000000 ≤ M i j ∧ M i j ≤ 1000000000000)) (m : Nat) (u1 u2 u3 u4 u5 u6 u7 u8 u9 u10 u11 u12 u13 u14 u15 u16 u17 u18 u19 u20 u21 u22 u23 u24 u25 u26 u27 u28 u29 u30 u31 u32 u33 u34 u35 u36 u37 u38 u39 u40 u41 u42 u43 u44 u45 u46 u47 u48 u49 u50 u51 u52 u53 u54 u55 u56 u57 u58 u59 u60 u61 u62 u63 u64 u65 u66 u67 u68 u69 u70 : Value) (hS : Stt B M tot 1 m u3 u4 u5 u6 u7 w wr) (Q : Exit → Act → World → Prop) :
    Code.wp Tryd.prog lkb (jmps (fun l' a' w' => ∃ m', m' < m ∧ Jd rv B M tot w l' m' a' w') Q) ⟨#[rv, u1, u2, u3, u4, u5, u6, u7, u8, u9, u10, u11, u12, u13, u14, u15, u16, u17, u18, u19, u20, u21, u22, u23, u24, u25, u26, u27, u28, u29, u30, u31, u32, u33, u34, u35, u36, u37, u38, u39, u40, u41, u42, u43, u44, u45, u46, u47, u48, u49, u50, u51, u52, u53, u54, u55, u56, u57, u58, u59, u60, u61, u62, u63, u64, u65, u66, u67, u68, u69, u70], []⟩ wr := by
  subst hB
  obtain ⟨K, col, s, hK, hcol, hKc, rfl, rfl, hT, hP, hU, hc⟩ := hS
  rcases hc with ⟨_, rfl, htot⟩ | ⟨h, _⟩ | ⟨h, _⟩
  · have hRW := HRW.out.below hU
    have hTN := owns_rdN (L := K.reverse) (by simpa using hT)
    have HT := hid hT; have HP := hid hP; have HU := hid hU; have HTOT := hid htot; have HKC := hid hKc; have HTN := hid hTN
    obtain ⟨a6, c6, rfl, h6m, h6n, _⟩ := owns_form hT
    obtain ⟨a7, c7, rfl, h7m, h7n, h7⟩ := owns_form hP
    obtain ⟨g7, rfl, hg7, h7c⟩ := h7 (by omega)
    have hlast := cell_last h7c
    obtain ⟨rb, cap, rfl, hr1, hr2, hrb, hrow⟩ := hRW
    have HROW := hid hrow
    clear hT hP hU htot hKc hTN h7 h7c hrow
    unfold maxLen at h6m h7m hr2
    conv => arg 2; whnf
    by_cases hf : K.length = 3
    · have hrest := rest_full (M := M) (n := 3) (K := K) (col := col) hf
      have HREST := hid hrest
      clear hrest
      rw [hf] at hlast
      go_wp2
      go_step3
      exact jd_mk (m' := 2 * mst 3 K col) (by omega) ⟨K, col, s + prd M K, hK, hcol, HKC.out, by simp only [wr_al, wr_ar], rfl, by simpa [hf] using HT.out, by simpa [hf] using HP.out, HU.out, .inr (.inr ⟨rfl, rfl, by have h := HTOT.out; rw [HREST.out] at h; omega⟩)⟩
    · have hK' : K.length < 3 := by omega
      by_cases hc : col = 3
      · subst hc
        have hrest := rest_end (M := M) (n := 3) (K := K) hK'
        have HREST := hid hrest
        clear hrest
        go_wp2
        go_step3
        exact jd_mk (m' := 2 * mst 3 K 3) (by omega) ⟨K, 3, s, hK, by omega, HKC.out, rfl, rfl, HT.out, HP.out, HU.out, .inr (.inr ⟨rfl, rfl, by have h := HTOT.out; rw [HREST.out, Int.mul_zero] at h; omega⟩)⟩
      · have hc' : col < 3 := by omega
        obtain ⟨tb, off, rc, r1, r2, r3⟩ := HROW.out K.length hK'
        have hcell := r3 col hc'
        have hx := HM.out K.length col
        have hstep := rest_step (M := M) hK' hc'
        have hmc := mst_col (K := K) hc'
        have HSTEP := hid hstep
        have HMC := hid hmc
        have HX := hid hx
        clear r3 hx hstep hmc
        have hLb : ∀ i, K.reverse.getD i 0 < 1000 := fun i => by
          simp only [List.getD]
          cases hi : K.reverse[i]? with
          | none => simp
          | some y => have := HKC.out y (by have := List.mem_of_getElem? hi; simpa using this); simp; omega
        have HLB := hid hLb
        clear hLb
        go_wp2_with fail
        refine (iSgf_any tb off rc _ K.reverse col _ _ hcell hc' HX.out HTN.out (by simp; omega) HLB.out).mono ?_
        rintro e w1 ⟨rfl, rfl⟩
        obtain ⟨f, hf0⟩ : ∃ f, f = sgf K.reverse col (M K.length col) := ⟨_, rfl⟩
        rw [← hf0]
        have HF := hid hf0
        clear hf0 hcell r1
        by_cases hz : f = 0
        · subst hz
          go_wp2
          go_step3
          exact jd_mk (m' := 2 * mst 3 K (col + 1) + 1) (by have := HMC.out; omega) ⟨K, col + 1, s, hK, by omega, HKC.out, rfl, by go_num, HT.out, HP.out, HU.out, .inl ⟨rfl, rfl, by have h := HTOT.out; rw [HSTEP.out, ← HF.out, Int.zero_mul, Int.zero_add] at h; exact h⟩⟩
        · have hz' : (f == 0) = false := by simpa using hz
          clear hz
          go_wp2
          go_step3
          exact jd_mk (m' := 2 * mst 3 K col) (by omega) ⟨K, col, s, hK, hcol, HKC.out, rfl, rfl, HT.out, HP.out, HU.out, .inr (.inl ⟨rfl, rfl, hK', hc', by rw [HF.out], HTOT.out⟩)⟩
  · omega
  · omega

theorem gr_grown2 {w w' w'' : World} {row : Option Nat} (h : Below w.heap.size w w') (hg : w'.grownBy w'' row) (hr : ∀ k, row = some k → w.heap.size ≤ k) : Below w.heap.size w w'' :=
  ⟨hg.os.trans h.os, by rw [hg.tape, h.tape], hg.output.trans h.output, Nat.le_trans h.size hg.size, fun k hk => (hg.block k (Nat.lt_of_lt_of_le hk h.size) (fun e => by have := hr k e.symm; omega)).trans (h.block k hk)⟩
theorem owns_ne {w : World} {B B' : Nat} {t t' : TypeId} {v v' : Value} {n n' : Nat} {xs xs' : List Value} (h : w.ownsRow B t 1 v n xs) (h' : w.ownsRow B' t' 1 v' n' xs') (ht : t ≠ t') : v.ownBlock = none ∨ v.ownBlock ≠ v'.ownBlock := by
  rcases h.2 with ⟨rfl, _⟩ | ⟨g, cap, cur, rfl, _, hg, _⟩
  · exact .inl rfl
  · right
    rcases h'.2 with ⟨rfl, _⟩ | ⟨g', cap', cur', rfl, _, hg', _⟩
    · simp [Value.ownBlock]
    · simp only [Value.ownBlock, ne_eq, Option.some.injEq]
      intro e
      subst e
      rw [hg] at hg'
      exact ht (by simpa using (by cases hg'; rfl : t = t'))

theorem owns_dr {w : World} {B : Nat} {t : TypeId} {v : Value} {n : Nat} {xs : List Value} (h : w.ownsRow B t 1 v n xs) (m : Nat) : (w.drewN m).ownsRow B t 1 v n xs :=
  h.kept (row := none) ⟨rfl, rfl, rfl, Nat.le_refl _, fun _ _ _ => rfl⟩ (by cases v.ownBlock <;> simp)
theorem tot_take {M : Nat → Nat → Int} {K : List Nat} {col : Nat} {s tot : Int} (hK : K.length < 3) (hc : col < 3) (h : s + prd M K * rest M 3 K.reverse col + pnd M 3 K = tot) : s + prd M (col :: K) * rest M 3 (col :: K).reverse 0 + pnd M 3 (col :: K) = tot := by
  have e1 : prd M (col :: K) = prd M K * sgf K.reverse col (M K.length col) := rfl
  have e2 : pnd M 3 (col :: K) = prd M K * rest M 3 K.reverse (col + 1) + pnd M 3 K := rfl
  rw [rest_step hK hc] at h
  rw [e1, e2, ← h, Int.mul_add, Int.mul_assoc]
  omega

set_option maxRecDepth 1000000 in
set_option maxHeartbeats 4000000 in
theorem take_any (B : Nat) (M : Nat → Nat → Int) (tot : Int) (rv : Value) (w wr : World) (hB : B = w.heap.size) (_ : Hid (Rows3 w rv M)) (_ : Hid (∀ i j, -1000000000000 ≤ M i j ∧ M i j ≤ 1000000000000)) (m : Nat) (u1 u2 u3 u4 u5 u6 u7 u8 u9 u10 u11 u12 u13 u14 u15 u16 u17 u18 u19 u20 u21 u22 u23 u24 u25 u26 u27 u28 u29 u30 u31 u32 u33 u34 u35 u36 u37 u38 u39 u40 u41 u42 u43 u44 u45 u46 u47 u48 u49 u50 u51 u52 u53 u54 u55 u56 u57 u58 u59 u60 u61 u62 u63 u64 u65 u66 u67 u68 u69 u70 : Value) (hS : Stt B M tot 2 m u3 u4 u5 u6 u7 w wr) (Q : Exit → Act → World → Prop) :
    Code.wp Tryd.prog (lk 2) (jmps (fun l' a' w' => ∃ m', m' < m ∧ Jd rv B M tot w l' m' a' w') Q) ⟨#[rv, u1, u2, u3, u4, u5, u6, u7, u8, u9, u10, u11, u12, u13, u14, u15, u16, u17, u18, u19, u20, u21, u22, u23, u24, u25, u26, u27, u28, u29, u30, u31, u32, u33, u34, u35, u36, u37, u38, u39, u40, u41, u42, u43, u44, u45, u46, u47, u48, u49, u50, u51, u52, u53, u54, u55, u56, u57, u58, u59, u60, u61, u62, u63, u64, u65, u66, u67, u68, u69, u70], []⟩ wr := by
  subst hB
  obtain ⟨K, col, s, hK, hcol, hKc, rfl, rfl, hT, hP, hU, hc⟩ := hS
  rcases hc with ⟨h, _⟩ | ⟨_, rfl, hK', hc', rfl, htot⟩ | ⟨h, _⟩
  · omega
  · have hne := owns_ne hT hP (by decide)
    have hmt := mst_take (n := 3) (K := K) hc' hK'
    have hsz := hU.size
    obtain ⟨i0, hi, hz0, hz1, hz2⟩ := info_parts info_di
    have HI := hid hi; have HZ0 := hid hz0; have HZ1 := hid hz1; have HZ2 := hid hz2
    obtain ⟨j0, ji, jz0, jz1, jz2⟩ := info_parts info_dn
    have JI := hid ji; have JZ0 := hid jz0; have JZ1 := hid jz1; have JZ2 := hid jz2
    clear hi hz0 hz1 hz2 ji jz0 jz1 jz2
    have HT := hid hT; have HP := hid hP; have HU := hid hU; have HTOT := hid htot; have HKC := hid hKc; have HNE := hid hne; have HMT := hid hmt
    obtain ⟨a6, c6, rfl, h6m, h6n, _⟩ := owns_form hT
    obtain ⟨a7, c7, rfl, h7m, h7n, h7⟩ := owns_form hP
    obtain ⟨g7, rfl, hg7, h7c⟩ := h7 (by omega)
    have hlast := cell_last h7c
    clear hT hP hU htot hKc hne hmt h7 h7c
    unfold maxLen at h6m h7m
    obtain ⟨f, hf0⟩ : ∃ f, f = sgf K.reverse col (M K.length col) := ⟨_, rfl⟩
    rw [← hf0]
    have HF := hid hf0
    clear hf0
    conv => arg 2; whnf
    go_wp2_with (at_builtin; refine wpList_append_own _ rfl _ _ 44 rfl w.heap.size 2 i0 (.int .i64 0) 1 8 Tryd.underlying44 HI.out HZ0.out HZ1.out HZ2.out rfl (by decide) _ _ _ rfl (HP.out.alloc _) ⟨wr.heap.size, 0, none⟩ 1 1 [.int .i64 (wrap64 (wrap64 (prd M K) * f))] rfl rfl ?a1 ?b1 ?c1 ?d1 ?e1 ?_)
    case b1 => first | (intro u hu; simp at hu; subst hu; rfl) | rfl | simp [Value.oneCell']
    case c1 => unfold maxLen; omega
    case d1 => omega
    case e1 => first | omega | (simp; omega)
    intro y1 z1 P1 hg1 _
    have T1 := (HT.out.alloc _).kept hg1 HNE.out
    have W1 := gr_grown2 (gr_alloc HU.out _) hg1 (fun j hj => by have := (HP.out.lt j hj).1; omega)
    have hsz1 := W1.size
    clear hg1 hlast HP
    have P1h := hid P1; have T1h := hid T1; have W1h := hid W1
    clear P1 T1 W1
    go_wp2_with (at_builtin; refine wpList_append_own _ rfl _ _ 139 rfl w.heap.size 3 j0 (.int .i64 0) 1 8 Tryd.underlying139 JI.out JZ0.out JZ1.out JZ2.out rfl (by decide) _ _ _ rfl (T1h.out.alloc _) ⟨z1.heap.size, 0, none⟩ 1 1 [.int .i64 col] rfl rfl ?a2 ?b2 ?c2 ?d2 ?e2 ?_)
    case a2 =>
      intro j u hj
      match j, hj with
      | 0, hj => simp at hj; subst hj; simp [Addr.add]
    case b2 => first | (intro u hu; simp at hu; subst hu; rfl) | rfl | simp [Value.oneCell']
    case c2 => unfold maxLen; omega
    case d2 => omega
    case e2 => first | omega | (simp; omega)
    intro y2 z2 T2 hg2 _
    have P2 := (P1h.out.alloc _).kept hg2 (owns_ne P1h.out T1h.out (by decide))
    have W2 := gr_grown2 (gr_alloc W1h.out _) hg2 (fun j hj => by have := (T1h.out.lt j hj).1; omega)
    clear hg2
    have P2h := hid P2; have T2h := hid T2; have W2h := hid W2
    clear P2 T2 W2
    go_wp2
    go_step3
    exact jd_mk (m' := 2 * mst 3 (col :: K) 0 + 1) (by have := HMT.out; omega) ⟨col :: K, 0, s, by simp; omega, by omega, (fun c hc => (List.mem_cons.1 hc).elim (fun h => by omega) (fun h => HKC.out c h)), rfl, rfl,
      by simpa using T2h.out, by have := P2h.out; simp only [prs, prd, List.map_append, List.map_cons, List.map_nil, List.length_cons]; rw [← HF.out, ← wr_ml]; exact this, W2h.out, .inl ⟨rfl, rfl, tot_take hK' hc' HTOT.out⟩⟩
  · omega

set_option maxRecDepth 1000000 in
set_option maxHeartbeats 4000000 in
theorem back_any (B : Nat) (M : Nat → Nat → Int) (tot : Int) (rv : Value) (w wr : World) (hB : B = w.heap.size) (_ : Hid (Rows3 w rv M)) (_ : Hid (∀ i j, -1000000000000 ≤ M i j ∧ M i j ≤ 1000000000000)) (m : Nat) (u1 u2 u3 u4 u5 u6 u7 u8 u9 u10 u11 u12 u13 u14 u15 u16 u17 u18 u19 u20 u21 u22 u23 u24 u25 u26 u27 u28 u29 u30 u31 u32 u33 u34 u35 u36 u37 u38 u39 u40 u41 u42 u43 u44 u45 u46 u47 u48 u49 u50 u51 u52 u53 u54 u55 u56 u57 u58 u59 u60 u61 u62 u63 u64 u65 u66 u67 u68 u69 u70 : Value) (hS : Stt B M tot 0 m u3 u4 u5 u6 u7 w wr)  :
    Code.wp Tryd.prog (lk 0) (jmps (fun l' a' w' => ∃ m', m' < m ∧ Jd rv B M tot w l' m' a' w') (bodyPost Tryd.prog Tryd.f100 fun e w' => e = .returned (.int .i64 (wrap64 tot)) ∧ Below w.heap.size w w')) ⟨#[rv, u1, u2, u3, u4, u5, u6, u7, u8, u9, u10, u11, u12, u13, u14, u15, u16, u17, u18, u19, u20, u21, u22, u23, u24, u25, u26, u27, u28, u29, u30, u31, u32, u33, u34, u35, u36, u37, u38, u39, u40, u41, u42, u43, u44, u45, u46, u47, u48, u49, u50, u51, u52, u53, u54, u55, u56, u57, u58, u59, u60, u61, u62, u63, u64, u65, u66, u67, u68, u69, u70], []⟩ wr := by
  subst hB
  obtain ⟨K, col, s, hK, hcol, hKc, rfl, rfl, hT, hP, hU, hc⟩ := hS
  rcases hc with ⟨h, _⟩ | ⟨h, _⟩ | ⟨_, rfl, htot⟩
  · omega
  · omega
  · cases K with
    | nil =>
      have e : s = tot := by simpa [pnd] using htot
      subst e
      have HU := hid hU
      obtain ⟨a6, c6, rfl, h6m, h6n, _⟩ := owns_form hT
      clear hT hP hU htot hKc
      conv => arg 2; whnf
      go_wp2
      simp only [jmps]
      go_ret
      exact ⟨rfl, HU.out⟩
    | cons c K =>
      have hc6 : c < 3 := hKc c (by simp)
      have hmb := mst_back (n := 3) (K := K) (c := c) hcol hc6
      have htt : s + prd M K * rest M 3 K.reverse (c + 1) + pnd M 3 K = tot := by have e2 : pnd M 3 (c :: K) = prd M K * rest M 3 K.reverse (c + 1) + pnd M 3 K := rfl; rw [e2] at htot; omega
      obtain ⟨a6, c6, rfl, h6m, h6n, h6⟩ := owns_form hT
      obtain ⟨a7, c7, rfl, h7m, h7n, h7⟩ := owns_form hP
      obtain ⟨g6, rfl, hg6, h6c⟩ := h6 (by simp)
      obtain ⟨g7, rfl, hg7, _⟩ := h7 (by omega)
      have hlast := h6c K.length (.int .i64 c) (by simp)
      have T2 := owns_take (n := K.length) (by simpa using hT)
      have P2 := owns_take (n := K.length + 1) (by simpa using hP)
      have HT := hid T2; have HP := hid P2; have HU := hid hU; have HTOT := hid htt; have HKC := hid hKc; have HMB := hid hmb
      clear T2 P2 hT hP hU htot htt hKc h6 h7 h6c hmb
      simp only [List.length_cons] at *
      unfold maxLen at h6m h7m
      conv => arg 2; whnf
      go_wp2_with fail
      go_quiet (fail)
      go_wp2
      go_step3
      exact jd_mk (m' := 2 * mst 3 K (c + 1) + 1) (by have := HMB.out; omega) ⟨K, c + 1, s, by omega, by omega, fun x hx => HKC.out x (by simp [hx]), rfl, by go_num,
        owns_dr (by simpa using HT.out) _, owns_dr (by have := HP.out; rw [← List.map_take, prs_take] at this; exact this) _, gr_drewN HU.out _, .inl ⟨rfl, rfl, HTOT.out⟩⟩

end Go.Proofs.YtdogkkmdccieiaaDoor.D3
