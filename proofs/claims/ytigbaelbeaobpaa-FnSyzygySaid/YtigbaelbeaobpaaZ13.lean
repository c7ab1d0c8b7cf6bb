/- Several texts in one: XSgf, XGoto, XDet. -/
import Derived.Test.YtigbaelbeaobpaaZ12
import Derived.Test.YtigbaelbeaobpaaC1
import Derived.Test.YtigbaelbeaobpaaZ1
import Derived.ScopeJumps
import Derived.OwnWalk
import Derived.WalkMore

/- Chapter 3: the number of a row in a column, with its sign. -/
namespace Go.Proofs.Ytigbaelbeaobpaa
open Go.RowKit

/-- A slice of small counts. -/
def RdN (w : World) (v : Value) (L : List Nat) : Prop :=
  (v = .slice none 0 0 ∧ L = []) ∨ ∃ b cap, v = .slice (some ⟨b, 0, none⟩) L.length cap ∧ L.length ≤ cap ∧ cap ≤ maxLen ∧ b < w.heap.size ∧ ∀ i, i < L.length → w.cell? ⟨b, i, none⟩ = some (.int .i64 ((L.getD i 0 : Nat) : Int))
theorem drop_getD {L : List Nat} {k : Nat} (h : k < L.length) : L.drop k = L.getD k 0 :: L.drop (k + 1) := by
  rw [List.drop_eq_getElem_cons h]
  simp [List.getD, h]

set_option maxRecDepth 100000 in
set_option maxHeartbeats 1000000 in
theorem iSgf_any {n : Nat} (tb off cap : Nat) (tv : Value) (L : List Nat) (c : Nat) (x : Int) (w : World) (hrow : w.cell? ⟨tb, off + c, none⟩ = some (.int .i64 x)) (hc : c < n) (hx : -1000000000000 ≤ x ∧ x ≤ 1000000000000) (hT : RdN w tv L) (hL : L.length ≤ 6) (hLb : ∀ i, L.getD i 0 < 1000) :
    Calls Try.prog 69 #[.slice (some ⟨tb, off, none⟩) n cap, tv, .int .i64 c] w fun e w' => e = .returned (.int .i64 (sgf L c x)) ∧ w = w' := by
  rcases hT with ⟨rfl, rfl⟩ | ⟨b, cap', rfl, hlc, hcm, hb, hcells⟩
  · go_enter Try.func69, Try.ntmps69
    go_wp2
    refine wp_loop_rounds 1 ?_
    rw [rounds_succ]; go_wp2
    go_ret
    exact ⟨rfl, rfl⟩
  · have HC := hid hcells
    clear hcells
    unfold maxLen at hcm
    go_enter Try.func69, Try.ntmps69
    go_wp2
    go_loop [7, 16] (fun f i => ∃ (k : Nat) (y : Int), k ≤ L.length ∧ i = .int .i64 k ∧ f = .int .i64 y ∧ -1000000000000 ≤ y ∧ y ≤ 1000000000000 ∧ sgf (L.drop k) c y = sgf L c x) (fun _ i => L.length - (intOf i).toNat)
    case atStart => exact ⟨0, x, Nat.zero_le _, rfl, rfl, hx.1, hx.2, by simp⟩
    case round =>
      obtain ⟨k, y, hk, rfl, rfl, hy1, hy2, hs⟩ := hrel
      by_cases hlt : k < L.length
      · have hcell := HC.out k hlt
        have hdr := drop_getD hlt
        have htb := hLb k
        generalize L.getD k 0 = t at hcell hdr htb
        rw [hdr] at hs
        simp only [sgf] at hs
        clear hdr
        by_cases e1 : t = c
        · subst e1
          simp only [if_true] at hs
          have HS := hid hs
          clear hs
          go_wp2
          go_ret
          exact ⟨ret_int HS.out, rfl⟩
        · simp only [e1, if_false] at hs
          by_cases e2 : c < t
          · simp only [e2, if_true] at hs
            have HS := hid hs
            clear hs
            go_wp2
            go_round
            case rel => exact ⟨k + 1, -y, by omega, by go_num, by go_num, by omega, by omega, HS.out⟩
            case measure => simp [intOf]; omega
          · simp only [e2, if_false] at hs
            have HS := hid hs
            clear hs
            go_wp2
            go_round
            case rel => exact ⟨k + 1, y, by omega, by go_num, rfl, by omega, by omega, HS.out⟩
            case measure => simp [intOf]; omega
      · have e : L.drop k = [] := List.drop_eq_nil_of_le (by omega)
        rw [e] at hs
        simp only [sgf] at hs
        have HS := hid hs
        clear hs e
        go_wp2
        go_ret
        exact ⟨ret_int HS.out, rfl⟩

end Go.Proofs.Ytigbaelbeaobpaa

/- A scope in which the run jumps to and fro between labels. No Go function in sight. -/
namespace Go.Proofs.Ytigbaelbeaobpaa
open Go.RowKit

/-- As Q; by a goto to a label: J of it. -/
def jmps (J : Nat → Act → World → Prop) (Q : Exit → Act → World → Prop) : Exit → Act → World → Prop
  | .goto l, a, w => J l a w
  | e, a, w => Q e a w

theorem wp_scope_machine {P : Program} {a : Act} {w : World} {Q : Exit → Act → World → Prop} {c : Code} (J : Nat → Nat → Act → World → Prop)
    (first : c.wp P (jmps (fun l a' w' => ∃ m, J l m a' w') Q) a w)
    (pass : ∀ l m a w, J l m a w → ∃ rest, findLabel c l = some rest ∧ rest.wp P (jmps (fun l' a' w' => ∃ m', m' < m ∧ J l' m' a' w') Q) a w) : (Code.scope c).wp P Q a w := by
  intro b k cs
  have key : ∀ m l a w, J l m a w → ∃ rest, findLabel c l = some rest ∧ ∃ e a' w', Q e a' w' ∧ Arrives P (lone (b.at a (.code rest :: .inScope c :: k)) cs w) b k cs e a' w' := by
    intro m
    induction m using Nat.strongRecOn with
    | _ m ih =>
      intro l a w hJ
      obtain ⟨rest, hf, hp⟩ := pass l m a w hJ
      refine ⟨rest, hf, ?_⟩
      obtain ⟨e, a₁, w₁, hq, harr⟩ := hp b (.inScope c :: k) cs
      cases e with
      | normal => exact ⟨.normal, a₁, w₁, hq, Steps.trans harr (.one step_inScope)⟩
      | exit id => exact ⟨.exit id, a₁, w₁, hq, fun k' hk => harr k' (by simp [exitTo, hk])⟩
      | goto l' =>
        obtain ⟨m', hlt, hJ'⟩ := hq
        obtain ⟨rest₂, hf₂, e₂, a₂, w₂, hq₂, harr₂⟩ := ih m' hlt l' a₁ w₁ hJ'
        have hg : gotoIn l' (.inScope c :: k) = some (.code rest₂ :: .inScope c :: k) := by simp [gotoIn, hf₂]
        exact ⟨e₂, a₂, w₂, hq₂, .of_steps (harr _ hg) harr₂⟩
      | ret => exact ⟨_, a₁, w₁, hq, harr⟩
      | panic ch => exact ⟨_, a₁, w₁, hq, harr⟩
      | outgrown => exact ⟨_, a₁, w₁, hq, harr⟩
  obtain ⟨e, a₁, w₁, hq, harr⟩ := first b (.inScope c :: k) cs
  cases e with
  | normal => exact ⟨.normal, a₁, w₁, hq, .head step_scope (Steps.trans harr (.one step_inScope))⟩
  | exit id => exact ⟨.exit id, a₁, w₁, hq, fun k' hk => .head step_scope (harr k' (by simp [exitTo, hk]))⟩
  | goto l' =>
    obtain ⟨m', hJ'⟩ := hq
    obtain ⟨rest₂, hf₂, e₂, a₂, w₂, hq₂, harr₂⟩ := key m' l' a₁ w₁ hJ'
    have hg : gotoIn l' (.inScope c :: k) = some (.code rest₂ :: .inScope c :: k) := by simp [gotoIn, hf₂]
    exact ⟨e₂, a₂, w₂, hq₂, .of_steps (.head step_scope (harr _ hg)) harr₂⟩
  | ret => exact ⟨_, a₁, w₁, hq, .of_steps (.one step_scope) harr⟩
  | panic ch => exact ⟨_, a₁, w₁, hq, .of_steps (.one step_scope) harr⟩
  | outgrown => exact ⟨_, a₁, w₁, hq, .of_steps (.one step_scope) harr⟩

end Go.Proofs.Ytigbaelbeaobpaa

/- Chapter 3: determinants of the program: a search through the columns. -/
namespace Go.Proofs.Ytigbaelbeaobpaa
open Go.RowKit

theorem info_dn : (Try.prog.info? 3).map (fun i => (i.zero, i.size, i.bytes)) = some (some (.int .i64 0), 1, 8) := by kernel_rfl
theorem info_di : (Try.prog.info? 2).map (fun i => (i.zero, i.size, i.bytes)) = some (some (.int .i64 0), 1, 8) := by kernel_rfl

/-- Six rows, each a window of six numbers. -/
def Rows6 (w : World) (v : Value) (M : Nat → Nat → Int) : Prop :=
  ∃ rb cap, v = .slice (some ⟨rb, 0, none⟩) 6 cap ∧ 6 ≤ cap ∧ cap ≤ maxLen ∧ rb < w.heap.size ∧ ∀ i, i < 6 → ∃ tb off rc, w.cell? ⟨rb, i, none⟩ = some (.slice (some ⟨tb, off, none⟩) 6 rc) ∧ tb < w.heap.size ∧ ∀ j, j < 6 → w.cell? ⟨tb, off + j, none⟩ = some (.int .i64 (M i j))
theorem Rows6.below {w w' : World} {v : Value} {M : Nat → Nat → Int} (h : Rows6 w v M) (hb : Below w.heap.size w w') : Rows6 w' v M := by
  obtain ⟨rb, cap, rfl, h1, h2, h3, h4⟩ := h
  refine ⟨rb, cap, rfl, h1, h2, Nat.lt_of_lt_of_le h3 hb.size, fun i hi => ?_⟩
  obtain ⟨tb, off, rc, c1, c2, c3⟩ := h4 i hi
  exact ⟨tb, off, rc, (hb.cell (p := ⟨rb, i, none⟩) h3).trans c1, Nat.lt_of_lt_of_le c2 hb.size, fun j hj => (hb.cell (p := ⟨tb, off + j, none⟩) c2).trans (c3 j hj)⟩
/-- The products on the way, the first one 1. -/
def prs (M : Nat → Nat → Int) : List Nat → List Int
  | [] => [1]
  | c :: K => prs M K ++ [wrap64 (prd M (c :: K))]
theorem prs_len (M : Nat → Nat → Int) (K : List Nat) : (prs M K).length = K.length + 1 := by
  induction K with
  | nil => rfl
  | cons c K ih => simp [prs, ih]
theorem prs_last (M : Nat → Nat → Int) (K : List Nat) : (prs M K).getD K.length 0 = wrap64 (prd M K) := by
  cases K with
  | nil => simp [prs, prd, wrap64]
  | cons c K => simp [prs, List.getD, prs_len]
theorem prs_take (M : Nat → Nat → Int) (c : Nat) (K : List Nat) : (prs M (c :: K)).take (K.length + 1) = prs M K := by
  simp [prs, ← prs_len M K]

/-- What holds at a label: 1 look, 2 take, 0 back. -/
def Stt (B : Nat) (M : Nat → Nat → Int) (tot : Int) (l m : Nat) (u3 u4 u5 u6 u7 : Value) (w wr : World) : Prop :=
  ∃ (K : List Nat) (col : Nat) (s : Int), K.length ≤ 6 ∧ col ≤ 6 ∧ (∀ c ∈ K, c < 6) ∧ u3 = .int .i64 (wrap64 s) ∧ u5 = .int .i64 col ∧
    wr.ownsRow B 3 1 u6 K.length (K.reverse.map fun c => Value.int .i64 ((c : Nat) : Int)) ∧ wr.ownsRow B 2 1 u7 (K.length + 1) ((prs M K).map (Value.int .i64)) ∧ Below w.heap.size w wr ∧
    ((l = 1 ∧ m = 2 * mst 6 K col + 1 ∧ s + prd M K * rest M 6 K.reverse col + pnd M 6 K = tot) ∨
     (l = 2 ∧ m = 2 * mst 6 K col ∧ K.length < 6 ∧ col < 6 ∧ u4 = .int .i64 (sgf K.reverse col (M K.length col)) ∧ s + prd M K * rest M 6 K.reverse col + pnd M 6 K = tot) ∨
     (l = 0 ∧ m = 2 * mst 6 K col ∧ s + pnd M 6 K = tot))
def Jd (rv : Value) (B : Nat) (M : Nat → Nat → Int) (tot : Int) (w : World) (l m : Nat) (a : Act) (wr : World) : Prop :=
  ∃ u1 u2 u3 u4 u5 u6 u7 u8 u9 u10 u11 u12 u13 u14 u15 u16 u17 u18 u19 u20 u21 u22 u23 u24 u25 u26 u27 u28 u29 u30 u31 u32 u33 u34 u35 u36 u37 u38 u39 u40 u41 u42 u43 u44 u45 u46 u47 u48 u49 u50 u51 u52 u53 u54 u55 u56 u57 u58 u59 u60 u61 u62 u63 u64 u65 u66 u67 u68 u69 u70 : Value, a = { tmps := #[rv, u1, u2, u3, u4, u5, u6, u7, u8, u9, u10, u11, u12, u13, u14, u15, u16, u17, u18, u19, u20, u21, u22, u23, u24, u25, u26, u27, u28, u29, u30, u31, u32, u33, u34, u35, u36, u37, u38, u39, u40, u41, u42, u43, u44, u45, u46, u47, u48, u49, u50, u51, u52, u53, u54, u55, u56, u57, u58, u59, u60, u61, u62, u63, u64, u65, u66, u67, u68, u69, u70], defers := [] } ∧ Stt B M tot l m u3 u4 u5 u6 u7 w wr

theorem owns_form {w : World} {B : Nat} {t : TypeId} {v : Value} {n : Nat} {xs : List Value} (h : w.ownsRow B t 1 v n xs) : ∃ a cap, v = .slice a n cap ∧ cap ≤ maxLen ∧ n ≤ cap ∧ (0 < n → ∃ g, a = some ⟨g, 0, none⟩ ∧ g < w.heap.size ∧ ∀ i x, xs[i]? = some x → w.cell? ⟨g, i, none⟩ = some x) := by
  rcases h.2 with ⟨rfl, rfl⟩ | ⟨g, cap, cur, rfl, hb, hg, hnc, hcm, hs, ht⟩
  · exact ⟨none, 0, rfl, by decide, Nat.le_refl _, fun h => absurd h (by omega)⟩
  · refine ⟨_, cap, rfl, hcm, hnc, fun _ => ⟨g, rfl, (Array.getElem?_eq_some_iff.1 hg).1, fun i x hx => ?_⟩⟩
    rw [← ht, List.getElem?_take] at hx
    split at hx
    · simp [World.cell?, hg]
      simpa using hx
    · cases hx
theorem owns_rdN {w : World} {B : Nat} {t : TypeId} {v : Value} {L : List Nat} (h : w.ownsRow B t 1 v L.length (L.map fun c => Value.int .i64 ((c : Nat) : Int))) : RdN w v L := by
  rcases h.2 with ⟨rfl, hn⟩ | ⟨g, cap, cur, rfl, hb, hg, hnc, hcm, hs, ht⟩
  · exact .inl ⟨rfl, List.length_eq_zero_iff.1 hn⟩
  · refine .inr ⟨g, cap, rfl, hnc, hcm, (Array.getElem?_eq_some_iff.1 hg).1, fun i hi => ?_⟩
    have hx : (L.map fun c => Value.int .i64 ((c : Nat) : Int))[i]? = some (.int .i64 ((L.getD i 0 : Nat) : Int)) := by simp [List.getD, hi]
    rw [← ht, List.getElem?_take] at hx
    split at hx
    · simp [World.cell?, hg]
      simpa using hx
    · cases hx
/-- One element less. -/
theorem owns_take {w : World} {B : Nat} {t : TypeId} {a : Option Addr} {n cap : Nat} {xs : List Value} (h : w.ownsRow B t 1 (.slice a (n + 1) cap) (n + 1) xs) : w.ownsRow B t 1 (.slice a n cap) n (xs.take n) := by
  obtain ⟨h1, h2⟩ := h
  refine ⟨by simp; omega, ?_⟩
  rcases h2 with ⟨h0, hn⟩ | ⟨g, cap', cur, he, hb, hg, hnc, hcm, hs, ht⟩
  · omega
  · cases he
    exact .inr ⟨g, cap, cur, rfl, hb, hg, by omega, hcm, hs, by rw [← ht, List.take_take]; congr 1; omega⟩

end Go.Proofs.Ytigbaelbeaobpaa
