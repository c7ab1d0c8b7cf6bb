/- Chapter 3: the model's determinants: rows in the making, rows to be read. -/
import Derived.Test.YtigbaelbeaobpaaOwn
import Derived.Test.YtigbaelbeaobpaaZ12
import Derived.Deep.AppendLies
namespace Go.Proofs.Ytigbaelbeaobpaa
open Go.RowKit

theorem sumc_snoc (g : Nat → Int) (k : Nat) : ∀ col, sumc g col (k + 1) = sumc g col k + g (col + k) := by
  induction k with
  | zero => intro col; simp [sumc]
  | succ k ih =>
    intro col
    have h := ih (col + 1)
    rw [sumc, h, sumc]
    rw [show col + 1 + k = col + (k + 1) by omega]
    omega
/-- The terms of the sum. -/
def dtm (n : Nat) (M : Nat → Nat → Int) (k : Nat) : Int := alt k (M 0 k * DL n (mnr M k))
theorem DL_s (n : Nat) (M : Nat → Nat → Int) : DL (n + 1) M = sumc (dtm n M) 0 (n + 1) := rfl
theorem dtm_0 {n : Nat} {M : Nat → Nat → Int} {k : Nat} (h : M 0 k = 0) : dtm n M k = 0 := by unfold dtm alt; rw [h]; split <;> simp

section
variable {P : Program} {w : World}
/-- append where the row that comes has elements: its value is a slice of its own. -/
theorem step_append_pos {ops : Array Oper} {o : Oper} {a : Act} {K : Act → World → Prop} {Q : Exit → Act → World → Prop} {E : Prop} (hgd : o.guard = none) (s x : Operand) (t : TypeId)
    (ho : o.op = .call { callee := .builtin .append, args := #[s, x], argTypes := #[t, t] })
    (base : Nat) (e : TypeId) (i : TypeInfo) (z : Value) (size bytes : Nat) (ht : P.underlying t = some (.slice e)) (hi : P.info? e = some i) (hz : i.zero = some z)
    (hsize : i.size = size) (hby : i.bytes = bytes) (hzs : z.cells.size = size) (hsz : 0 < size)
    (v : Value) (n : Nat) (xs : List Value) (hs : a.eval s = v) (hown : w.ownsRow base e size v n xs)
    (ad : Addr) (m c : Nat) (news : List Value) (hx : a.eval x = .slice (some ad) m c) (hl : news.length = m * size) (hnews : ∀ j u, news[j]? = some u → w.cell? (ad.add j) = some u) (h1 : ∀ u ∈ news, u.oneCell' = true)
    (tot : Nat) (htot : n + m = tot) (hm : 0 < tot) (h63 : tot ≤ maxLen) (hbytes : tot * bytes ≤ 140737488355328) (hbase : base ≤ w.heap.size)
    (h : ∀ g cap w', w'.ownsRow base e size (.slice (some ⟨g, 0, none⟩) tot cap) tot (xs ++ news) → w.grownBy w' v.ownBlock → K (a.put o.dst (.slice (some ⟨g, 0, none⟩) tot cap)) w') :
    if Region.wanted o (yielded ops a.tmps) = true then Oper.wp P o a w K Q else E := by
  subst htot
  have hw : Region.wanted o (yielded ops a.tmps) = true := by simp [Region.wanted, hgd]
  rw [if_pos hw]
  obtain ⟨v', w', hr, h2, h3, _, _⟩ := run_append_own_at (P := P) w base t o.type e i z size bytes ht hi hz hsize hby hzs hsz v n xs hown ad m c news hl hnews h1 h63 hbytes hbase
  obtain ⟨g, cap, rfl, _, _⟩ := h2.form (by omega)
  unfold Oper.wp execOp
  simp only [ho, resolve, invoke, builtin, Sem.run_bind, Sem.run_pure, Result.andThen_ok, List.map_toArray, List.map_cons, List.map_nil, hs, hx, hr]
  exact h g cap w' h2 h3
end

/-- n rows of n numbers, to be read. -/
def RdR (n : Nat) (w : World) (v : Value) (M : Nat → Nat → Int) : Prop :=
  (n = 0 ∧ ∃ a cap, v = .slice a 0 cap) ∨ ∃ b cap, v = .slice (some ⟨b, 0, none⟩) n cap ∧ n ≤ cap ∧ cap ≤ maxLen ∧ b < w.heap.size ∧
    ∀ i, i < n → ∃ g c, w.cell? ⟨b, i, none⟩ = some (.slice (some ⟨g, 0, none⟩) n c) ∧ n ≤ c ∧ c ≤ maxLen ∧ g < w.heap.size ∧ ∀ j, j < n → w.cell? ⟨g, j, none⟩ = some (.int .i64 (M i j))
theorem RdR.below {n : Nat} {w w' : World} {v : Value} {M : Nat → Nat → Int} (h : RdR n w v M) (hb : Below w.heap.size w w') : RdR n w' v M := by
  rcases h with h | ⟨b, cap, h1, h2, h3, h4, h5⟩
  · exact .inl h
  · refine .inr ⟨b, cap, h1, h2, h3, Nat.lt_of_lt_of_le h4 hb.size, fun i hi => ?_⟩
    obtain ⟨g, c, g1, g2, g3, g4, g5⟩ := h5 i hi
    exact ⟨g, c, (hb.cell (p := ⟨b, i, none⟩) h4).trans g1, g2, g3, Nat.lt_of_lt_of_le g4 hb.size, fun j hj => (hb.cell (p := ⟨g, j, none⟩) g4).trans (g5 j hj)⟩
/-- Rows in the making: cnt rows of m numbers each, all laid from B on. -/
def RwV (B : Nat) (w : World) (v : Value) (cnt m : Nat) (M : Nat → Nat → Int) : Prop :=
  ∃ hs : List Value, hs.length = cnt ∧ w.ownsRow B 28 1 v cnt hs ∧ ∀ i h, hs[i]? = some h → ∃ g c, h = .slice (some ⟨g, 0, none⟩) m c ∧ w.ownsRow B 2 1 h m (nums m (M i))
theorem owns_nx {w w' : World} {B : Nat} {t : TypeId} {s : Nat} {v : Value} {n : Nat} {xs : List Value} (h : w.ownsRow B t s v n xs) (hb : Below w.heap.size w w') : w'.ownsRow B t s v n xs := by
  refine ⟨h.1, ?_⟩
  rcases h.2 with h | ⟨g, cap, cur, h1, h2, h3, h4⟩
  · exact .inl h
  · exact .inr ⟨g, cap, cur, h1, h2, (hb.block g (Array.getElem?_eq_some_iff.1 h3).1).trans h3, h4⟩
theorem RwV.next {B : Nat} {w w' : World} {v : Value} {cnt m : Nat} {M : Nat → Nat → Int} (h : RwV B w v cnt m M) (hb : Below w.heap.size w w') : RwV B w' v cnt m M := by
  obtain ⟨hs, h1, h2, h3⟩ := h
  exact ⟨hs, h1, owns_nx h2 hb, fun i x hx => by obtain ⟨g, c, e, h4⟩ := h3 i x hx; exact ⟨g, c, e, owns_nx h4 hb⟩⟩
theorem RwV.empty (B : Nat) (w : World) (m : Nat) (M : Nat → Nat → Int) (hB : B ≤ w.heap.size) : RwV B (w.alloc (.cells #[] 28)) (.slice (some ⟨w.heap.size, 0, none⟩) 0 0) 0 m M :=
  ⟨[], rfl, ⟨by simp, .inr ⟨w.heap.size, 0, #[], rfl, hB, heap_alloc_new w _, Nat.le_refl _, by decide, by simp, by simp⟩⟩, fun i h hx => by simp at hx⟩
theorem own_mono {w : World} {B B' : Nat} {t : TypeId} {s : Nat} {v : Value} {n : Nat} {xs : List Value} (h : w.ownsRow B t s v n xs) (hB : B' ≤ B) : w.ownsRow B' t s v n xs := by
  refine ⟨h.1, ?_⟩
  rcases h.2 with h | ⟨g, cap, cur, h1, h2, h3⟩
  · exact .inl h
  · exact .inr ⟨g, cap, cur, h1, Nat.le_trans hB h2, h3⟩
theorem own_apart {w : World} {B B' : Nat} {t t' : TypeId} {s s' : Nat} {v v' : Value} {n n' : Nat} {xs xs' : List Value} (h : w.ownsRow B t s v n xs) (h' : w.ownsRow B' t' s' v' n' xs') (ht : t ≠ t') : v.ownBlock = none ∨ v.ownBlock ≠ v'.ownBlock := by
  rcases h.2 with ⟨rfl, _⟩ | ⟨g, cap, cur, rfl, _, hg, _⟩
  · exact .inl rfl
  · right
    intro e
    rcases h'.2 with ⟨rfl, _⟩ | ⟨g', cap', cur', rfl, _, hg', _⟩
    · simp [Value.ownBlock] at e
    · simp only [Value.ownBlock, Option.some.injEq] at e
      subst e
      rw [hg] at hg'
      simp at hg'
      exact ht hg'.2
/-- .. the headers told. -/
structure RwL (B : Nat) (w : World) (v : Value) (cnt m : Nat) (M : Nat → Nat → Int) (hs : List Value) : Prop where
  len : hs.length = cnt
  own : w.ownsRow B 28 1 v cnt hs
  row : ∀ i h, hs[i]? = some h → ∃ g c, h = .slice (some ⟨g, 0, none⟩) m c ∧ w.ownsRow B 2 1 h m (nums m (M i))
theorem RwV.open {B : Nat} {w : World} {v : Value} {cnt m : Nat} {M : Nat → Nat → Int} (h : RwV B w v cnt m M) : ∃ hs, RwL B w v cnt m M hs := by
  obtain ⟨hs, h1, h2, h3⟩ := h
  exact ⟨hs, h1, h2, h3⟩
theorem RwL.close {B : Nat} {w : World} {v : Value} {cnt m : Nat} {M : Nat → Nat → Int} {hs : List Value} (h : RwL B w v cnt m M hs) : RwV B w v cnt m M := ⟨hs, h.len, h.own, h.row⟩
theorem RwL.next {B : Nat} {w w' : World} {v : Value} {cnt m : Nat} {M : Nat → Nat → Int} {hs : List Value} (h : RwL B w v cnt m M hs) (hb : Below w.heap.size w w') : RwL B w' v cnt m M hs :=
  ⟨h.len, owns_nx h.own hb, fun i x hx => by obtain ⟨g, c, e, h4⟩ := h.row i x hx; exact ⟨g, c, e, owns_nx h4 hb⟩⟩
/-- One row more: it lies in w, the header's block has been laid, the append is done. -/
theorem RwL.app {B : Nat} {w w' : World} {v v' : Value} {cnt m : Nat} {M : Nat → Nat → Int} {hs : List Value} (h : RwL B w v cnt m M hs) {h0 : Value} {g c : Nat} (e : h0 = .slice (some ⟨g, 0, none⟩) m c) (hr : w.ownsRow B 2 1 h0 m (nums m (M cnt)))
    (hg : w.grownBy w' v.ownBlock) (hO : w'.ownsRow B 28 1 v' (cnt + 1) (hs ++ [h0])) : RwL B w' v' (cnt + 1) m M (hs ++ [h0]) := by
  have h1 := h.len
  have hne : (2 : TypeId) ≠ 28 := by decide
  refine ⟨by simp [h1], hO, fun i x hx => ?_⟩
  by_cases hi : i < cnt
  · rw [List.getElem?_append_left (by omega)] at hx
    obtain ⟨g', c', e', h4⟩ := h.row i x hx
    exact ⟨g', c', e', h4.kept hg (own_apart h4 h.own hne)⟩
  · have hil : i < (hs ++ [h0]).length := (List.getElem?_eq_some_iff.1 hx).1
    have : i = cnt := by simp [h1] at hil; omega
    subst this
    have hx' : h0 = x := by
      rw [List.getElem?_append_right (by omega)] at hx
      simpa [h1] using hx
    subst hx'
    exact ⟨g, c, e, hr.kept hg (own_apart hr h.own hne)⟩
/-- One cell. -/
structure Ce (W : World) (b o : Nat) (v : Value) : Prop where
  lt : b < W.heap.size
  c : W.cell? ⟨b, o, none⟩ = some v
theorem Ce.next {w w' : World} {b o : Nat} {v : Value} (h : Ce w b o v) (hb : Below w.heap.size w w') : Ce w' b o v := ⟨Nat.lt_of_lt_of_le h.lt hb.size, (hb.cell (p := ⟨b, o, none⟩) h.lt).trans h.c⟩
theorem Ce.next' {w w' : World} {b o : Nat} {v : Value} (h : Ce w b o v) (hb : Below w.heap.size w w') : Ce w' b o v := h.next hb
theorem Ce.drew {w : World} {b o : Nat} {v : Value} (h : Ce w b o v) : Ce w.drew b o v := h.next (gr_drew (Below.refl _ w))
theorem Ce.alloc {w : World} {b o : Nat} {v : Value} (h : Ce w b o v) (ob : Obj) : Ce (w.alloc ob) b o v := h.next (gr_alloc (Below.refl _ w) ob)
theorem Ce.two {W : World} {b o b' o' : Nat} {v v' : Value} (h : Ce W b o v) (h' : Ce W b' o' v') : W.cell? ⟨b, o, none⟩ = some v ∧ W.cell? ⟨b', o', none⟩ = some v' := ⟨h.c, h'.c⟩
theorem nums_len (n : Nat) (g : Nat → Int) : (nums n g).length = n := by simp [nums]
theorem nums_one (n : Nat) (g : Nat → Int) : ∀ u ∈ nums n g, u.oneCell' = true := by
  intro u hu
  obtain ⟨j, hj, rfl⟩ := List.mem_map.1 hu
  rfl
theorem nums_mnr (M : Nat → Nat → Int) (k n i j : Nat) (hk : k ≤ n) (h1 : i < j) (h2 : j ≤ i + 1) : nums k (M j) ++ nums (n - k) (fun q => M j (k + 1 + q)) = nums n (mnr M k i) := by
  have e : j = i + 1 := by omega
  subst e
  apply List.ext_getElem?
  intro q
  by_cases hq : q < k
  · rw [List.getElem?_append_left (by rw [nums_len]; exact hq)]
    simp [nums, hq, mnr, show q < n by omega]
  · rw [List.getElem?_append_right (by rw [nums_len]; omega), nums_len]
    by_cases hm : q < n
    · simp [nums, hm, mnr, hq, show q - k < n - k by omega, show k + 1 + (q - k) = q + 1 by omega]
    · simp [nums, hm, show ¬ q - k < n - k by omega]
theorem info_ls : (Try.prog.info? 28).map (fun i => (i.zero, i.size, i.bytes)) = some (some (.slice none 0 0), 1, 24) := by kernel_rfl
theorem nums_i {n : Nat} {g : Nat → Int} {j : Nat} (h : j < n) : (nums n g)[j]? = some (.int .i64 (g j)) := by simp [nums, h]
theorem RwV.rd {B : Nat} {w : World} {v : Value} {n : Nat} {M : Nat → Nat → Int} (h : RwV B w v n n M) : RdR n w v M := by
  obtain ⟨hs, h1, h2, h3⟩ := h
  cases n with
  | zero =>
    rcases h2.2 with ⟨rfl, _⟩ | ⟨g, cap, cur, rfl, _⟩
    · exact .inl ⟨rfl, _, _, rfl⟩
    · exact .inl ⟨rfl, _, _, rfl⟩
  | succ n =>
    obtain ⟨b, cap, rfl, hbm, hlt⟩ := h2.form (by omega)
    rcases h2.2 with ⟨e, _⟩ | ⟨g, cap', cur, e, _, hg, hnc, hcm, hsz, htk⟩
    · cases e
    · cases e
      have hcell : ∀ i x, hs[i]? = some x → w.cell? ⟨b, i, none⟩ = some x := fun i x hx => by
        rw [← htk, List.getElem?_take] at hx
        split at hx
        · simp [World.cell?, hg]; simpa using hx
        · cases hx
      refine .inr ⟨b, cap, rfl, hnc, hcm, hlt, fun i hi => ?_⟩
      have hx : hs[i]? = some hs[i] := List.getElem?_eq_getElem (by omega)
      obtain ⟨g', c', e', h4⟩ := h3 i _ hx
      rw [e'] at h4
      rcases h4.2 with ⟨e, _⟩ | ⟨g2, cap2, cur2, e, _, hg2, hnc2, hcm2, _, htk2⟩
      · cases e
      · cases e
        refine ⟨g', c', by rw [hcell i _ hx, e'], hnc2, hcm2, (Array.getElem?_eq_some_iff.1 hg2).1, fun j hj => ?_⟩
        have hy := nums_i (g := M i) hj
        rw [← htk2, List.getElem?_take] at hy
        split at hy
        · simp [World.cell?, hg2]; simpa using hy
        · cases hy

end Go.Proofs.Ytigbaelbeaobpaa
