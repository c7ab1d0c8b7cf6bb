/- Several texts in one: XZf, XZj. -/
import Derived.Test.YtehbkmohfipmgaaBtZ7
import Derived.Deep.AppendLies

/- Chapter 10: lists of quadratic forms in the making; the classes of a discriminant. -/
namespace Go.Proofs.Ytehbkmohfipmgaa
open Go.RowKit

abbrev Qd := Int × Int × Int
def qi3 (q : Qd) : List Int := [q.1, q.2.1, q.2.2]
def qr3 (q : Qd) : List Value := [.int .i64 q.1, .int .i64 q.2.1, .int .i64 q.2.2]
theorem qi3_len (L : List Qd) : (L.flatMap qi3).length = 3 * L.length := by
  induction L with
  | nil => rfl
  | cons a L ih => simp only [List.flatMap_cons, List.length_append, ih, List.length_cons]; simp only [qi3, List.length_cons, List.length_nil]; omega
theorem qr3_map (L : List Qd) : L.flatMap qr3 = (L.flatMap qi3).map (Value.int .i64) := by
  induction L with
  | nil => rfl
  | cons a L ih => simp only [List.flatMap_cons, List.map_append, ih]; rfl
/-- A row of the call's own that holds the forms of L. -/
def RowQ (B : Nat) (w : World) (v : Value) (L : List Qd) : Prop := w.ownsRow B 25 3 v L.length (L.flatMap qr3)
theorem RowQ.out {B : Nat} {w : World} {v : Value} {L : List Qd} (h : RowQ B w v L) : OwnU B w v L.length (fun i => (L.flatMap qi3).getD i 0) := by
  rcases h.2 with ⟨rfl, hn⟩ | ⟨g, cap, cur, rfl, hb, hg, hnc, hcm, hs, ht⟩
  · exact .inl ⟨rfl, hn⟩
  · refine .inr ⟨g, cap, rfl, hb, hnc, hcm, (Array.getElem?_eq_some_iff.1 hg).1, fun i hi => ⟨?_, by simp [World.frozen?, hg]⟩⟩
    have hl := qi3_len L
    have hx : (L.flatMap qr3)[i]? = some (.int .i64 ((L.flatMap qi3).getD i 0)) := by
      have hlt : i < (L.flatMap qi3).length := by omega
      rw [qr3_map, List.getElem?_map, List.getElem?_eq_getElem hlt]
      simp only [Option.map_some, List.getD, List.getElem?_eq_getElem hlt, Option.getD_some]
    rw [← ht, List.getElem?_take] at hx
    split at hx
    · simp [World.cell?, hg]
      simpa using hx
    · cases hx
theorem RowQ.nil (B : Nat) (w : World) : RowQ B w (.slice none 0 0) [] := World.ownsRow_nil _ _ _ _
theorem RowQ.empty (B : Nat) (w : World) (hB : B ≤ w.heap.size) : RowQ B (w.alloc (.cells #[] 25)) (.slice (some ⟨w.heap.size, 0, none⟩) 0 0) [] :=
  ⟨rfl, .inr ⟨w.heap.size, 0, #[], rfl, hB, heap_alloc_new w _, Nat.le_refl _, by decide, rfl, rfl⟩⟩
theorem RowQ.next {w w' : World} {B : Nat} {v : Value} {L : List Qd} (h : RowQ B w v L) (hb : Below w.heap.size w w') : RowQ B w' v L :=
  h.kept (row := none) ⟨hb.os, hb.tape, hb.output, hb.size, fun k hk _ => hb.block k hk⟩ (by cases v.ownBlock <;> simp)
theorem RowQ.val {w : World} {B : Nat} {v : Value} {L : List Qd} (h : RowQ B w v L) : ∃ a cap, v = .slice a L.length cap := by
  rcases h.2 with ⟨rfl, hn⟩ | ⟨g, cap, cur, rfl, _⟩
  · exact ⟨none, 0, by rw [hn]⟩
  · exact ⟨_, _, rfl⟩
theorem RowQ.base {w : World} {B B' : Nat} {v : Value} {L : List Qd} (h : RowQ B w v L) (hB : B' ≤ B) : RowQ B' w v L := by
  refine ⟨h.1, ?_⟩
  rcases h.2 with h2 | ⟨g, cap, cur, h3, hb, h4⟩
  · exact .inl h2
  · exact .inr ⟨g, cap, cur, h3, by omega, h4⟩
theorem RowQ.grown {w w' W : World} {B : Nat} {v : Value} {L : List Qd} (h : RowQ B w v L) (hW : Below W.heap.size W w) (hg : w.grownBy w' v.ownBlock) (hB : W.heap.size ≤ B) : Below W.heap.size W w' := by
  refine ⟨hg.os.trans hW.os, by rw [hg.tape, hW.tape], hg.output.trans hW.output, Nat.le_trans hW.size hg.size, fun k hk => (hg.block k (Nat.lt_of_lt_of_le hk hW.size) (fun e => ?_)).trans (hW.block k hk)⟩
  rcases h.2 with ⟨rfl, _⟩ | ⟨g, cap, cur, rfl, hb, _⟩
  · simp [Value.ownBlock] at e
  · simp [Value.ownBlock] at e; omega
theorem info_qd : (Try.prog.info? 25).map (fun i => (i.zero, i.size, i.bytes)) = some (some (.agg #[.int .i64 0, .int .i64 0, .int .i64 0]), 3, 24) := by kernel_rfl

/-- append(list, q): q lies in the newest block. -/
theorem app_q {ops : Array Oper} {rest : List Oper} {o : Oper} {a : Act} {Q : Exit → Act → World → Prop} {w : World} {T : TypeId} (hgd : o.guard = none) (s x : Operand)
    (ho : o.op = .call { callee := .builtin .append, args := #[s, x], argTypes := #[35, 35] }) (base : Nat) {v : Value} {L : List Qd} (hs : a.eval s = v) (hown : RowQ base w v L)
    {p q r : Int} (hx : a.eval x = .slice (some ⟨w.heap.size, 0, none⟩) 1 1) (hn : L.length ≤ 1000000) (hbase : base ≤ w.heap.size)
    (h : ∀ v' w', RowQ base w' v' (L ++ [(p, q, r)]) → (w.alloc (.cells #[.int .i64 p, .int .i64 q, .int .i64 r] T)).grownBy w' v.ownBlock → wpList Try.prog ops Q rest (a.put o.dst v') w') : wpList Try.prog ops Q (o :: rest) a (w.alloc (.cells #[.int .i64 p, .int .i64 q, .int .i64 r] T)) := by
  obtain ⟨i0, hi, hi0, hi1, hi2⟩ := info_parts info_qd
  refine wpList_append_own _ hgd s x 35 ho base 25 i0 (.agg #[.int .i64 0, .int .i64 0, .int .i64 0]) 3 24 Try.underlying35 hi hi0 hi1 hi2 rfl (by decide) v L.length (L.flatMap qr3) hs (World.ownsRow.alloc hown _) ⟨w.heap.size, 0, none⟩ 1 1 [.int .i64 p, .int .i64 q, .int .i64 r] hx rfl ?_ ?_ ?_ ?_ ?_ (fun v' w' h1 h2 _ => h v' w' (by unfold RowQ; simpa [qr3] using h1) h2)
  · intro j u hj
    match j, hj with
    | 0, hj => simp at hj; subst hj; simp [Addr.add, go_sem]
    | 1, hj => simp at hj; subst hj; simp [Addr.add, go_sem]
    | 2, hj => simp at hj; subst hj; simp [Addr.add, go_sem]
  · intro u hu; simp at hu; rcases hu with rfl | rfl | rfl <;> rfl
  · unfold maxLen; omega
  · omega
  · simp; omega

end Go.Proofs.Ytehbkmohfipmgaa

/- Chapter 10: reduction, its mathematics. -/
namespace Go.Proofs.Ytehbkmohfipmgaa
open Go.RowKit

/-- How often p, p fits; the middle number in its range. -/
def kq (p q : Int) : Int := (p - q) / (2 * p)
def cm (p q : Int) : Int := p - (p - q) % (2 * p)
def cn (p q r : Int) : Int := p * kq p q * kq p q + q * kq p q + r
def cen (t : Qd) : Qd := (t.1, cm t.1 t.2.1, cn t.1 t.2.1 t.2.2)
def swp (t : Qd) : Qd := (t.2.2, -t.2.1, t.1)
def rdq (t : Qd) : Bool := rdb t.1 t.2.1 t.2.2
/-- Reduction in at most n steps. -/
def rdn : Nat → Qd → Qd
  | 0, t => t
  | n + 1, t => if rdq (cen t) then cen t else rdn n (swp (cen t))
/-- It ends within n steps. -/
def Fn : Nat → Qd → Prop
  | 0, _ => False
  | n + 1, t => rdq (cen t) = true ∨ Fn n (swp (cen t))
def dsq (t : Qd) : Int := t.2.1 * t.2.1 - 4 * t.1 * t.2.2
def red (t : Qd) : Qd := rdn (t.1.toNat + 1) t
theorem cm_eq (p q : Int) : cm p q = q + 2 * p * kq p q := by
  have := Int.mul_ediv_add_emod (p - q) (2 * p)
  unfold cm kq
  omega
theorem cm_bd {p q : Int} (hp : 1 ≤ p) : -p < cm p q ∧ cm p q ≤ p := by
  have h1 := Int.emod_nonneg (p - q) (b := 2 * p) (by omega)
  have h2 := Int.emod_lt_of_pos (p - q) (b := 2 * p) (by omega)
  unfold cm
  omega
theorem dsq_cen (t : Qd) : dsq (cen t) = dsq t := by
  obtain ⟨p, q, r⟩ := t
  show cm p q * cm p q - 4 * p * cn p q r = q * q - 4 * p * r
  rw [cm_eq]
  unfold cn
  grind
theorem dsq_swp (t : Qd) : dsq (swp t) = dsq t := by
  obtain ⟨p, q, r⟩ := t
  show -q * -q - 4 * r * p = q * q - 4 * p * r
  grind
/-- A form with P greater than 0 and the discriminant D less than 0. -/
def Pos (D : Int) (t : Qd) : Prop := 1 ≤ t.1 ∧ dsq t = D ∧ D < 0
theorem pos_third {p q r D : Int} (h : q * q - 4 * p * r = D) (hD : D < 0) (hp : 1 ≤ p) : 1 ≤ r := by
  have h0 : 0 ≤ q * q := by
    rcases Int.le_total 0 q with h | h
    · exact Int.mul_nonneg h h
    · exact Int.mul_nonneg_of_nonpos_of_nonpos h h
  rcases Int.lt_or_le r 1 with h1 | h1
  · have : 4 * p * r ≤ 0 := Int.mul_nonpos_of_nonneg_of_nonpos (by omega) (by omega)
    omega
  · exact h1
theorem Pos.cen {D : Int} {t : Qd} (h : Pos D t) : Pos D (cen t) := ⟨h.1, (dsq_cen t).trans h.2.1, h.2.2⟩
theorem Pos.swp {D : Int} {t : Qd} (h : Pos D t) : Pos D (swp t) := ⟨pos_third h.2.1 h.2.2 h.1, (dsq_swp t).trans h.2.1, h.2.2⟩
theorem cen_same {p q r : Int} (_ : 1 ≤ p) (h1 : -p < q) (h2 : q ≤ p) : cen (p, q, r) = (p, q, r) := by
  have e : kq p q = 0 := Int.ediv_eq_zero_of_lt (by omega) (by omega)
  show (p, cm p q, cn p q r) = _
  rw [cm_eq]; unfold cn; rw [e]; simp
theorem Fn.ends {D : Int} : ∀ (n : Nat) (t : Qd), Pos D t → t.1 ≤ n → Fn (n + 1) t := by
  intro n
  induction n with
  | zero => intro t h hn; have := h.1; omega
  | succ n ih =>
    intro t h hn
    by_cases hr : rdq (Go.Proofs.Ytehbkmohfipmgaa.cen t) = true
    · exact .inl hr
    · refine .inr ?_
      have hc := h.cen
      have hs := hc.swp
      obtain ⟨p, q, r⟩ := t
      have hb := cm_bd (p := p) (q := q) h.1
      have hr' : ¬ (p < cn p q r) ∧ ¬ (p = cn p q r ∧ 0 ≤ cm p q) := by
        have : ¬ (rdb p (cm p q) (cn p q r) = true) := hr
        simp [rdb] at this
        constructor
        · omega
        · rintro ⟨e, e'⟩; have := this.2 e; omega
      rcases Int.lt_or_le (cn p q r) p with h1 | h1
      · exact ih _ hs (show cn p q r ≤ n by have : p ≤ n + 1 := hn; omega)
      · have e : cn p q r = p := by omega
        have hm : cm p q < 0 := by
          rcases Int.lt_or_le (cm p q) 0 with h2 | h2
          · exact h2
          · exact absurd ⟨e.symm, h2⟩ hr'.2
        refine .inl ?_
        show rdq (Go.Proofs.Ytehbkmohfipmgaa.cen (cn p q r, -cm p q, p)) = true
        have hp : 1 ≤ p := h.1
        rw [e, cen_same hp (by omega) (by omega)]
        show rdb p (-cm p q) p = true
        simp [rdb]; omega
theorem Fn.more {n : Nat} : ∀ {t : Qd}, Fn n t → Fn (n + 1) t ∧ rdn (n + 1) t = rdn n t := by
  induction n with
  | zero => intro t h; exact h.elim
  | succ n ih =>
    intro t h
    by_cases hr : rdq (cen t) = true
    · exact ⟨.inl hr, by simp [rdn, hr]⟩
    · rcases h with h | h
      · exact absurd h hr
      · obtain ⟨h1, h2⟩ := ih h
        refine ⟨.inr h1, ?_⟩
        rw [rdn, if_neg hr, h2, rdn, if_neg hr]
theorem Fn.up {n m : Nat} {t : Qd} (h : Fn n t) (hm : n ≤ m) : Fn m t ∧ rdn m t = rdn n t := by
  induction m with
  | zero => rw [show n = 0 by omega] at h; exact h.elim
  | succ m ih =>
    rcases Nat.lt_or_ge n (m + 1) with h1 | h1
    · obtain ⟨a, b⟩ := ih (by omega)
      obtain ⟨c, d⟩ := a.more
      exact ⟨c, d.trans b⟩
    · rw [show n = m + 1 by omega] at h ⊢; exact ⟨h, rfl⟩
theorem Fn.red {D : Int} {t : Qd} (h : Pos D t) : Fn (t.1.toNat + 1) t := Fn.ends (D := D) t.1.toNat t h (by have := h.1; omega)
theorem rdn_done {n : Nat} {t : Qd} (h : rdq (cen t) = true) : rdn (n + 1) t = cen t := by simp [rdn, h]
theorem rdn_step {n : Nat} {t : Qd} (h : rdq (cen t) = false) (hf : Fn (n + 1) t) : Fn n (swp (cen t)) ∧ rdn (n + 1) t = rdn n (swp (cen t)) := by
  refine ⟨?_, by simp [rdn, h]⟩
  rcases hf with h1 | h1
  · rw [h] at h1; cases h1
  · exact h1
/-- Numbers within which nothing overflows. -/
def Sm (t : Qd) : Prop := t.1 ≤ 1000000000 ∧ -1000000000 ≤ t.2.1 ∧ t.2.1 ≤ 1000000000
theorem sq_le {m p : Int} (h1 : -p ≤ m) (h2 : m ≤ p) : m * m ≤ p * p := by
  have := mulb (A := p) (B := p) ⟨h1, h2⟩ ⟨h1, h2⟩
  exact this.2
theorem cn_bd {p q r D : Int} (h : Pos D (p, q, r)) (hD : -2000 ≤ D) (hp : p ≤ 1000000000) : 1 ≤ cn p q r ∧ cn p q r ≤ 1000000000 := by
  have hc := h.cen
  have h3 := pos_third hc.2.1 hc.2.2 hc.1
  refine ⟨h3, ?_⟩
  have hp1 : 1 ≤ p := h.1
  have hb := cm_bd (q := q) hp1
  have e : cm p q * cm p q - 4 * p * cn p q r = D := hc.2.1
  have hs := sq_le (m := cm p q) (p := p) (by omega) (by omega)
  rcases Int.lt_or_le 1000000000 (cn p q r) with h4 | h4
  · have h5 : p * 1000000001 ≤ p * cn p q r := Int.mul_le_mul_of_nonneg_left (by omega) (by omega)
    have h6 : p * p ≤ p * 1000000000 := Int.mul_le_mul_of_nonneg_left hp (by omega)
    have h7 : 4 * p * cn p q r = 4 * (p * cn p q r) := by rw [Int.mul_assoc]
    omega
  · exact h4
theorem Sm.step {D : Int} {t : Qd} (h : Pos D t) (hD : -2000 ≤ D) (hs : Sm t) : Sm (swp (cen t)) := by
  obtain ⟨p, q, r⟩ := t
  have h1 := cn_bd h hD hs.1
  have h2 := cm_bd (q := q) h.1
  have h3 : p ≤ 1000000000 := hs.1
  refine ⟨h1.2, ?_, ?_⟩
  · show -1000000000 ≤ -cm p q
    have : cm p q ≤ p := h2.2
    omega
  · show -cm p q ≤ 1000000000
    have : -p < cm p q := h2.1
    omega
theorem thd_cm {p q r D : Int} (hp : 1 ≤ p) (h : q * q - 4 * p * r = D) : thd p (cm p q) D = cn p q r := by
  have h1 := dsq_cen (p, q, r)
  have h2 : cm p q * cm p q - 4 * p * cn p q r = q * q - 4 * p * r := h1
  unfold thd
  have : cm p q * cm p q - D = 4 * p * cn p q r := by omega
  rw [this]
  exact Int.mul_tdiv_cancel_left _ (by omega)

end Go.Proofs.Ytehbkmohfipmgaa
