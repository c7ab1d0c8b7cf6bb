/- Texts of forms: what the model and the library read in them. Mathematics; no Go function in sight. -/
import Derived.Test.YtfibeifkmfnehaaDoorFt2
import Derived.Lib.ItoaNum
import Derived.Lib.ParseIntB
import Derived.Lib.Split
import Derived.Lib.IndexBytes
namespace Go.Proofs.YtfibeifkmfnehaaDoor
open Go
def digs (l : List UInt8) : Bool := l.all fun c => decide (48 ≤ c.toNat) && decide (c.toNat ≤ 57)
def nval (l : List UInt8) : Nat := l.foldl (fun n c => n * 10 + (c.toNat - 48)) 0
theorem nval_snoc (t : List UInt8) (c : UInt8) : nval (t ++ [c]) = nval t * 10 + (c.toNat - 48) := by simp [nval, List.foldl_append]
theorem digs_snoc (t : List UInt8) (c : UInt8) : digs (t ++ [c]) = (digs t && (decide (48 ≤ c.toNat) && decide (c.toNat ≤ 57))) := by simp [digs, List.all_append]
theorem dec_lo {u : Nat} (h : u < 10) : Lib.decDigits u = [UInt8.ofNat (48 + u)] := by rw [Lib.decDigits, dif_pos h]
theorem dec_hi {u : Nat} (h : ¬ u < 10) : Lib.decDigits u = Lib.decDigits (u / 10) ++ [UInt8.ofNat (48 + u % 10)] := by rw [Lib.decDigits, dif_neg h]
/-- Digits without a leading 0 are those of their number. -/
theorem dec_nval : ∀ (n : Nat) (l : List UInt8), l.length = n → l ≠ [] → digs l = true → (l.length = 1 ∨ l.head? ≠ some 48) → Lib.decDigits (nval l) = l := by
  intro n
  induction n with
  | zero => intro l h h0; exact absurd (List.length_eq_zero_iff.1 h) h0
  | succ n ih =>
    intro l hl h0 hd hh
    obtain ⟨t, c, rfl⟩ : ∃ t c, l = t ++ [c] := ⟨l.dropLast, l.getLast h0, (List.dropLast_concat_getLast h0).symm⟩
    rw [digs_snoc] at hd
    simp only [Bool.and_eq_true, decide_eq_true_eq] at hd
    obtain ⟨d1, d2, d3⟩ := hd
    rw [nval_snoc]
    have hcb : UInt8.ofNat c.toNat = c := by simp
    by_cases ht : t = []
    · subst ht
      have e : nval [] * 10 + (c.toNat - 48) = c.toNat - 48 := by simp [nval]
      rw [e, dec_lo (by omega)]
      have : 48 + (c.toNat - 48) = c.toNat := by omega
      rw [this, hcb]; rfl
    · have hlt : t.length = n := by simp at hl; exact hl
      have hh' : t.head? ≠ some 48 := by
        rcases hh with h | h
        · simp at h; exact absurd h ht
        · cases t with
          | nil => exact absurd rfl ht
          | cons x r => simpa using h
      have i1 := ih t hlt ht d1 (.inr hh')
      have hv : nval t ≠ 0 := by
        intro e
        rw [e, dec_lo (by omega)] at i1
        rw [← i1] at hh'
        exact hh' rfl
      rw [dec_hi (by omega)]
      have e1 : (nval t * 10 + (c.toNat - 48)) / 10 = nval t := by omega
      have e2 : 48 + (nval t * 10 + (c.toNat - 48)) % 10 = c.toNat := by omega
      rw [e1, e2, i1, hcb]
theorem of_toNat {k : Nat} (h : k < 256) : (UInt8.ofNat k).toNat = k := by simp; omega
theorem dec_facts (u : Nat) : digs (Lib.decDigits u) = true ∧ nval (Lib.decDigits u) = u ∧ Lib.decDigits u ≠ [] ∧ (1 ≤ u → (Lib.decDigits u).head? ≠ some 48) ∧ ((Lib.decDigits u).length = 1 ∨ (Lib.decDigits u).head? ≠ some 48) := by
  induction u using Nat.strongRecOn with
  | _ u ih =>
    by_cases h : u < 10
    · have hb : (UInt8.ofNat (48 + u)).toNat = 48 + u := of_toNat (by omega)
      rw [dec_lo h]
      refine ⟨?_, ?_, by simp, fun h1 => ?_, .inl rfl⟩
      · simp only [digs, List.all_cons, List.all_nil, hb]; simp; omega
      · simp only [nval, List.foldl_cons, List.foldl_nil, hb]; omega
      · intro e
        have e' : UInt8.ofNat (48 + u) = 48 := by simpa using e
        have := congrArg UInt8.toNat e'
        rw [hb] at this
        have h48 : (48 : UInt8).toNat = 48 := rfl
        omega
    · obtain ⟨i1, i2, i3, i4, _⟩ := ih (u / 10) (by omega)
      have hb : (UInt8.ofNat (48 + u % 10)).toNat = 48 + u % 10 := of_toNat (by omega)
      rw [dec_hi h]
      have hh : (Lib.decDigits (u / 10) ++ [UInt8.ofNat (48 + u % 10)]).head? ≠ some 48 := by
        have := i4 (by omega)
        cases hD : Lib.decDigits (u / 10) with
        | nil => exact absurd hD i3
        | cons x r => rw [hD] at this; simpa using this
      refine ⟨?_, ?_, by simp, fun _ => hh, .inr hh⟩
      · rw [digs_snoc, i1, hb]; simp; omega
      · rw [nval_snoc, i2, hb]; omega
/-- A number, as the model reads it. -/
def num (l : List UInt8) : Int := if l = [] ∨ 9 < l.length ∨ (1 < l.length ∧ l.head? = some 48) then -1 else if digs l then nval l else -1
def sgn (l : List UInt8) : Int × Bool := if l.head? = some 45 then (-(num l.tail), decide (0 < num l.tail)) else (num l, decide (0 ≤ num l))
theorem num_dec {l : List UInt8} (h : 0 ≤ num l) : num l = nval l ∧ l = Lib.decDigits (nval l) := by
  unfold num at h ⊢
  split at h
  · omega
  · rename_i h1
    split at h
    · rename_i h2
      rw [if_neg h1, if_pos h2]
      refine ⟨rfl, (dec_nval _ l rfl (fun e => h1 (.inl e)) h2 ?_).symm⟩
      rcases Nat.lt_or_ge 1 l.length with h3 | h3
      · exact .inr fun e => h1 (.inr (.inr ⟨h3, e⟩))
      · have : l.length ≠ 0 := fun e => h1 (.inl (List.length_eq_zero_iff.1 e))
        exact .inl (by omega)
    · omega
theorem sgn_itoa {l : List UInt8} (h : (sgn l).2 = true) : l = Lib.itoa (sgn l).1 := by
  unfold sgn at h ⊢
  split at h
  · rename_i h1
    rw [if_pos h1]
    have h2 : 0 < num l.tail := by simpa using h
    obtain ⟨e1, e2⟩ := num_dec (Int.le_of_lt h2)
    show l = Lib.itoa (-(num l.tail))
    unfold Lib.itoa
    rw [if_pos (by omega), e1]
    have : (-((nval l.tail : Nat) : Int)).natAbs = nval l.tail := by omega
    rw [this, ← e2]
    cases l with
    | nil => simp at h1
    | cons x r => simp at h1; rw [h1]; rfl
  · rename_i h1
    rw [if_neg h1]
    have h2 : 0 ≤ num l := by simpa using h
    obtain ⟨e1, e2⟩ := num_dec h2
    show l = Lib.itoa (num l)
    unfold Lib.itoa
    rw [if_neg (by omega), e1]
    have : ((nval l : Nat) : Int).toNat = nval l := by omega
    rw [this]; exact e2
theorem num_of {u : Nat} (h : (Lib.decDigits u).length ≤ 9) : num (Lib.decDigits u) = u := by
  obtain ⟨f1, f2, f3, _, f5⟩ := dec_facts u
  unfold num
  rw [if_neg (by rintro (e | e | ⟨e, e'⟩); · exact f3 e
                 · omega
                 · rcases f5 with f5 | f5; · omega
                   · exact f5 e'), if_pos f1, f2]
theorem head_ne {u : Nat} {c : UInt8} (hc : c.toNat < 48) : (Lib.decDigits u).head? ≠ some c := by
  obtain ⟨f1, _, f3, _⟩ := dec_facts u
  intro e
  cases hD : Lib.decDigits u with
  | nil => exact f3 hD
  | cons x r =>
    rw [hD] at e f1
    simp at e; subst e
    simp [digs] at f1
    omega
theorem itoa_sgn {n : Int} (h : (Lib.itoa n).length ≤ 9) : sgn (Lib.itoa n) = (n, true) := by
  unfold Lib.itoa at h ⊢
  by_cases h0 : n < 0
  · rw [if_pos h0] at h ⊢
    have hn := num_of (u := n.natAbs) (by simp at h; omega)
    have hs : sgn (45 :: Lib.decDigits n.natAbs) = (-(num (Lib.decDigits n.natAbs)), decide (0 < num (Lib.decDigits n.natAbs))) := if_pos rfl
    rw [hs]
    show (-(num (Lib.decDigits n.natAbs)), decide (0 < num (Lib.decDigits n.natAbs))) = _
    rw [hn]
    have : -((n.natAbs : Nat) : Int) = n := by omega
    rw [this]
    have : decide (0 < ((n.natAbs : Nat) : Int)) = true := by simp; omega
    rw [this]
  · rw [if_neg h0] at h ⊢
    have hn := num_of (u := n.toNat) h
    unfold sgn
    rw [if_neg (head_ne (by decide)), hn]
    have : ((n.toNat : Nat) : Int) = n := by omega
    rw [this]
    have : decide (0 ≤ n) = true := by simp; omega
    rw [this]
/-- A text, split at each comma. -/
def spl : List UInt8 → List (List UInt8)
  | [] => [[]]
  | c :: r => if c = 44 then [] :: spl r else match spl r with
    | [] => [[c]]
    | p :: ps => (c :: p) :: ps
theorem spl_ne (l : List UInt8) : spl l ≠ [] := by
  cases l with
  | nil => simp [spl]
  | cons c r =>
    unfold spl
    split
    · simp
    · split <;> simp
theorem spl_no : ∀ (p : List UInt8), (∀ x ∈ p, x ≠ 44) → spl p = [p]
  | [], _ => rfl
  | c :: r, h => by
    have := spl_no r fun x hx => h x (List.mem_cons_of_mem _ hx)
    unfold spl
    rw [if_neg (h c (List.mem_cons_self ..)), this]
theorem spl_app : ∀ (p r : List UInt8), (∀ x ∈ p, x ≠ 44) → spl (p ++ 44 :: r) = p :: spl r
  | [], r, _ => by show spl (44 :: r) = _; rw [spl, if_pos rfl]
  | c :: q, r, h => by
    have := spl_app q r fun x hx => h x (List.mem_cons_of_mem _ hx)
    show (if c = 44 then [] :: spl (q ++ 44 :: r) else match spl (q ++ 44 :: r) with | [] => [[c]] | p :: ps => (c :: p) :: ps) = _
    rw [if_neg (h c (List.mem_cons_self ..)), this]
/-- .. and joined again. -/
def joi : List (List UInt8) → List UInt8
  | [] => []
  | [p] => p
  | p :: q :: ps => p ++ 44 :: joi (q :: ps)
theorem joi_cons (c : UInt8) (p : List UInt8) (ps : List (List UInt8)) : joi ((c :: p) :: ps) = c :: joi (p :: ps) := by
  cases ps <;> rfl
theorem joi_spl : ∀ l, joi (spl l) = l
  | [] => rfl
  | c :: r => by
    have ih := joi_spl r
    unfold spl
    split
    · rename_i h
      cases hs : spl r with
      | nil => exact absurd hs (spl_ne r)
      | cons p ps => rw [hs] at ih; show [] ++ 44 :: joi (p :: ps) = _; rw [ih, h]; rfl
    · cases hs : spl r with
      | nil => exact absurd hs (spl_ne r)
      | cons p ps => rw [hs] at ih; show joi ((c :: p) :: ps) = _; rw [joi_cons, ih]
theorem itoa_no (n : Int) : ∀ x ∈ Lib.itoa n, x ≠ 44 := by
  have hd : ∀ u, ∀ x ∈ Lib.decDigits u, x ≠ 44 := fun u x hx e => by
    obtain ⟨f1, _⟩ := dec_facts u
    unfold digs at f1
    have := List.all_eq_true.1 f1 x hx
    subst e
    simp at this
  unfold Lib.itoa
  split
  · intro x hx
    rcases List.mem_cons.1 hx with e | e
    · rw [e]; decide
    · exact hd _ x e
  · exact hd _
theorem spl_txt (a b c d : Int) : spl (txt a b c d) = [Lib.itoa a, Lib.itoa b, Lib.itoa c, Lib.itoa d] := by
  have e : txt a b c d = Lib.itoa a ++ 44 :: (Lib.itoa b ++ 44 :: (Lib.itoa c ++ 44 :: Lib.itoa d)) := by simp [txt]
  rw [e, spl_app _ _ (itoa_no a), spl_app _ _ (itoa_no b), spl_app _ _ (itoa_no c), spl_no _ (itoa_no d)]
theorem spl_four {l p q r s : List UInt8} (h : spl l = [p, q, r, s]) : l = p ++ [44] ++ q ++ [44] ++ r ++ [44] ++ s := by
  have := joi_spl l
  rw [h] at this
  rw [← this]
  simp [joi]
/- ## the library's splitting and parsing -/
theorem idx_app : ∀ (p r : List UInt8), (∀ x ∈ p, x ≠ 44) → Lib.indexByte (p ++ 44 :: r) 44 = p.length
  | [], r, _ => by simp [Lib.indexByte]
  | c :: q, r, h => by
    have ih := idx_app q r fun x hx => h x (List.mem_cons_of_mem _ hx)
    have hc : (c == 44) = false := by simpa using h c (List.mem_cons_self ..)
    show Lib.indexByte (c :: (q ++ 44 :: r)) 44 = _
    unfold Lib.indexByte
    rw [hc, ih]
    have : ((q.length : Int) == -1) = false := by simp
    simp [this]
theorem idx_no : ∀ (p : List UInt8), (∀ x ∈ p, x ≠ 44) → Lib.indexByte p 44 = -1
  | [], _ => rfl
  | c :: q, h => by
    have ih := idx_no q fun x hx => h x (List.mem_cons_of_mem _ hx)
    have hc : (c == 44) = false := by simpa using h c (List.mem_cons_self ..)
    unfold Lib.indexByte
    rw [hc, ih]; simp
theorem splitB_app (k : Nat) (p r : List UInt8) (h : ∀ x ∈ p, x ≠ 44) : Lib.splitB ⟨#[44]⟩ 0 (k + 1) ⟨(p ++ 44 :: r).toArray⟩ = ⟨p.toArray⟩ :: Lib.splitB ⟨#[44]⟩ 0 k ⟨r.toArray⟩ := by
  have hi : Lib.indexB ⟨(p ++ 44 :: r).toArray⟩ ⟨#[44]⟩ = p.length := by
    show Lib.index (p ++ 44 :: r) [44] = _
    rw [Lib.index_one]
    exact idx_app p r h
  rw [Lib.splitB_hit _ _ _ _ _ hi]
  congr 1
  · apply ByteArray.ext
    simp [ByteArray.data_extract]
  · congr 1
    apply ByteArray.ext
    simp [ByteArray.data_extract, ByteArray.size]
    have : p.length + (r.length + 1) - (p.length + 1) = r.length := by omega
    rw [this, List.take_length]
theorem splitB_no (k : Nat) (p : List UInt8) (h : ∀ x ∈ p, x ≠ 44) : Lib.splitB ⟨#[44]⟩ 0 k ⟨p.toArray⟩ = [⟨p.toArray⟩] := by
  apply Lib.splitB_miss
  show Lib.index p [44] = _
  rw [Lib.index_one]
  exact idx_no p h
theorem splitB_txt (a b c d : Int) : Lib.splitB ⟨#[44]⟩ 0 4 ⟨(txt a b c d).toArray⟩ = [⟨(Lib.itoa a).toArray⟩, ⟨(Lib.itoa b).toArray⟩, ⟨(Lib.itoa c).toArray⟩, ⟨(Lib.itoa d).toArray⟩] := by
  have e : txt a b c d = Lib.itoa a ++ 44 :: (Lib.itoa b ++ 44 :: (Lib.itoa c ++ 44 :: Lib.itoa d)) := by simp [txt]
  rw [e, splitB_app 3 _ _ (itoa_no a), splitB_app 2 _ _ (itoa_no b), splitB_app 1 _ _ (itoa_no c), splitB_no _ _ (itoa_no d)]
theorem parse_dig : ∀ (l : List UInt8) (acc : Nat), digs l = true → (acc + 1) * 10 ^ l.length ≤ 10000000000 → Lib.parseUintM (2 ^ 64 - 1) acc l = .ok (l.foldl (fun n c => n * 10 + (c.toNat - 48)) acc)
  | [], acc, _, _ => rfl
  | c :: r, acc, hd, hb => by
    simp only [digs, List.all_cons, Bool.and_eq_true, decide_eq_true_eq] at hd
    obtain ⟨⟨d1, d2⟩, d3⟩ := hd
    have hp : 1 ≤ 10 ^ r.length := Nat.one_le_pow _ _ (by decide)
    have e : (acc + 1) * 10 ^ (c :: r).length = (acc + 1) * 10 * 10 ^ r.length := by simp [Nat.pow_succ, Nat.mul_comm, Nat.mul_assoc]
    rw [e] at hb
    have hb' : (acc * 10 + (c.toNat - 48) + 1) * 10 ^ r.length ≤ 10000000000 := Nat.le_trans (Nat.mul_le_mul_right _ (by omega)) hb
    have hs : (acc + 1) * 10 ≤ 10000000000 := Nat.le_trans (Nat.le_mul_of_pos_right _ hp) hb
    have ih := parse_dig r (acc * 10 + (c.toNat - 48)) d3 hb'
    unfold Lib.parseUintM
    rw [if_pos ⟨d1, d2⟩, if_neg (by omega), if_neg (by simp; omega), ih]
    rfl
theorem parse_itoa {n : Int} (h : -1000 ≤ n ∧ n ≤ 1000) (hl : (Lib.itoa n).length ≤ 9) : Lib.parseIntB 64 (Lib.itoa n) = .ok n := by
  have pm : ∀ u, (Lib.decDigits u).length ≤ 9 → Lib.parseUintB 64 (Lib.decDigits u) = .ok u := fun u hu => by
    obtain ⟨f1, f2, f3, _⟩ := dec_facts u
    unfold Lib.parseUintB
    rw [if_neg f3, parse_dig _ 0 f1 (by
      have : 10 ^ (Lib.decDigits u).length ≤ 10 ^ 9 := Nat.pow_le_pow_right (by decide) hu
      have e : (10 : Nat) ^ 9 = 1000000000 := by decide
      omega)]
    show Lib.NumEnd.ok (nval (Lib.decDigits u)) = _
    rw [f2]
  unfold Lib.itoa at hl ⊢
  by_cases h0 : n < 0
  · rw [if_pos h0] at hl ⊢
    have hp := pm n.natAbs (by simp at hl; omega)
    have h45 : (45 : UInt8).toNat = 45 := rfl
    simp only [Lib.parseIntB, h45]
    rw [if_pos (.inr trivial), hp]
    simp
    rw [if_neg (by omega)]
    have : -((n.natAbs : Nat) : Int) = n := by omega
    rw [this]
  · rw [if_neg h0] at hl ⊢
    have hp := pm n.toNat hl
    obtain ⟨f1, f2, f3, _⟩ := dec_facts n.toNat
    cases hD : Lib.decDigits n.toNat with
    | nil => exact absurd hD f3
    | cons c r =>
      rw [hD] at hp f1
      simp only [digs, List.all_cons, Bool.and_eq_true, decide_eq_true_eq] at f1
      simp only [Lib.parseIntB]
      rw [if_neg (by omega), hp]
      have : ¬ c.toNat = 45 := by omega
      simp [this]
      rw [if_neg (by omega)]
      have : max n 0 = n := by omega
      rw [this]

end Go.Proofs.YtfibeifkmfnehaaDoor
