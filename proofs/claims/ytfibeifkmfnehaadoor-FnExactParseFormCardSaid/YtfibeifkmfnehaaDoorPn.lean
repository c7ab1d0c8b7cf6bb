/- Numbers read by the model. -/
import Derived.Test.YtfibeifkmfnehaaDoorPt
namespace Go.Proofs.YtfibeifkmfnehaaDoor
open Go.RowKit

theorem digs_bad {l : List UInt8} {k : Nat} {c : UInt8} (h : l[k]? = some c) (hc : c.toNat < 48 ∨ 57 < c.toNat) : digs l = false := by
  refine Bool.eq_false_iff.2 fun e => ?_
  have := List.all_eq_true.1 e c (List.mem_of_getElem? h)
  simp at this
  omega
theorem take_snoc {l : List UInt8} {k : Nat} {c : UInt8} (h : l[k]? = some c) : l.take (k + 1) = l.take k ++ [c] := by
  rw [List.take_add_one, h]; rfl
theorem nval_lt : ∀ (t : List UInt8), digs t = true → nval t < 10 ^ t.length := by
  intro t
  generalize hn : t.length = n
  induction n generalizing t with
  | zero => intro _; have := List.length_eq_zero_iff.1 hn; subst this; simp [nval]
  | succ n ih =>
    intro hd
    have h0 : t ≠ [] := fun e => by subst e; simp at hn
    obtain ⟨r, c, rfl⟩ : ∃ r c, t = r ++ [c] := ⟨t.dropLast, t.getLast h0, (List.dropLast_concat_getLast h0).symm⟩
    rw [digs_snoc] at hd
    simp only [Bool.and_eq_true, decide_eq_true_eq] at hd
    have := ih r (by simpa using hn) hd.1
    rw [nval_snoc, Nat.pow_succ]
    omega

/-- The byte at a place. -/
def bt (l : List UInt8) (k : Nat) : Int := ((l.getD k 0).toNat : Int)
theorem bt_bd (l : List UInt8) (k : Nat) : 0 ≤ bt l k ∧ bt l k ≤ 255 := by
  have := UInt8.toNat_lt (l.getD k 0)
  unfold bt; omega
theorem bt_at {l : List UInt8} {k : Nat} (h : k < l.length) : l[k]? = some (l.getD k 0) := by
  rw [List.getD_eq_getElem?_getD, List.getElem?_eq_getElem h]; rfl
theorem idx_str (l : List UInt8) (k : Nat) (hk : k < l.length) (W : World) : (Instr.index 9 (.string ⟨l.toArray⟩) (.int .i64 (k : Int))).run Tryd.prog W = .ok (.int .u8 (bt l k)) W := by
  have hs : (⟨l.toArray⟩ : ByteArray).size = l.length := by simp [ByteArray.size]
  rw [run_index_string W 9 ⟨l.toArray⟩ .i64 k Tryd.underlying9]
  rw [dif_pos ⟨by omega, by rw [hs]; omega⟩]
  have e : (⟨l.toArray⟩ : ByteArray)[(k : Int).toNat]'(by rw [hs]; omega) = l.getD k 0 := by
    have h1 : (k : Int).toNat = k := by omega
    have h2 : (⟨l.toArray⟩ : ByteArray)[k]'(by rw [hs]; exact hk) = l[k] := by
      show (l.toArray)[k] = _
      simp
    simp only [h1]
    rw [h2, List.getD_eq_getElem?_getD, List.getElem?_eq_getElem hk]; rfl
  rw [e]; rfl
theorem num_bad {l : List UInt8} (h : l = [] ∨ 9 < l.length ∨ (1 < l.length ∧ l.head? = some 48)) : num l = -1 := by unfold num; rw [if_pos h]
theorem num_nd {l : List UInt8} (h : digs l = false) : num l = -1 := by
  unfold num; split
  · rfl
  · rw [h]; rfl
theorem num_ok {l : List UInt8} (h : ¬ (l = [] ∨ 9 < l.length ∨ (1 < l.length ∧ l.head? = some 48))) (h' : digs l = true) : num l = nval l := by unfold num; rw [if_neg h, if_pos h']

set_option maxRecDepth 100000 in
set_option maxHeartbeats 2000000 in
theorem sNum_any (l : List UInt8) (w : World) (hl : l.length ≤ 1000000000000) :
    Calls Tryd.prog 37 #[.string ⟨l.toArray⟩] w fun e w' => e = .returned (.int .i64 (num l)) ∧ Below w.heap.size w w' := by
  by_cases h0 : l = []
  · rw [num_bad (.inl h0)]
    subst h0
    go_enter Tryd.func37, Tryd.ntmps37
    go_wp2_with fail
    go_ret
    exact ⟨rfl, by (repeat' (first | with_reducible exact Below.refl _ _ | with_reducible assumption | with_reducible refine gr_alloc ?_ _ | with_reducible refine gr_drew ?_ | with_reducible refine gr_drewN ?_ _ | with_reducible refine gr_trans ?_ (by assumption) | with_reducible refine gr_set ?_ ?_ _ | (simp; done) | omega | (simp; omega)))⟩
  have hp : 0 < l.length := List.length_pos_iff.2 h0
  have e0 : ((l.length : Int) == 0) = false := by simp; omega
  by_cases h9 : 9 < l.length
  · rw [num_bad (.inr (.inl h9))]
    have e9 : decide (9 < (l.length : Int)) = true := by simp; omega
    go_enter Tryd.func37, Tryd.ntmps37
    go_wp2_with fail
    go_ret
    exact ⟨rfl, by (repeat' (first | with_reducible exact Below.refl _ _ | with_reducible assumption | with_reducible refine gr_alloc ?_ _ | with_reducible refine gr_drew ?_ | with_reducible refine gr_drewN ?_ _ | with_reducible refine gr_trans ?_ (by assumption) | with_reducible refine gr_set ?_ ?_ _ | (simp; done) | omega | (simp; omega)))⟩
  have i0 : ∀ W : World, (Instr.index 9 (.string ⟨l.toArray⟩) (.int .i64 0)).run Tryd.prog W = .ok (.int .u8 (bt l 0)) W := fun W => idx_str l 0 hp W
  have hb0 := bt_bd l 0
  have hh : l.head? = some (l.getD 0 0) := by rw [List.head?_eq_getElem?]; exact bt_at hp
  have e9 : decide (9 < (l.length : Int)) = false := by simp; omega
  by_cases h48 : 1 < l.length ∧ l.head? = some 48
  · rw [num_bad (.inr (.inr h48))]
    have e1 : decide (1 < (l.length : Int)) = true := by simp; omega
    have e2 : (bt l 0 == 48) = true := by
      rw [hh] at h48
      have : l.getD 0 0 = 48 := by simpa using h48.2
      unfold bt; rw [this]; rfl
    have h1 := h48.1
    go_enter Tryd.func37, Tryd.ntmps37
    go_wp2_with fail
    go_ret
    exact ⟨rfl, by (repeat' (first | with_reducible exact Below.refl _ _ | with_reducible assumption | with_reducible refine gr_alloc ?_ _ | with_reducible refine gr_drew ?_ | with_reducible refine gr_drewN ?_ _ | with_reducible refine gr_trans ?_ (by assumption) | with_reducible refine gr_set ?_ ?_ _ | (simp; done) | omega | (simp; omega)))⟩
  have hok : ¬ (l = [] ∨ 9 < l.length ∨ (1 < l.length ∧ l.head? = some 48)) := by rintro (h | h | h); exact h0 h; exact h9 h; exact h48 h
  have HOK := hid hok
  have ht : decide (1 < (l.length : Int)) = false ∨ (decide (1 < (l.length : Int)) = true ∧ (bt l 0 == 48) = false) := by
    rcases Nat.lt_or_ge 1 l.length with h1 | h1
    · have : ¬ l.getD 0 0 = 48 := fun e => h48 ⟨h1, by rw [hh, e]⟩
      have : ¬ bt l 0 = 48 := fun e => this (by
        unfold bt at e
        have := congrArg UInt8.ofNat (show (l.getD 0 0).toNat = 48 by omega)
        simpa using this)
      exact .inr ⟨by simp; omega, by simp [this]⟩
    · exact .inl (by simp; omega)
  have HB := hid (fun h => num_nd (l := l) h); have HG := hid (fun h => num_ok (l := l) hok h)
  generalize num l = NL at HB HG ⊢
  have HL : Hid (l.length ≤ 9) := hid (by omega)
  clear hok h48 hh
  rcases ht with h1 | ⟨h1, h2⟩
  all_goals
    go_enter Tryd.func37, Tryd.ntmps37
    go_wp2_with fail
    clear i0 hb0
    go_loopw [3, 4] (fun s3 s4 wr => ∃ k : Nat, k ≤ l.length ∧ s3 = .int .i64 (nval (l.take k) : Nat) ∧ s4 = .int .i64 k ∧ digs (l.take k) = true ∧ Below w.heap.size w wr) (fun _ i _ => l.length - (intOf i).toNat)
    case atStart => exact ⟨0, Nat.zero_le _, rfl, rfl, rfl, Below.refl _ _⟩
    case round =>
      obtain ⟨k, hk, rfl, rfl, hd, hB⟩ := hrel
      have HD := hid hd
      by_cases hlt : k < l.length
      · have hix := idx_str l k hlt
        obtain ⟨b1, b2⟩ := bt_bd l k
        have hat := bt_at hlt
        have hnv := nval_lt _ hd
        have hbd : nval (l.take k) < 1000000000 := Nat.lt_of_lt_of_le hnv (by
          have h9' := HL.out
          have : (l.take k).length ≤ 9 := by rw [List.length_take]; omega
          have := Nat.pow_le_pow_right (n := 10) (by decide) this
          have e : (10 : Nat) ^ 9 = 1000000000 := by decide
          rw [e] at this; exact this)
        have hsn : nval (l.take (k + 1)) = nval (l.take k) * 10 + ((l.getD k 0).toNat - 48) := by rw [take_snoc hat, nval_snoc]
        have hdn : 48 ≤ bt l k → bt l k ≤ 57 → digs (l.take (k + 1)) = true := fun h h' => by
          rw [take_snoc hat, digs_snoc, hd]
          unfold bt at h h'
          have g1 : 48 ≤ (l.getD k 0).toNat := by omega
          have g2 : (l.getD k 0).toNat ≤ 57 := by omega
          rw [decide_eq_true g1, decide_eq_true g2]; rfl
        have hbad : bt l k < 48 ∨ 57 < bt l k → digs l = false := fun h => digs_bad hat (by unfold bt at h; omega)
        have hbt : bt l k = ((l.getD k 0).toNat : Int) := rfl
        have HSN := hid hsn; have HDN := hid hdn; have HBAD := hid hbad; have HBT := hid hbt
        clear hd hnv hsn hdn hbad hbt hat
        generalize bt l k = b at hix b1 b2 HDN HBAD HBT
        generalize hnn : nval (l.take k) = nn at hbd HSN
        have HNN := hid hnn
        clear hnn
        rcases Int.lt_or_le b 48 with c1 | c1
        · have e := HB.out (HBAD.out (.inl c1))
          go_wp2_with fail
          go_ret
          exact ⟨by rw [e]; rfl, by (repeat' (first | with_reducible exact Below.refl _ _ | with_reducible assumption | with_reducible refine gr_alloc ?_ _ | with_reducible refine gr_drew ?_ | with_reducible refine gr_drewN ?_ _ | with_reducible refine gr_trans ?_ (by assumption) | with_reducible refine gr_set ?_ ?_ _ | (simp; done) | omega | (simp; omega)))⟩
        · rcases Int.lt_or_le 57 b with c2 | c2
          · have e := HB.out (HBAD.out (.inr c2))
            go_wp2_with fail
            go_ret
            exact ⟨by rw [e]; rfl, by (repeat' (first | with_reducible exact Below.refl _ _ | with_reducible assumption | with_reducible refine gr_alloc ?_ _ | with_reducible refine gr_drew ?_ | with_reducible refine gr_drewN ?_ _ | with_reducible refine gr_trans ?_ (by assumption) | with_reducible refine gr_set ?_ ?_ _ | (simp; done) | omega | (simp; omega)))⟩
          · have m1 : IntKind.i64.wrap ((nn : Int) * 10) = (nn : Int) * 10 := by rw [IntWalk.i64_left]; exact wr_in (by omega)
            have m2 : IntKind.u8.wrap (b - 48) = b - 48 := by show (b - 48) % 256 = b - 48; omega
            have m3 : IntKind.i64.wrap (b - 48) = b - 48 := by rw [IntWalk.i64_left]; exact wr_in (by omega)
            have m4 : IntKind.i64.wrap ((nn : Int) * 10 + (b - 48)) = (nn : Int) * 10 + (b - 48) := by rw [IntWalk.i64_left]; exact wr_in (by omega)
            go_wp2_with fail
            go_roundw
            case rel => exact ⟨k + 1, by omega, by rw [HSN.out]; have := HBT.out; exact congrArg (Value.int .i64) (by omega), by go_num, HDN.out c1 c2, by (repeat' (first | with_reducible exact Below.refl _ _ | with_reducible assumption | with_reducible refine gr_alloc ?_ _ | with_reducible refine gr_drew ?_ | with_reducible refine gr_drewN ?_ _ | with_reducible refine gr_trans ?_ (by assumption) | with_reducible refine gr_set ?_ ?_ _ | (simp; done) | omega | (simp; omega)))⟩
            case measure => simp [intOf]; omega
      · have e : k = l.length := by omega
        subst e
        rw [List.take_length] at HD
        have e := HG.out HD.out
        go_wp2_with fail
        go_ret
        exact ⟨by rw [e, List.take_length]; rfl, by (repeat' (first | with_reducible exact Below.refl _ _ | with_reducible assumption | with_reducible refine gr_alloc ?_ _ | with_reducible refine gr_drew ?_ | with_reducible refine gr_drewN ?_ _ | with_reducible refine gr_trans ?_ (by assumption) | with_reducible refine gr_set ?_ ?_ _ | (simp; done) | omega | (simp; omega)))⟩

end Go.Proofs.YtfibeifkmfnehaaDoor
