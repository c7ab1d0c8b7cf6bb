/- Texts split by the model. -/
import Derived.Test.YtfibeifkmfnehaaDoorPs
import Derived.Test.YtfibeifkmfnehaaDoorBx
import Derived.OwnWalk
namespace Go.Proofs.YtfibeifkmfnehaaDoor
open Go.RowKit

/-- A row of the call's own that holds texts. -/
def RowT (B : Nat) (w : World) (v : Value) (L : List (List UInt8)) : Prop := w.ownsRow B 9 1 v L.length (L.map fun l => Value.string ⟨l.toArray⟩)
theorem RowT.next {w w' : World} {B : Nat} {v : Value} {L : List (List UInt8)} (h : RowT B w v L) (hb : Below w.heap.size w w') : RowT B w' v L :=
  World.ownsRow.kept h (row := none) ⟨hb.os, hb.tape, hb.output, hb.size, fun k hk _ => hb.block k hk⟩ (by cases hv : v.ownBlock <;> simp)
theorem RowT.val {w : World} {B : Nat} {v : Value} {L : List (List UInt8)} (h : RowT B w v L) : ∃ a cap, v = .slice a L.length cap := by
  rcases h.2 with ⟨rfl, hn⟩ | ⟨g, cap, cur, rfl, _⟩
  · exact ⟨none, 0, by rw [hn]⟩
  · exact ⟨_, cap, rfl⟩
theorem RowT.cell {w : World} {B : Nat} {v : Value} {L : List (List UInt8)} (h : RowT B w v L) (h0 : L ≠ []) : ∃ g cap, v = .slice (some ⟨g, 0, none⟩) L.length cap ∧ B ≤ g ∧ g < w.heap.size ∧ L.length ≤ cap ∧ cap ≤ maxLen ∧ ∀ i (hi : i < L.length), w.cell? ⟨g, i, none⟩ = some (.string ⟨L[i].toArray⟩) := by
  rcases h.2 with ⟨_, hn⟩ | ⟨g, cap, cur, rfl, hb, hg, hnc, hcm, hs, ht⟩
  · exact absurd (List.length_eq_zero_iff.1 hn) h0
  · refine ⟨g, cap, rfl, hb, (Array.getElem?_eq_some_iff.1 hg).1, hnc, hcm, fun i hi => ?_⟩
    have hx : (L.map fun l => Value.string ⟨l.toArray⟩)[i]? = some (Value.string ⟨L[i].toArray⟩) := by simp [hi]
    rw [← ht, List.getElem?_take] at hx
    split at hx
    · simp [World.cell?, hg]
      simpa using hx
    · cases hx
theorem info_str : (Tryd.prog.info? 9).map (fun i => (i.zero, i.size, i.bytes)) = some (some (.string ByteArray.empty), 1, 16) := by kernel_rfl
/-- append(list, text): the text lies in the newest block. -/
theorem app_t {ops : Array Oper} {rest : List Oper} {o : Oper} {a : Act} {Q : Exit → Act → World → Prop} {w : World} {T : TypeId} (hgd : o.guard = none) (s x : Operand)
    (ho : o.op = .call { callee := .builtin .append, args := #[s, x], argTypes := #[47, 47] }) (base : Nat) {v : Value} {L : List (List UInt8)} (hs : a.eval s = v) (hown : RowT base w v L)
    {m : List UInt8} (hx : a.eval x = .slice (some ⟨w.heap.size, 0, none⟩) 1 1) (hn : L.length ≤ 100000000) (hbase : base ≤ w.heap.size)
    (h : ∀ v' w', RowT base w' v' (L ++ [m]) → (w.alloc (.cells #[.string ⟨m.toArray⟩] T)).grownBy w' v.ownBlock → wpList Tryd.prog ops Q rest (a.put o.dst v') w') : wpList Tryd.prog ops Q (o :: rest) a (w.alloc (.cells #[.string ⟨m.toArray⟩] T)) := by
  obtain ⟨i0, hi, hi0, hi1, hi2⟩ := info_parts info_str
  refine wpList_append_own _ hgd s x 47 ho base 9 i0 (.string ByteArray.empty) 1 16 Tryd.underlying47 hi hi0 hi1 hi2 rfl (by decide) v L.length (L.map fun l => Value.string ⟨l.toArray⟩) hs (World.ownsRow.alloc hown _) ⟨w.heap.size, 0, none⟩ 1 1 [.string ⟨m.toArray⟩] hx rfl ?_ ?_ ?_ ?_ ?_ (fun v' w' h1 h2 _ => h v' w' (by unfold RowT; simpa using h1) h2)
  · intro j u hj
    match j, hj with
    | 0, hj => simp at hj; subst hj; simp [Addr.add, go_sem]
  · intro u hu; simp at hu; subst hu; rfl
  · unfold maxLen; omega
  · omega
  · simp; omega
/-- One part more. -/
theorem spl_step {l : List UInt8} {L : List (List UInt8)} {s k : Nat} (h : L ++ spl (l.drop s) = spl l) (hn : ∀ x ∈ (l.drop s).take (k - s), x ≠ 44) (hs : s ≤ k) (hk : k < l.length) (h44 : l.getD k 0 = 44) :
    (L ++ [(l.drop s).take (k - s)]) ++ spl (l.drop (k + 1)) = spl l := by
  have e : l.drop s = (l.drop s).take (k - s) ++ 44 :: l.drop (k + 1) := by
    have h1 : l.drop s = (l.drop s).take (k - s) ++ (l.drop s).drop (k - s) := (List.take_append_drop _ _).symm
    have h2 : (l.drop s).drop (k - s) = l.drop k := by rw [List.drop_drop]; congr 1; omega
    have h3 : l.drop k = l[k] :: l.drop (k + 1) := List.drop_eq_getElem_cons hk
    have h4 : l[k] = 44 := by rw [← h44, List.getD_eq_getElem?_getD, List.getElem?_eq_getElem hk]; rfl
    rw [h2, h3, h4] at h1
    exact h1
  rw [← h]
  conv => rhs; rw [e, spl_app _ _ hn]
  simp
theorem spl_end {l : List UInt8} {L : List (List UInt8)} {s : Nat} (h : L ++ spl (l.drop s) = spl l) (hn : ∀ x ∈ (l.drop s).take (l.length - s), x ≠ 44) : L ++ [l.drop s] = spl l := by
  have e : (l.drop s).take (l.length - s) = l.drop s := List.take_of_length_le (by simp)
  rw [e] at hn
  rw [← h, spl_no _ hn]
theorem no_step {l : List UInt8} {s k : Nat} (hn : ∀ x ∈ (l.drop s).take (k - s), x ≠ 44) (hs : s ≤ k) (hk : k < l.length) (h44 : l.getD k 0 ≠ 44) : ∀ x ∈ (l.drop s).take (k + 1 - s), x ≠ 44 := by
  have e : (l.drop s).take (k + 1 - s) = (l.drop s).take (k - s) ++ [l.getD k 0] := by
    have h1 : k + 1 - s = (k - s) + 1 := by omega
    have h2 : (l.drop s)[k - s]? = some (l.getD k 0) := by
      rw [List.getElem?_drop]
      have : s + (k - s) = k := by omega
      rw [this]; exact bt_at hk
    rw [h1, List.take_add_one, h2]; rfl
  rw [e]
  intro x hx
  rcases List.mem_append.1 hx with h | h
  · exact hn x h
  · have : x = l.getD k 0 := by simpa using h
    rw [this]; exact h44

set_option maxRecDepth 100000 in
set_option maxHeartbeats 4000000 in
theorem sSplit_any (l : List UInt8) (w : World) (hl : l.length ≤ 1048576) :
    Calls Tryd.prog 26 #[.string ⟨l.toArray⟩, .int .u8 44] w fun e w' => ∃ v, e = .returned v ∧ RowT w.heap.size w' v (spl l) ∧ Below w.heap.size w w' := by
  go_enter Tryd.func26, Tryd.ntmps26
  have R0 : RowT w.heap.size (w.alloc (.cells #[] 9)) (.slice (some ⟨w.heap.size, 0, none⟩) 0 0) [] := ⟨rfl, .inr ⟨w.heap.size, 0, #[], rfl, Nat.le_refl _, heap_alloc_new w _, Nat.le_refl _, by decide, rfl, rfl⟩⟩
  have U0 := gr_alloc (Below.refl w.heap.size w) (.cells #[] 9)
  go_wp2_with fail
  generalize w.alloc (.cells #[] 9) = W0 at R0 U0 ⊢
  go_loopw [5, 6, 7] (fun s5 s6 s7 wr => ∃ (k s : Nat) (L : List (List UInt8)), k ≤ l.length ∧ s ≤ k ∧ L.length ≤ s ∧ RowT w.heap.size wr s5 L ∧ s6 = .int .i64 s ∧ s7 = .int .i64 k ∧ L ++ spl (l.drop s) = spl l ∧ (∀ x ∈ (l.drop s).take (k - s), x ≠ 44) ∧ Below w.heap.size w wr) (fun _ _ i _ => l.length - (intOf i).toNat)
  case atStart => exact ⟨0, 0, [], Nat.zero_le _, Nat.le_refl _, Nat.le_refl _, R0, rfl, rfl, rfl, by simp, U0⟩
  case round =>
    obtain ⟨k, s, L, hk, hs, hLs, hR, rfl, rfl, hsp, hno, hB⟩ := hrel
    have HSP := hid hsp; have HNO := hid hno; have HR := hid hR
    obtain ⟨av, cv, rfl⟩ := hR.val
    clear hsp hno hR R0 U0
    by_cases hlt : k < l.length
    · have hix := idx_str l k hlt
      have hb := bt_bd l k
      by_cases h44 : l.getD k 0 = 44
      · have e1 : (bt l k == 44) = true := by unfold bt; rw [h44]; rfl
        have hex : ByteArray.extract ⟨l.toArray⟩ s k = ⟨((l.drop s).take (k - s)).toArray⟩ := by
          apply ByteArray.ext
          simp [ByteArray.data_extract]
        have HST := hid (spl_step HSP.out HNO.out hs hlt h44)
        generalize (l.drop s).take (k - s) = m at hex HST
        clear h44
        have hsz := hB.size
        have HW := hid hB
        go_wp2_with (at_builtin; refine app_t rfl _ _ rfl w.heap.size rfl HR.out rfl (by omega) hsz ?_)
        intro v' w' hown hg
        have hB2 : Below w.heap.size w w' := (gr_alloc HW.out _).grown hg (by simp; omega) (fun j hj => by
          rcases HR.out.2 with ⟨e, _⟩ | ⟨g, _, _, e, hb, _⟩
          · rw [e] at hj; simp [Value.ownBlock] at hj
          · rw [e] at hj; simp [Value.ownBlock] at hj; omega)
        clear hB
        go_wp2_with fail
        go_roundw
        case rel => exact ⟨k + 1, k + 1, L ++ [m], by omega, Nat.le_refl _, by simp; omega, hown, by go_num, by go_num, HST.out, by simp, hB2⟩
        case measure => simp [intOf]; omega
      · have e1 : (bt l k == 44) = false := by
          have : ¬ bt l k = 44 := fun e => h44 (by
            unfold bt at e
            have := congrArg UInt8.ofNat (show (l.getD k 0).toNat = 44 by omega)
            simpa using this)
          simp [this]
        have HNS := hid (no_step HNO.out hs hlt h44)
        clear h44
        go_wp2_with fail
        go_roundw
        case rel => exact ⟨k + 1, s, L, by omega, by omega, hLs, HR.out, rfl, by go_num, HSP.out, HNS.out, hB⟩
        case measure => simp [intOf]; omega
    · have e : k = l.length := by omega
      subst e
      have HEN := hid (spl_end HSP.out HNO.out)
      have hex : ByteArray.extract ⟨l.toArray⟩ s l.length = ⟨(l.drop s).toArray⟩ := by
        apply ByteArray.ext
        simp [ByteArray.data_extract]
        exact List.take_of_length_le (by simp)
      generalize l.drop s = m at hex HEN
      have hsz := hB.size
      have HW := hid hB
      go_wp2_with (at_builtin; refine app_t rfl _ _ rfl w.heap.size rfl HR.out rfl (by omega) hsz ?_)
      intro v' w' hown hg
      have hB2 : Below w.heap.size w w' := (gr_alloc HW.out _).grown hg (by simp; omega) (fun j hj => by
        rcases HR.out.2 with ⟨e, _⟩ | ⟨g, _, _, e, hb, _⟩
        · rw [e] at hj; simp [Value.ownBlock] at hj
        · rw [e] at hj; simp [Value.ownBlock] at hj; omega)
      rw [HEN.out] at hown
      clear hB
      go_wp2_with fail
      go_ret
      exact ⟨_, rfl, hown, hB2⟩

end Go.Proofs.YtfibeifkmfnehaaDoor
