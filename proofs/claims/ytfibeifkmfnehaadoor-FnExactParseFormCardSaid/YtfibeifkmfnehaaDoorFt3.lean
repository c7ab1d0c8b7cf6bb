/- Forms as texts, in the program. -/
import Derived.Test.YtfibeifkmfnehaaDoorFt2
import Derived.Test.YtfibeifkmfnehaaDoorShf
import Derived.Lib.AppendIntMem
import Derived.Test.YtfibeifkmfnehaaDoorC1b
namespace Go.Proofs.YtfibeifkmfnehaaDoor
open Go.RowKit

theorem bld_next {T e : TypeId} {B b : Nat} {p : Value} {bs : List Value} {w w' : World} (h : Lib.BuilderAtF T e B b p bs w) (hb : Below w.heap.size w w') : Lib.BuilderAtF T e B b p bs w' := by
  have hlt := h.lt
  obtain ⟨hB, v, hbk, hown, hne⟩ := h
  exact ⟨hB, v, (hb.block b hlt).trans hbk, hown.kept (row := none) ⟨hb.os, hb.tape, hb.output, hb.size, fun k hk _ => hb.block k hk⟩ (by cases hv : v.ownBlock <;> simp), hne⟩
theorem IsB.next {T e : TypeId} {B b : Nat} {bs : List Value} {w w' : World} (h : Lib.IsBuilderF T e B b bs w) (hb : Below w.heap.size w w') : Lib.IsBuilderF T e B b bs w' := h.imp (fun x => bld_next x hb) (fun x => bld_next x hb)
theorem tab_next {w w' : World} {n : String} {k : IntKind} {zs : List Int} (h : Lib.TabIs Tryd.prog w n k zs) (hb : Below w.heap.size w w') : Lib.TabIs Tryd.prog w' n k zs := by
  unfold Lib.TabIs World.var? at h ⊢
  cases hg : Tryd.prog.globalNamed n with
  | none => simp [hg] at h
  | some g =>
    simp only [hg, Option.bind_some] at h ⊢
    have hlt : g < w.heap.size := by
      rcases Nat.lt_or_ge g w.heap.size with h' | h'
      · exact h'
      · simp [Array.getElem?_eq_none h'] at h
    rw [hb.block g hlt]; exact h
/-- The table of powers of ten, as the library reads it. -/
def Tab (w : World) : Prop := Lib.TabIs Tryd.prog w "internal/strconv.uint64pow10" .u64 Lib.pow10Tab
theorem Tab.next {w w' : World} (h : Tab w) (hb : Below w.heap.size w w') : Tab w' := tab_next h hb
/-- A builder that the call has laid, and what it holds. -/
def Bld (b : Nat) (l : List UInt8) (w : World) : Prop := Lib.IsBuilderF 37 5 b b (Lib.byteCells l) w
theorem Bld.next {b : Nat} {l : List UInt8} {w w' : World} (h : Bld b l w) (hb : Below w.heap.size w w') : Bld b l w' := IsB.next h hb
theorem Bld.le {b : Nat} {l : List UInt8} {w : World} (h : Bld b l w) : b < w.heap.size := h.elim (fun x => x.lt) (fun x => x.lt)
theorem fmt_any (n : Int) (w : World) (h : -1000 ≤ n ∧ n ≤ 1000) (ht : Tab w) :
    Calls Tryd.prog 16 #[.int .i64 n, .int .i64 10] w fun e w' => e = .returned (.string ⟨(Lib.itoa n).toArray⟩) ∧ Below w.heap.size w w' := by
  refine (Tryd.strconv_FormatInt_10 n (by omega) (by omega) w ht).mono ?_
  rintro e w' ⟨he, k, os, rfl⟩
  exact ⟨he, Lib.below_grow _ _ (Nat.le_refl _) _ _⟩
theorem wb_any (b : Nat) (l : List UInt8) (c : UInt8) (w : World) (h : Bld b l w) (hl : l.length ≤ 100) :
    Calls Tryd.prog 14 #[.pointer (some ⟨b, 0, none⟩), .int .u8 (c.toNat : Int)] w fun e w' => e = .returned .nilIface ∧ Bld b (l ++ [c]) w' ∧ Below b w w' := by
  refine (Tryd.Builder_WriteByte_k b b _ _ w h (by simp [Lib.byteCells_length]; omega) (Nat.le_of_lt h.le)).mono ?_
  rintro e w' ⟨he, h1, h2, _⟩
  refine ⟨he, .inr ?_, h2⟩
  have : Lib.byteCells (l ++ [c]) = Lib.byteCells l ++ [.int .u8 (c.toNat : Int)] := by simp [Lib.byteCells]
  rw [this]; exact h1
theorem wc_any (b : Nat) (l : List UInt8) (w : World) (h : Bld b l w) (hl : l.length ≤ 100) :
    Calls Tryd.prog 14 #[.pointer (some ⟨b, 0, none⟩), .int .u8 44] w fun e w' => e = .returned .nilIface ∧ Bld b (l ++ [44]) w' ∧ Below b w w' := wb_any b l 44 w h hl
theorem ws_any (b : Nat) (l m : List UInt8) (w : World) (h : Bld b l w) (hl : l.length ≤ 100) (hm : m.length ≤ 100) :
    Calls Tryd.prog 15 #[.pointer (some ⟨b, 0, none⟩), .string ⟨m.toArray⟩] w fun e w' => ∃ v, e = .returned v ∧ Bld b (l ++ m) w' ∧ Below b w w' := by
  refine (Tryd.Builder_WriteString_k b b _ _ w h (by simp [Lib.byteCells_length, ByteArray.size]; omega) (Nat.le_of_lt h.le)).mono ?_
  rintro e w' ⟨he, h1, h2, _⟩
  refine ⟨_, he, .inr ?_, h2⟩
  have : Lib.byteCells (l ++ m) = Lib.byteCells l ++ Lib.strCells ⟨m.toArray⟩ := by simp [Lib.byteCells, Lib.strCells]
  rw [this]; exact h1
theorem st_any (b : Nat) (l : List UInt8) (w : World) (h : Bld b l w) (h0 : l ≠ []) :
    Calls Tryd.prog 17 #[.pointer (some ⟨b, 0, none⟩)] w fun e w' => e = .returned (.string ⟨l.toArray⟩) ∧ Below b w w' := by
  refine (Tryd.Builder_String_k b b l w h h0).mono ?_
  rintro e w' ⟨he, _, h2, _⟩
  exact ⟨he, h2⟩

end Go.Proofs.YtfibeifkmfnehaaDoor
