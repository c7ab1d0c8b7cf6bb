/- The library's ParseInt and SplitN as ParseForm uses them. -/
import Derived.Test.YtfibeifkmfnehaaDoorPm
import Derived.Test.YtfibeifkmfnehaaDoorShp
import Derived.Test.YtfibeifkmfnehaaDoorShf
import Derived.Test.YtfibeifkmfnehaaDoorFt4
import Derived.Lib.AtoiErrMem
import Derived.WalkSmall
namespace Go.Proofs.YtfibeifkmfnehaaDoor
open Go.RowKit

/-- The two errors of strconv are laid. -/
def Errs (w : World) : Prop := (∃ tp p, w.var? Tryd.prog "strconv.ErrSyntax" = some #[.iface tp p]) ∧ (∃ tp p, w.var? Tryd.prog "strconv.ErrRange" = some #[.iface tp p])
theorem var_next {w w' : World} {n : String} {cs : Array Value} (h : w.var? Tryd.prog n = some cs) (hb : Below w.heap.size w w') : w'.var? Tryd.prog n = some cs := by
  unfold World.var? at h ⊢
  cases hg : Tryd.prog.globalNamed n with
  | none => simp [hg] at h
  | some g =>
    simp only [hg, Option.bind_some] at h ⊢
    have hlt : g < w.heap.size := by
      rcases Nat.lt_or_ge g w.heap.size with h' | h'
      · exact h'
      · simp [Array.getElem?_eq_none h'] at h
    rw [hb.block g hlt]; exact h
theorem Errs.next {w w' : World} (h : Errs w) (hb : Below w.heap.size w w') : Errs w' := by
  obtain ⟨⟨t, p, h1⟩, ⟨t', p', h2⟩⟩ := h
  exact ⟨⟨t, p, var_next h1 hb⟩, ⟨t', p', var_next h2 hb⟩⟩
/-- What ParseInt hands back. -/
def PiOut (s : ByteArray) (w : World) (e : Ending) (w' : World) : Prop := ∃ (n : Int) (er : Value), e = .returned (.tuple #[.int .i64 n, er]) ∧ ((er = .nilIface ∧ Lib.parseIntB 64 s.data.toList = .ok n) ∨ ((∃ N, er = .iface 78 (.pointer (some ⟨N, 0, none⟩))) ∧ ∀ v, Lib.parseIntB 64 s.data.toList ≠ .ok v)) ∧ Below w.heap.size w w'
theorem parse_any (s : ByteArray) (w : World) (hl : s.size ≤ 281474976710656) (h : Errs w) : Calls Tryd.prog 20 #[.string s, .int .i64 10, .int .i64 64] w (PiOut s w) := by
  obtain ⟨⟨t, p, h1⟩, ⟨t', p', h2⟩⟩ := h
  unfold PiOut
  cases hp : Lib.parseIntB 64 s.data.toList with
  | ok v =>
    refine (Tryd.strconv_ParseInt_10_at64_ok s (by omega) v hp w).mono ?_
    rintro e w' ⟨rfl, hw⟩
    refine ⟨v, _, rfl, .inl ⟨rfl, rfl⟩, ?_⟩
    rcases hw with rfl | ⟨t, rfl⟩
    · exact Below.refl _ _
    · exact Lib.bytesWorld_below _ _ _
  | range =>
    refine (Tryd.strconv_ParseInt_10_at64_range_var s hl hp t' p' w h2).mono ?_
    rintro e w' ⟨N, rfl, _, _, hb⟩
    exact ⟨_, _, rfl, .inr ⟨⟨N, rfl⟩, fun v e => by cases e⟩, hb⟩
  | _ =>
    refine (Any.strconv_ParseInt_10_at64_syntax_var Tryd.laysC174 s hl hp t p w h1).mono ?_
    rintro e w' ⟨N, rfl, _, _, hb⟩
    exact ⟨_, _, rfl, .inr ⟨⟨N, rfl⟩, fun v e => by cases e⟩, hb⟩
/-- Parts of a text, as SplitN lays them. -/
structure TB (g : Nat) (p q r s : ByteArray) (W : World) : Prop where
  lt : g < W.heap.size
  c0 : W.cell? ⟨g, 0, none⟩ = some (.string p)
  c1 : W.cell? ⟨g, 1, none⟩ = some (.string q)
  c2 : W.cell? ⟨g, 2, none⟩ = some (.string r)
  c3 : W.cell? ⟨g, 3, none⟩ = some (.string s)
theorem TB.next {g : Nat} {p q r s : ByteArray} {W W' : World} (h : TB g p q r s W) (hb : Below W.heap.size W W') : TB g p q r s W' :=
  ⟨Nat.lt_of_lt_of_le h.lt hb.size, (hb.cell (p := ⟨g, 0, none⟩) h.lt).trans h.c0, (hb.cell (p := ⟨g, 1, none⟩) h.lt).trans h.c1, (hb.cell (p := ⟨g, 2, none⟩) h.lt).trans h.c2, (hb.cell (p := ⟨g, 3, none⟩) h.lt).trans h.c3⟩
theorem TB.oth {g : Nat} {p q r s : ByteArray} {W : World} (h : TB g p q r s W) {a : Addr} (ha : g ≠ a.block) (x : Value) : TB g p q r s (W.setCell a x) := by
  have e : ∀ i, (W.setCell a x).cell? ⟨g, i, none⟩ = W.cell? ⟨g, i, none⟩ := fun i => World.cell?_setCell_other _ _ _ _ (fun e => ha (by rw [e]))
  exact ⟨by simpa using h.lt, (e 0).trans h.c0, (e 1).trans h.c1, (e 2).trans h.c2, (e 3).trans h.c3⟩
/-- What SplitN(text, ",", 5) hands back. -/
def SnOut (l : List UInt8) (w : World) (e : Ending) (w' : World) : Prop := ∃ (P : List ByteArray) (cap : Nat), e = .returned (.slice (some ⟨w.heap.size, 0, none⟩) P.length cap) ∧ P = Lib.splitB ⟨#[44]⟩ 0 (min 5 (l.length + 1) - 1) ⟨l.toArray⟩ ∧ (4 ≤ P.length → 4 ≤ cap) ∧ cap ≤ 5 ∧ (∀ p q r s, P = [p, q, r, s] → TB w.heap.size p q r s w') ∧ (∀ p ∈ P, p.size ≤ l.length) ∧ Below w.heap.size w w'
theorem splitB_le : ∀ (k : Nat) (sep : ByteArray) (sv : Nat) (s : ByteArray), (∀ p ∈ Lib.splitB sep sv k s, p.size ≤ s.size) ∧ (Lib.splitB sep sv k s).length ≤ k + 1 := by
  intro k
  induction k with
  | zero => intro sep sv s; simp [Lib.splitB]
  | succ k ih =>
    intro sep sv s
    rw [Lib.splitB]
    split
    · simp
    · obtain ⟨h1, h2⟩ := ih sep sv (s.extract ((Lib.indexB s sep).toNat + sep.size) s.size)
      refine ⟨fun p hp => ?_, by simp only [List.length_cons]; omega⟩
      rcases List.mem_cons.1 hp with rfl | hp
      · rw [ByteArray.size_extract]; omega
      · refine Nat.le_trans (h1 p hp) ?_
        rw [ByteArray.size_extract]; omega
theorem splitn_any (l : List UInt8) (w : World) (m : Int) (hl : l.length ≤ 1048576) (hm : w.cell? ⟨3, 0, none⟩ = some (.int .i64 m)) : Calls Tryd.prog 19 #[.string ⟨l.toArray⟩, .string ⟨#[44]⟩, .int .i64 5] w (SnOut l w) := by
  have hz : (⟨l.toArray⟩ : ByteArray).size = l.length := by simp [ByteArray.size]
  refine (Tryd.strings_SplitN ⟨l.toArray⟩ ⟨#[44]⟩ 5 m w (by rw [hz]; omega) hm (by decide) (by decide) (by decide)).mono ?_
  rintro e w' ⟨rfl, rfl⟩
  rw [hz]
  obtain ⟨h1, h2⟩ := splitB_le (min 5 (l.length + 1) - 1) ⟨#[44]⟩ 0 ⟨l.toArray⟩
  rw [hz] at h1
  generalize hP : Lib.splitB ⟨#[44]⟩ 0 (min 5 (l.length + 1) - 1) ⟨l.toArray⟩ = P at h1 h2 ⊢
  refine ⟨P, _, rfl, hP.symm, by omega, by omega, ?_, h1, gr_alloc (Below.refl _ w) _⟩
  rintro p q r s rfl
  simp only [List.length_cons, List.length_nil] at h2
  generalize min 5 (l.length + 1) = n
  refine ⟨by simp, ?_, ?_, ?_, ?_⟩ <;> simp [go_sem, Lib.cellsOf]

end Go.Proofs.YtfibeifkmfnehaaDoor
