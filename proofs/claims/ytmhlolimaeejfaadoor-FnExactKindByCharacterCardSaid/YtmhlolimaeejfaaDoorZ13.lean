/- Several texts in one: XAp, XGd, XGr, XGt. -/
import Derived.Test.YtmhlolimaeejfaaDoorZ4
import Derived.Deep.AppendLies
import Derived.Test.YtmhlolimaeejfaaDoorRq
import Derived.Test.YtmhlolimaeejfaaDoorZ8

/- Appends to rows of the call's own, with all that they ask. -/
namespace Go.Proofs.YtmhlolimaeejfaaDoor
open Go.RowKit

/-- append(out, z), out a row of integers of the call's own: z lies in the newest block. -/
theorem app_i64 {ops : Array Oper} {rest : List Oper} {o : Oper} {a : Act} {Q : Exit → Act → World → Prop} {w : World} {T : TypeId} (hgd : o.guard = none) (s x : Operand)
    (ho : o.op = .call { callee := .builtin .append, args := #[s, x], argTypes := #[33, 33] }) (base : Nat) {v : Value} {n : Nat} {xs : List Value} (hs : a.eval s = v) (hown : w.ownsRow base 2 1 v n xs)
    {z : Int} (hx : a.eval x = .slice (some ⟨w.heap.size, 0, none⟩) 1 1) (hn : n ≤ 1000000000) (hbase : base ≤ w.heap.size)
    (h : ∀ v' w', w'.ownsRow base 2 1 v' (n + 1) (xs ++ [.int .i64 z]) → (w.alloc (.cells #[.int .i64 z] T)).grownBy w' v.ownBlock → wpList Tryd.prog ops Q rest (a.put o.dst v') w') : wpList Tryd.prog ops Q (o :: rest) a (w.alloc (.cells #[.int .i64 z] T)) := by
  obtain ⟨i0, hi, hi0, hi1, hi2⟩ := info_parts info_l64
  refine wpList_append_own _ hgd s x 33 ho base 2 i0 (.int .i64 0) 1 8 Tryd.underlying33 hi hi0 hi1 hi2 rfl (by decide) v n xs hs (hown.alloc _) ⟨w.heap.size, 0, none⟩ 1 1 [.int .i64 z] hx rfl ?_ ?_ ?_ ?_ ?_ (fun v' w' h1 h2 _ => h v' w' h1 h2)
  · intro j u hj
    match j, hj with
    | 0, hj => simp at hj; subst hj; simp [Addr.add, go_sem]
  · intro u hu; simp at hu; subst hu; rfl
  · unfold maxLen; omega
  · omega
  · simp; omega

/-- .. the newest block told by its number. -/
theorem app_i64n {ops : Array Oper} {rest : List Oper} {o : Oper} {a : Act} {Q : Exit → Act → World → Prop} {w : World} {T : TypeId} (hgd : o.guard = none) (s x : Operand)
    (ho : o.op = .call { callee := .builtin .append, args := #[s, x], argTypes := #[33, 33] }) (base N : Nat) {v : Value} {n : Nat} {xs : List Value} (hs : a.eval s = v) (hown : w.ownsRow base 2 1 v n xs)
    {z : Int} (hx : a.eval x = .slice (some ⟨N, 0, none⟩) 1 1) (hN : N = w.heap.size) (hn : n ≤ 1000000000) (hbase : base ≤ w.heap.size)
    (h : ∀ v' w', w'.ownsRow base 2 1 v' (n + 1) (xs ++ [.int .i64 z]) → (w.alloc (.cells #[.int .i64 z] T)).grownBy w' v.ownBlock → wpList Tryd.prog ops Q rest (a.put o.dst v') w') : wpList Tryd.prog ops Q (o :: rest) a (w.alloc (.cells #[.int .i64 z] T)) := by
  subst hN
  exact app_i64 hgd s x ho base hs hown hx hn hbase h

/-- .. in a region that draws its order. -/
theorem step_i64 {ops : Array Oper} {o : Oper} {a : Act} {K : Act → World → Prop} {Q : Exit → Act → World → Prop} {E : Prop} {w : World} {T : TypeId} (hgd : o.guard = none) (s x : Operand)
    (ho : o.op = .call { callee := .builtin .append, args := #[s, x], argTypes := #[33, 33] }) (base : Nat) (v : Value) {n : Nat} {xs : List Value} (hs : a.eval s = v) (hown : w.ownsRow base 2 1 v n xs)
    (z : Int) (hx : a.eval x = .slice (some ⟨w.heap.size, 0, none⟩) 1 1) (hn : n ≤ 1000000000) (hbase : base ≤ w.heap.size)
    (h : ∀ g cap w', w'.ownsRow base 2 1 (.slice (some ⟨g, 0, none⟩) (n + 1) cap) (n + 1) (xs ++ [.int .i64 z]) → (w.alloc (.cells #[.int .i64 z] T)).grownBy w' v.ownBlock → K (a.put o.dst (.slice (some ⟨g, 0, none⟩) (n + 1) cap)) w') :
    if Region.wanted o (yielded ops a.tmps) = true then Oper.wp Tryd.prog o a (w.alloc (.cells #[.int .i64 z] T)) K Q else E := by
  obtain ⟨i0, hi, hi0, hi1, hi2⟩ := info_parts info_l64
  refine step_append_lies _ hgd s x 33 ho base 2 i0 (.int .i64 0) 1 8 Tryd.underlying33 hi hi0 hi1 hi2 rfl (by decide) v n xs hs (hown.alloc _) ⟨w.heap.size, 0, none⟩ 1 1 [.int .i64 z] hx rfl ?_ ?_ (by decide) ?_ ?_ ?_ _ rfl (fun g cap w' h1 h2 _ _ => h g cap w' h1 h2)
  · intro j u hj
    match j, hj with
    | 0, hj => simp at hj; subst hj; simp [Addr.add, go_sem]
  · intro u hu; simp at hu; subst hu; rfl
  · unfold maxLen; omega
  · omega
  · simp; omega


end Go.Proofs.YtmhlolimaeejfaaDoor

/- Chapter 5: divisors, the model's. -/
namespace Go.Proofs.YtmhlolimaeejfaaDoor
open Go.RowKit

/-- The divisors of D among 1, .., k. -/
def dvK (D : Int) (k : Nat) : List Int := ((List.range k).map fun j : Nat => (j : Int) + 1).filter fun y => D % y == 0
theorem dvK_s (D : Int) (k : Nat) : dvK D (k + 1) = dvK D k ++ (if (D % ((k : Int) + 1) == 0) = true then [(k : Int) + 1] else []) := by
  unfold dvK
  rw [List.range_succ, List.map_append, List.filter_append]
  simp [List.filter_cons]
theorem dvK_t {D : Int} {k : Nat} (h : (D % ((k : Int) + 1) == 0) = true) : dvK D (k + 1) = dvK D k ++ [(k : Int) + 1] := by rw [dvK_s, if_pos h]
theorem dvK_f {D : Int} {k : Nat} (h : (D % ((k : Int) + 1) == 0) = false) : dvK D (k + 1) = dvK D k := by rw [dvK_s, h]; simp
theorem dvK_len (D : Int) (k : Nat) : (dvK D k).length ≤ k := by
  have := List.length_filter_le (fun y : Int => D % y == 0) ((List.range k).map fun j : Nat => (j : Int) + 1)
  simpa [dvK] using this
theorem dv_app {w : World} {B : Nat} {t : TypeId} {v : Value} {D : Int} {k : Nat} (hp : dvK D (k + 1) = dvK D k ++ [(k : Int) + 1]) (h : w.ownsRow B t 1 v ((dvK D k).length + 1) ((dvK D k).map (Value.int .i64) ++ [.int .i64 ((k : Int) + 1)])) : w.ownsRow B t 1 v (dvK D (k + 1)).length ((dvK D (k + 1)).map (Value.int .i64)) := by
  rw [hp]; simpa using h

/-- A row of integers of the call's own. -/
def DvOut (L : List Int) (w : World) (e : Ending) (w' : World) : Prop := ∃ v, e = .returned v ∧ w'.ownsRow w.heap.size 2 1 v L.length (L.map (Value.int .i64)) ∧ Below w.heap.size w w'

set_option maxRecDepth 100000 in
set_option maxHeartbeats 1000000 in
theorem l05Divisors_any (n : Int) (N : Nat) (w : World) (h0 : -1000 ≤ n) (h1 : n ≤ 1000) (hN : N = n.natAbs) : Calls Tryd.prog 69 #[.int .i64 n] w (DvOut (dvK N N) w) := by
  have hcase : (n < -n ∧ -n = (N : Int)) ∨ (¬ n < -n ∧ n = (N : Int)) := by omega
  have hN' : N ≤ 1000 := by omega
  have O0 := owns_empty w w.heap.size 2 1 (Nat.le_refl _)
  have U0 := gr_alloc (Below.refl w.heap.size w) (.cells #[] 2)
  obtain ⟨i0, hi, hi0, hi1, hi2⟩ := info_parts info_l64
  have HI := hid hi; have HZ0 := hid hi0; have HZ1 := hid hi1; have HZ2 := hid hi2
  clear hi hi0 hi1 hi2 hN
  go_enter Tryd.func69, Tryd.ntmps69
  rcases hcase with ⟨h1', h2⟩ | ⟨h1', h2⟩
  all_goals
    go_wp2_with fail
    go_loopw [3, 4] (fun s3 s4 wr => ∃ k : Nat, k ≤ N ∧ s4 = .int .i64 (((k : Int) + 1)) ∧ wr.ownsRow w.heap.size 2 1 s3 (dvK N k).length ((dvK N k).map (Value.int .i64)) ∧ Below w.heap.size w wr) (fun _ s4 _ => N + 1 - (intOf s4).toNat)
    case atStart => exact ⟨0, Nat.zero_le _, rfl, O0, U0⟩
    case round =>
      obtain ⟨k, hk, rfl, hO, hU⟩ := hrel
      have HO := hid hO; have HU := hid hU
      have hl := dvK_len N k
      have hv := hU.size
      clear hO hU O0 U0
      by_cases hlt : k < N
      · cases hp : ((N : Int) % ((k : Int) + 1) == 0) with
        | false =>
          have HP := hid (dvK_f hp)
          go_wp2
          go_roundw
          case rel => exact ⟨k + 1, by omega, by go_num, by rw [HP.out]; exact HO.out, HU.out⟩
          case measure => simp [intOf]; omega
        | true =>
          have HP := hid (dvK_t hp)
          go_wp2_with (at_builtin; refine app_i64 rfl _ _ rfl w.heap.size rfl HO.out rfl (by omega) (by omega) ?_)
          intro y1 W1 O1 hg1
          have HO1 := hid (dv_app HP.out O1)
          have HU1 := hid (gr_own (gr_alloc HU.out _) hg1 (fun j hj => (HO.out.lt j hj).1))
          clear O1 hg1
          go_wp2
          go_roundw
          case rel => exact ⟨k + 1, by omega, by go_num, HO1.out, HU1.out⟩
          case measure => simp [intOf]; omega
      · have e : k = N := by omega
        subst e
        go_wp2
        go_ret
        exact ⟨_, rfl, HO.out, HU.out⟩


end Go.Proofs.YtmhlolimaeejfaaDoor

/- Chapter 5: what stands while the model looks for rational roots. -/
namespace Go.Proofs.YtmhlolimaeejfaaDoor
open Go.RowKit

/-- The rows found (v: R), the form, the two rows of divisors. -/
structure Sst (w wr : World) (a b c d : Int) (vb : Value) (B : List Int) (va : Value) (D : List Int) (v : Value) (R : List (List Int)) : Prop where
  rw : RwX w.heap.size wr v 2 R
  fm : Bx wr w.heap.size #[.int .i64 a, .int .i64 b, .int .i64 c, .int .i64 d] 26
  ob : wr.ownsRow w.heap.size 2 1 vb B.length (B.map (Value.int .i64))
  oa : wr.ownsRow w.heap.size 2 1 va D.length (D.map (Value.int .i64))
  up : Below w.heap.size w wr
theorem Sst.next {w wr w' : World} {a b c d : Int} {vb : Value} {B : List Int} {va : Value} {D : List Int} {v : Value} {R : List (List Int)} (h : Sst w wr a b c d vb B va D v R) (hb : Below wr.heap.size wr w') : Sst w w' a b c d vb B va D v R :=
  ⟨h.rw.next hb, h.fm.next hb, owns_next h.ob hb, owns_next h.oa hb, gr_trans h.up hb⟩
theorem Sst.app {w wr w' : World} {a b c d : Int} {vb : Value} {B : List Int} {va : Value} {D : List Int} {v v' : Value} {R : List (List Int)} {T : List Nat} (h : Sst w wr a b c d vb B va D v R) (hT : Rwb w.heap.size wr v 2 R T) {z y : Int}
    (hg : ((wr.alloc (.cells #[.int .i64 z, .int .i64 y] 2)).alloc (.cells #[.slice (some ⟨wr.heap.size, 0, none⟩) 2 2] 33)).grownBy w' v.ownBlock)
    (hO : w'.ownsRow w.heap.size 33 1 v' (R.length + 1) ((T.map fun t => Value.slice (some ⟨t, 0, none⟩) 2 2) ++ [.slice (some ⟨wr.heap.size, 0, none⟩) 2 2])) : Sst w w' a b c d vb B va D v' (R ++ [[z, y]]) :=
  ⟨⟨_, hT.app (r := [z, y]) rfl h.up.size hg hO⟩, (h.fm.alloc (.cells (cI [z, y]) 2)).app (hT.own.alloc _) (by decide) hg, owns_keep2 h.ob hT.own (by decide) hg, owns_keep2 h.oa hT.own (by decide) hg,
   gr_own (gr_alloc (gr_alloc h.up _) _) hg (fun j hj => (hT.own.lt j hj).1)⟩

/-- append(out, []int64{z, y}). -/
theorem app_S {ops : Array Oper} {rest : List Oper} {o : Oper} {act : Act} {Q : Exit → Act → World → Prop} {w wr : World} {a b c d : Int} {vb : Value} {B : List Int} {va : Value} {D : List Int} {v : Value} {R : List (List Int)} (hgd : o.guard = none) (s x : Operand)
    (ho : o.op = .call { callee := .builtin .append, args := #[s, x], argTypes := #[23, 23] }) (hs : act.eval s = v) (hS : Sst w wr a b c d vb B va D v R)
    {z y : Int} (hx : act.eval x = .slice (some ⟨wr.heap.size + 1, 0, none⟩) 1 1) (hn : R.length ≤ 100000000)
    (h : ∀ v' w', Sst w w' a b c d vb B va D v' (R ++ [[z, y]]) → wpList Tryd.prog ops Q rest (act.put o.dst v') w') :
    wpList Tryd.prog ops Q (o :: rest) act ((wr.alloc (.cells #[.int .i64 z, .int .i64 y] 2)).alloc (.cells #[.slice (some ⟨wr.heap.size, 0, none⟩) 2 2] 33)) := by
  obtain ⟨i0, hi, hi0, hi1, hi2⟩ := info_parts info_sl5
  obtain ⟨T, hT⟩ := hS.rw
  have hsz := hS.up.size
  refine wpList_append_own _ hgd s x 23 ho w.heap.size 33 i0 (.slice none 0 0) 1 24 Tryd.underlying23 hi hi0 hi1 hi2 rfl (by decide) _ _ _ hs ((hT.own.alloc _).alloc _) ⟨wr.heap.size + 1, 0, none⟩ 1 1 [.slice (some ⟨wr.heap.size, 0, none⟩) 2 2] hx rfl ?_ ?_ ?_ ?_ ?_ (fun v' w' h1 h2 _ => h v' w' (hS.app hT h2 h1))
  · intro j u hj
    match j, hj with
    | 0, hj => simp at hj; subst hj; simp [Addr.add, go_sem]
  · first | (intro u hu; simp at hu; subst hu; rfl) | rfl | simp [Value.oneCell']
  · unfold maxLen; omega
  · omega
  · simp; omega


end Go.Proofs.YtmhlolimaeejfaaDoor

/- Chapter 5: rational roots, the model's list. -/
namespace Go.Proofs.YtmhlolimaeejfaaDoor
open Go.RowKit

def fsS (F n : Int) : Int := if F = 0 then n else F
theorem fsS_0 (n : Int) : fsS 0 n = n := by simp [fsS]
theorem fsS_n {F n : Int} (h : F ≠ 0) : fsS F n = F := by simp [fsS, h]
def fsK (a b c d : Int) : Nat → Int
  | 0 => a
  | 1 => a
  | 2 => fsS a b
  | 3 => fsS (fsS a b) c
  | _ => fsS (fsS (fsS a b) c) d
theorem fsK_n {a b c d : Int} {k : Nat} (h : fsK a b c d k ≠ 0) (hk : k ≤ 4) : fsK a b c d 4 = fsK a b c d k := by
  have hk' : k = 0 ∨ k = 1 ∨ k = 2 ∨ k = 3 ∨ k = 4 := by omega
  rcases hk' with rfl | rfl | rfl | rfl | rfl <;> simp only [fsK] at h ⊢ <;> simp only [fsS_n h]
/-- Is x, y a root, z and y apart? -/
def cnd (a b c d z x y : Int) : Bool := ((Int.gcd z y : Int) == 1) && (vl a b c d x y == 0)
def mN (a b c d y : Int) (D : List Int) (k : Nat) : List (List Int) := ((D.drop k).reverse.filter fun z => cnd a b c d z (-z) y).map fun z => [-z, y]
def mP (a b c d y : Int) (D : List Int) (k : Nat) : List (List Int) := ((D.take k).filter fun z => cnd a b c d z z y).map fun z => [z, y]
def mZ (d y : Int) : List (List Int) := if (y == 1 && d == 0) = true then [[0, 1]] else []
def mY (a b c d : Int) (D : List Int) (y : Int) : List (List Int) := mN a b c d y D 0 ++ mZ d y ++ mP a b c d y D D.length
def m0r (a : Int) : List (List Int) := if (a == 0) = true then [[1, 0]] else []
def mK (a b c d : Int) (B D : List Int) (i : Nat) : List (List Int) := m0r a ++ (B.take i).flatMap (mY a b c d D)
theorem mN_s {a b c d y : Int} {D : List Int} {k : Nat} (h : k < D.length) : mN a b c d y D k = mN a b c d y D (k + 1) ++ (if cnd a b c d D[k] (-D[k]) y = true then [[-D[k], y]] else []) := by
  unfold mN
  rw [List.drop_eq_getElem_cons h, List.reverse_cons, List.filter_append, List.map_append]
  congr 1
  simp only [List.filter_cons, List.filter_nil]
  split <;> simp
theorem mP_s {a b c d y : Int} {D : List Int} {k : Nat} (h : k < D.length) : mP a b c d y D (k + 1) = mP a b c d y D k ++ (if cnd a b c d D[k] D[k] y = true then [[D[k], y]] else []) := by
  unfold mP
  rw [List.take_succ_eq_append_getElem h, List.filter_append, List.map_append]
  congr 1
  simp only [List.filter_cons, List.filter_nil]
  split <;> simp
theorem mN_e (a b c d y : Int) (D : List Int) : mN a b c d y D D.length = [] := by simp [mN]
theorem mP_0 (a b c d y : Int) (D : List Int) : mP a b c d y D 0 = [] := by simp [mP]
theorem mK_s {a b c d : Int} {B D : List Int} {i : Nat} (h : i < B.length) : mK a b c d B D (i + 1) = mK a b c d B D i ++ mY a b c d D B[i] := by
  unfold mK
  rw [List.take_succ_eq_append_getElem h, List.flatMap_append, ← List.append_assoc]
  simp
theorem mN_len (a b c d y : Int) (D : List Int) (k : Nat) : (mN a b c d y D k).length ≤ D.length := by
  unfold mN
  rw [List.length_map]
  have := List.length_filter_le (fun z => cnd a b c d z (-z) y) (D.drop k).reverse
  rw [List.length_reverse, List.length_drop] at this
  omega
theorem mP_len (a b c d y : Int) (D : List Int) (k : Nat) : (mP a b c d y D k).length ≤ D.length := by
  unfold mP
  rw [List.length_map]
  have := List.length_filter_le (fun z => cnd a b c d z z y) (D.take k)
  rw [List.length_take] at this
  omega
theorem mZ_len (d y : Int) : (mZ d y).length ≤ 1 := by unfold mZ; split <;> simp
theorem mK_len (a b c d : Int) (B D : List Int) : ∀ i, i ≤ B.length → (mK a b c d B D i).length ≤ 1 + i * (2 * D.length + 1) := by
  intro i
  induction i with
  | zero => intro _; unfold mK m0r; split <;> simp
  | succ i ih =>
    intro h
    rw [mK_s (by omega), List.length_append, Nat.succ_mul]
    have h1 := ih (by omega)
    have h2 := mN_len a b c d B[i] D 0
    have h3 := mP_len a b c d B[i] D D.length
    have h4 := mZ_len d B[i]
    unfold mY
    rw [List.length_append, List.length_append]
    omega
theorem mem_dvK {D z : Int} {k : Nat} (h : z ∈ dvK D k) : 1 ≤ z ∧ z ≤ k ∧ D % z = 0 := by
  unfold dvK at h
  obtain ⟨h1, h2⟩ := List.mem_filter.1 h
  obtain ⟨j, hj, rfl⟩ := List.mem_map.1 h1
  have := List.mem_range.1 hj
  exact ⟨by omega, by omega, by simpa using h2⟩
theorem dvK_pos {N : Nat} (h : 1 ≤ N) : 0 < (dvK N N).length := by
  refine List.length_pos_of_mem (a := 1) ?_
  unfold dvK
  refine List.mem_filter.2 ⟨List.mem_map.2 ⟨0, List.mem_range.2 (by omega), rfl⟩, by simp⟩
theorem ocell {w : World} {B g n cap : Nat} {t : TypeId} {L : List Int} (h : w.ownsRow B t 1 (.slice (some ⟨g, 0, none⟩) n cap) L.length (L.map (Value.int .i64))) (i : Nat) (hi : i < L.length) : w.cell? ⟨g, i, none⟩ = some (.int .i64 L[i]) ∧ g < w.heap.size := by
  obtain ⟨a, cap', e, _, _, hc⟩ := owns_form h
  obtain ⟨g', rfl, hg, hcell⟩ := hc (by omega)
  cases e
  exact ⟨hcell i _ (by simp [hi]), hg⟩
/-- A cell that stays. -/
def CellAt (w : World) (g k : Nat) (z : Int) : Prop := g < w.heap.size ∧ w.cell? ⟨g, k, none⟩ = some (.int .i64 z)
theorem CellAt.next {w w' : World} {g k : Nat} {z : Int} (h : CellAt w g k z) (hb : Below w.heap.size w w') : CellAt w' g k z := ⟨Nat.lt_of_lt_of_le h.1 hb.size, (hb.cell (p := ⟨g, k, none⟩) h.1).trans h.2⟩
theorem CellAt.drew {w : World} {g k : Nat} {z : Int} (h : CellAt w g k z) : CellAt w.drew g k z := h.next (Below.refl _ w).drew
theorem CellAt.alloc {w : World} {g k : Nat} {z : Int} (h : CellAt w g k z) (o : Obj) : CellAt (w.alloc o) g k z := h.next ((Below.refl _ w).alloc (Nat.le_refl _) o)
theorem cellsS {W : World} {kf g k : Nat} {a b c d z : Int} (F : Arr W kf a b c d) (C : CellAt W g k z) :
    W.cell? ⟨kf, 0, none⟩ = some (.int .i64 a) ∧ W.cell? ⟨kf, 1, none⟩ = some (.int .i64 b) ∧ W.cell? ⟨kf, 2, none⟩ = some (.int .i64 c) ∧ W.cell? ⟨kf, 3, none⟩ = some (.int .i64 d) ∧ W.cell? ⟨g, k, none⟩ = some (.int .i64 z) := ⟨F.c0, F.c1, F.c2, F.c3, C.2⟩


end Go.Proofs.YtmhlolimaeejfaaDoor
