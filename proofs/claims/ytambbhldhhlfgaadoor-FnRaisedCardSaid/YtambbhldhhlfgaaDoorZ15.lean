/- Several texts in one: XOc, XAp. -/
import Derived.Test.YtambbhldhhlfgaaDoorOb
import Derived.Test.YtambbhldhhlfgaaDoorZ5
import Derived.Deep.AppendLies

/- Chapter 6: lowered forms, the model's; values at points. -/
namespace Go.Proofs.YtambbhldhhlfgaaDoor
open Go.RowKit

set_option maxRecDepth 100000 in
set_option maxHeartbeats 1000000 in
theorem l06At_any (a b c d p r : Int) (w : World) (ha : -1000 ≤ a ∧ a ≤ 1000) (hb : -1000 ≤ b ∧ b ≤ 1000) (hc : -1000 ≤ c ∧ c ≤ 1000) (hd : -1000 ≤ d ∧ d ≤ 1000) (h0 : 0 ≤ r) (h97 : r ≤ 97) :
    Calls Tryd.prog 81 #[.agg #[.int .i64 a, .int .i64 b, .int .i64 c, .int .i64 d], .int .i64 p, .int .i64 r] w fun e w' => e = .returned (.int .i64 (tlD a b c d p r)) ∧ Below w.heap.size w w' := by
  obtain ⟨e1, e2⟩ := tlD_at (p := p) ha hb hc hd h0 h97
  have U0 := gr_alloc (Below.refl w.heap.size w) (.cells #[.int .i64 a, .int .i64 b, .int .i64 c, .int .i64 d] 25)
  generalize tlD a b c d p r = t at e1 e2 ⊢
  by_cases hr : r = p
  · have HE := hid (e1 hr)
    have hr' : (r == p) = true := by simpa using hr
    clear hr e1 e2
    go_enter Tryd.func81, Tryd.ntmps81
    go_wp2
    go_ret
    rw [← HE.out]
    exact ⟨rfl, by (repeat' (first | with_reducible exact Below.refl _ _ | with_reducible assumption | with_reducible refine gr_alloc ?_ _ | with_reducible refine gr_drew ?_ | with_reducible refine gr_drewN ?_ _ | with_reducible refine gr_trans ?_ (by assumption) | with_reducible refine gr_set ?_ ?_ _ | (simp; done) | omega | (simp; omega)))⟩
  · have hv := fun W => sValue_any a b c d r 1 W
    rw [e2 hr] at hv
    have HV := hid hv
    have hr' : (r == p) = false := by simpa using hr
    clear hr e1 e2 hv
    go_enter Tryd.func81, Tryd.ntmps81
    go_wp2_with fail
    refine (HV.out _).mono ?_
    rintro e w1 ⟨rfl, hb1⟩
    go_wp2_with fail
    go_ret
    exact ⟨rfl, by (repeat' (first | with_reducible exact Below.refl _ _ | with_reducible assumption | with_reducible refine gr_alloc ?_ _ | with_reducible refine gr_drew ?_ | with_reducible refine gr_drewN ?_ _ | with_reducible refine gr_trans ?_ (by assumption) | with_reducible refine gr_set ?_ ?_ _ | (simp; done) | omega | (simp; omega)))⟩

set_option maxRecDepth 100000 in
set_option maxHeartbeats 2000000 in
theorem l06Lowered_any (a b c d p r : Int) (w : World) (ha : -1000 ≤ a ∧ a ≤ 1000) (hb : -1000 ≤ b ∧ b ≤ 1000) (hc : -1000 ≤ c ∧ c ≤ 1000) (hd : -1000 ≤ d ∧ d ≤ 1000) (h2 : 2 ≤ p) (h97 : p ≤ 97) (h0 : 0 ≤ r) (hr : r ≤ p) :
    Calls Tryd.prog 82 #[.agg #[.int .i64 a, .int .i64 b, .int .i64 c, .int .i64 d], .int .i64 p, .int .i64 r] w fun e w' => e = .returned (.agg #[.int .i64 (loA a b c d p r), .int .i64 (loB a b c d p r), .int .i64 (loC a b c d p r), .int .i64 (loD a b c d p r)]) ∧ Below w.heap.size w w' := by
  obtain ⟨bA, bB, bC, bD⟩ := tl_bd (p := p) ha hb hc hd h0 (by omega)
  have k1 : r = p → ∀ W, Calls Tryd.prog 135 #[.agg #[.int .i64 a, .int .i64 b, .int .i64 c, .int .i64 d], .agg #[.int .i64 0, .int .i64 1, .int .i64 (-1), .int .i64 0]] W fun e w' => e = .returned (.agg #[.int .i64 (tlA a b c d p r), .int .i64 (tlB a b c d p r), .int .i64 (tlC a b c d p r), .int .i64 (tlD a b c d p r)]) ∧ Below W.heap.size W w' := fun h W => by
    obtain ⟨e1, e2, e3, e4⟩ := ch_wr (p := 0) (q := 1) (r := -1) (s := 0) ha hb hc hd (by omega) (by omega) (by omega) (by omega)
    have hs := sChange0_any a b c d 0 1 (-1) 0 W
    rwa [e1, e2, e3, e4, show cA a b c d 0 (-1) = tlA a b c d p r by simp [tlA, h], show cB a b c d 0 1 (-1) 0 = tlB a b c d p r by simp [tlB, h], show cC a b c d 0 1 (-1) 0 = tlC a b c d p r by simp [tlC, h], show cA a b c d 1 0 = tlD a b c d p r by simp [tlD, h]] at hs
  have k2 : r ≠ p → ∀ W, Calls Tryd.prog 135 #[.agg #[.int .i64 a, .int .i64 b, .int .i64 c, .int .i64 d], .agg #[.int .i64 1, .int .i64 r, .int .i64 0, .int .i64 1]] W fun e w' => e = .returned (.agg #[.int .i64 (tlA a b c d p r), .int .i64 (tlB a b c d p r), .int .i64 (tlC a b c d p r), .int .i64 (tlD a b c d p r)]) ∧ Below W.heap.size W w' := fun h W => by
    obtain ⟨e1, e2, e3, e4⟩ := ch_wr (p := 1) (q := r) (r := 0) (s := 1) ha hb hc hd (by omega) (by omega) (by omega) (by omega)
    have hs := sChange0_any a b c d 1 r 0 1 W
    rwa [e1, e2, e3, e4, show cA a b c d 1 0 = tlA a b c d p r by simp [tlA, h], show cB a b c d 1 r 0 1 = tlB a b c d p r by simp [tlB, h], show cC a b c d 1 r 0 1 = tlC a b c d p r by simp [tlC, h], show cA a b c d r 1 = tlD a b c d p r by simp [tlD, h]] at hs
  unfold loA loB loC loD
  generalize tlA a b c d p r = x at *
  generalize tlB a b c d p r = y at *
  generalize tlC a b c d p r = z at *
  generalize tlD a b c d p r = u at *
  have K1 := hid k1; have K2 := hid k2
  clear k1 k2 ha hb hc hd
  obtain ⟨dy1, dy2⟩ := td_bd (m := p) bD
  obtain ⟨pu1, pu2⟩ := px_bd h2 h97 bB
  obtain ⟨px1, px2⟩ := ppx_bd h2 h97 bA
  obtain ⟨pp1, pp2⟩ := pp_bd h2 h97
  have hz2 : (p == 0) = false := by simp; omega
  have hz4 : ¬ p = 0 := by omega
  have R0 := (Arr.new (w.alloc (.cells #[.int .i64 a, .int .i64 b, .int .i64 c, .int .i64 d] 25)) 0 0 0 0 25)
  have U0 := gr_alloc (gr_alloc (Below.refl w.heap.size w) (.cells #[.int .i64 a, .int .i64 b, .int .i64 c, .int .i64 d] 25)) (.cells #[.int .i64 0, .int .i64 0, .int .i64 0, .int .i64 0] 25)
  simp only [World.size_alloc] at R0
  by_cases h : r = p
  all_goals
    first
      | (have HC := hid (K1.out h); have hr' : (r == p) = true := (by simpa using h))
      | (have HC := hid (K2.out h); have hr' : (r == p) = false := (by simpa using h))
    clear h K1 K2
    go_enter Tryd.func82, Tryd.ntmps82
    go_wp2_with fail
    refine (HC.out _).mono ?_
    rintro e w1 ⟨rfl, hb1⟩
  · have R1 := ((R0.alloc (.cells #[.int .i64 0, .int .i64 1, .int .i64 (-1), .int .i64 0] 64)).next hb1).alloc (.cells #[.int .i64 x, .int .i64 y, .int .i64 z, .int .i64 u] 25)
    have T1 := Arr.new w1 x y z u 25
    have U1 := gr_alloc (gr_trans (gr_alloc U0 (.cells #[.int .i64 0, .int .i64 1, .int .i64 (-1), .int .i64 0] 64)) hb1) (.cells #[.int .i64 x, .int .i64 y, .int .i64 z, .int .i64 u] 25)
    have hs1 := R1.lt
    go_wp2_with fail
    generalize w1.alloc (.cells #[.int .i64 x, .int .i64 y, .int .i64 z, .int .i64 u] 25) = W2 at R1 T1 U1 ⊢
    obtain ⟨_, r0, r1, r2, r3, f0, f1, f2, f3⟩ := id R1
    obtain ⟨_, t0, t1, t2, t3, _⟩ := id T1
    have hwp : IntKind.i64.wrap (p * p) = p * p := i64w (by omega)
    have hwx : IntKind.i64.wrap (p * p * x) = p * p * x := i64w (by omega)
    have hwy : IntKind.i64.wrap (p * y) = p * y := i64w (by omega)
    have hwu : IntKind.i64.wrap (u.tdiv p) = u.tdiv p := i64w (by omega)
    go_still_tail 17, (by kernel_rfl)
    go_wp2_with fail
    clear T1
    refine bodyPost_ret (res_A1 (e := 2) rfl Tryd.underlying25 (by kernel_rfl) rfl (by (repeat (first | with_reducible assumption | with_reducible exact Arr.box (by assumption) | with_reducible apply Arr.drew | with_reducible apply Arr.drewN | with_reducible refine Arr.store4 ?_ | with_reducible apply Arr.alloc | with_reducible refine Box.drew ?_ | with_reducible refine Box.drewN ?_ _ | with_reducible refine Box.alloc ?_ _ | refine Arr.oth ?_ (by first | (simp; done) | omega | (simp; omega)) _ | refine Box.oth ?_ (by first | (simp; done) | omega | (simp; omega)) _)))) rfl ?_
    exact ⟨rfl, by (repeat' (first | with_reducible exact Below.refl _ _ | with_reducible assumption | with_reducible refine gr_alloc ?_ _ | with_reducible refine gr_drew ?_ | with_reducible refine gr_drewN ?_ _ | with_reducible refine gr_trans ?_ (by assumption) | with_reducible refine gr_set ?_ ?_ _ | (simp; done) | omega | (simp; omega)))⟩
  · have R1 := ((R0.alloc (.cells #[.int .i64 1, .int .i64 r, .int .i64 0, .int .i64 1] 64)).next hb1).alloc (.cells #[.int .i64 x, .int .i64 y, .int .i64 z, .int .i64 u] 25)
    have T1 := Arr.new w1 x y z u 25
    have U1 := gr_alloc (gr_trans (gr_alloc U0 (.cells #[.int .i64 1, .int .i64 r, .int .i64 0, .int .i64 1] 64)) hb1) (.cells #[.int .i64 x, .int .i64 y, .int .i64 z, .int .i64 u] 25)
    have hs1 := R1.lt
    go_wp2_with fail
    generalize w1.alloc (.cells #[.int .i64 x, .int .i64 y, .int .i64 z, .int .i64 u] 25) = W2 at R1 T1 U1 ⊢
    obtain ⟨_, r0, r1, r2, r3, f0, f1, f2, f3⟩ := id R1
    obtain ⟨_, t0, t1, t2, t3, _⟩ := id T1
    have hwp : IntKind.i64.wrap (p * p) = p * p := i64w (by omega)
    have hwx : IntKind.i64.wrap (p * p * x) = p * p * x := i64w (by omega)
    have hwy : IntKind.i64.wrap (p * y) = p * y := i64w (by omega)
    have hwu : IntKind.i64.wrap (u.tdiv p) = u.tdiv p := i64w (by omega)
    go_still_tail 17, (by kernel_rfl)
    go_wp2_with fail
    clear T1
    refine bodyPost_ret (res_A1 (e := 2) rfl Tryd.underlying25 (by kernel_rfl) rfl (by (repeat (first | with_reducible assumption | with_reducible exact Arr.box (by assumption) | with_reducible apply Arr.drew | with_reducible apply Arr.drewN | with_reducible refine Arr.store4 ?_ | with_reducible apply Arr.alloc | with_reducible refine Box.drew ?_ | with_reducible refine Box.drewN ?_ _ | with_reducible refine Box.alloc ?_ _ | refine Arr.oth ?_ (by first | (simp; done) | omega | (simp; omega)) _ | refine Box.oth ?_ (by first | (simp; done) | omega | (simp; omega)) _)))) rfl ?_
    exact ⟨rfl, by (repeat' (first | with_reducible exact Below.refl _ _ | with_reducible assumption | with_reducible refine gr_alloc ?_ _ | with_reducible refine gr_drew ?_ | with_reducible refine gr_drewN ?_ _ | with_reducible refine gr_trans ?_ (by assumption) | with_reducible refine gr_set ?_ ?_ _ | (simp; done) | omega | (simp; omega)))⟩

set_option maxHeartbeats 400000 in
theorem l06Told_any (a b c d : Int) (w : World) :
    Calls Tryd.prog 79 #[.agg #[.int .i64 a, .int .i64 b, .int .i64 c, .int .i64 d]] w fun e w' => e = .returned (.tuple #[.agg #[.int .i64 (ifF a b c d a), .int .i64 (ifF a b c d b), .int .i64 (ifF a b c d c), .int .i64 (ifF a b c d d)], .int .i64 ((if isF a b c d then 0 else 3))]) ∧ Below w.heap.size w w' := by
  go_enter Tryd.func79, Tryd.ntmps79
  go_wp2_with fail
  refine (sFits_any a b c d _).mono ?_
  rintro e w1 ⟨rfl, hb1⟩
  have A1 := ((Arr.new w a b c d 25).alloc (.cells #[.int .i64 0, .int .i64 0, .int .i64 0, .int .i64 0] 25)).next hb1
  have R1 := (Arr.new (w.alloc (.cells #[.int .i64 a, .int .i64 b, .int .i64 c, .int .i64 d] 25)) 0 0 0 0 25).next hb1
  simp only [World.size_alloc] at R1
  obtain ⟨_, c0, c1, c2, c3, _⟩ := id A1
  obtain ⟨_, r0, r1, r2, r3, f0, f1, f2, f3⟩ := id R1
  go_wp2
  all_goals (refine bodyPost_ret (res_A (e := 2) rfl Tryd.underlying25 (by kernel_rfl) rfl (by (repeat (first | with_reducible assumption | with_reducible exact Arr.box (by assumption) | with_reducible apply Arr.drew | with_reducible apply Arr.drewN | with_reducible refine Arr.store4 ?_ | with_reducible apply Arr.alloc | with_reducible refine Box.drew ?_ | with_reducible refine Box.drewN ?_ _ | with_reducible refine Box.alloc ?_ _ | refine Arr.oth ?_ (by first | (simp; done) | omega | (simp; omega)) _ | refine Box.oth ?_ (by first | (simp; done) | omega | (simp; omega)) _)))) rfl ?_; exact ⟨ret_form (by go_light; simp_all [ifF]) (by go_light; simp_all [ifF]) (by go_light; simp_all [ifF]) (by go_light; simp_all [ifF]) (by go_light; simp_all), by (repeat' (first | with_reducible exact Below.refl _ _ | with_reducible assumption | with_reducible refine gr_alloc ?_ _ | with_reducible refine gr_drew ?_ | with_reducible refine gr_drewN ?_ _ | with_reducible refine gr_trans ?_ (by assumption) | with_reducible refine gr_set ?_ ?_ _ | (simp; done) | omega | (simp; omega)))⟩)

set_option maxHeartbeats 400000 in
theorem l06Code_any (a b c d p : Int) (w : World) : Calls Tryd.prog 76 #[.agg #[.int .i64 a, .int .i64 b, .int .i64 c, .int .i64 d], .int .i64 p] w fun e w' => e = .returned (.int .i64 (fpc a b c d p)) ∧ Below w.heap.size w w' := by
  go_enter Tryd.func76, Tryd.ntmps76
  go_wp2_with fail
  refine (l01Is_any a b c d _).mono ?_
  rintro e w1 ⟨rfl, hb1⟩
  cases hF : isF a b c d with
  | false =>
    go_wp2_with fail
    go_ret
    exact ⟨ret_int (by simp [fpc, hF]), by (repeat' (first | with_reducible exact Below.refl _ _ | with_reducible assumption | with_reducible refine gr_alloc ?_ _ | with_reducible refine gr_drew ?_ | with_reducible refine gr_drewN ?_ _ | with_reducible refine gr_trans ?_ (by assumption) | with_reducible refine gr_set ?_ ?_ _ | (simp; done) | omega | (simp; omega)))⟩
  | true =>
    cases hp : prm p with
    | false =>
      go_wp2_with (go_at_call 152; refine (l05Prime_any _ _).mono ?_; rintro e w' ⟨rfl, rfl⟩)
      go_ret
      exact ⟨ret_int (by simp [fpc, hF, hp]), by (repeat' (first | with_reducible exact Below.refl _ _ | with_reducible assumption | with_reducible refine gr_alloc ?_ _ | with_reducible refine gr_drew ?_ | with_reducible refine gr_drewN ?_ _ | with_reducible refine gr_trans ?_ (by assumption) | with_reducible refine gr_set ?_ ?_ _ | (simp; done) | omega | (simp; omega)))⟩
    | true =>
      go_wp2_with (go_at_call 152; refine (l05Prime_any _ _).mono ?_; rintro e w' ⟨rfl, rfl⟩)
      go_ret
      exact ⟨ret_int (by simp [fpc, hF, hp]), by (repeat' (first | with_reducible exact Below.refl _ _ | with_reducible assumption | with_reducible refine gr_alloc ?_ _ | with_reducible refine gr_drew ?_ | with_reducible refine gr_drewN ?_ _ | with_reducible refine gr_trans ?_ (by assumption) | with_reducible refine gr_set ?_ ?_ _ | (simp; done) | omega | (simp; omega)))⟩

end Go.Proofs.YtambbhldhhlfgaaDoor

/- Appends to rows of the call's own, with all that they ask. -/
namespace Go.Proofs.YtambbhldhhlfgaaDoor
open Go.RowKit

/-- append(out, z), out a row of integers of the call's own: z lies in the newest block. -/
theorem app_i64 {ops : Array Oper} {rest : List Oper} {o : Oper} {a : Act} {Q : Exit → Act → World → Prop} {w : World} {T : TypeId} (hgd : o.guard = none) (s x : Operand)
    (ho : o.op = .call { callee := .builtin .append, args := #[s, x], argTypes := #[32, 32] }) (base : Nat) {v : Value} {n : Nat} {xs : List Value} (hs : a.eval s = v) (hown : w.ownsRow base 2 1 v n xs)
    {z : Int} (hx : a.eval x = .slice (some ⟨w.heap.size, 0, none⟩) 1 1) (hn : n ≤ 1000000000) (hbase : base ≤ w.heap.size)
    (h : ∀ v' w', w'.ownsRow base 2 1 v' (n + 1) (xs ++ [.int .i64 z]) → (w.alloc (.cells #[.int .i64 z] T)).grownBy w' v.ownBlock → wpList Tryd.prog ops Q rest (a.put o.dst v') w') : wpList Tryd.prog ops Q (o :: rest) a (w.alloc (.cells #[.int .i64 z] T)) := by
  obtain ⟨i0, hi, hi0, hi1, hi2⟩ := info_parts info_l64
  refine wpList_append_own _ hgd s x 32 ho base 2 i0 (.int .i64 0) 1 8 Tryd.underlying32 hi hi0 hi1 hi2 rfl (by decide) v n xs hs (hown.alloc _) ⟨w.heap.size, 0, none⟩ 1 1 [.int .i64 z] hx rfl ?_ ?_ ?_ ?_ ?_ (fun v' w' h1 h2 _ => h v' w' h1 h2)
  · intro j u hj
    match j, hj with
    | 0, hj => simp at hj; subst hj; simp [Addr.add, go_sem]
  · intro u hu; simp at hu; subst hu; rfl
  · unfold maxLen; omega
  · omega
  · simp; omega

/-- .. the newest block told by its number. -/
theorem app_i64n {ops : Array Oper} {rest : List Oper} {o : Oper} {a : Act} {Q : Exit → Act → World → Prop} {w : World} {T : TypeId} (hgd : o.guard = none) (s x : Operand)
    (ho : o.op = .call { callee := .builtin .append, args := #[s, x], argTypes := #[32, 32] }) (base N : Nat) {v : Value} {n : Nat} {xs : List Value} (hs : a.eval s = v) (hown : w.ownsRow base 2 1 v n xs)
    {z : Int} (hx : a.eval x = .slice (some ⟨N, 0, none⟩) 1 1) (hN : N = w.heap.size) (hn : n ≤ 1000000000) (hbase : base ≤ w.heap.size)
    (h : ∀ v' w', w'.ownsRow base 2 1 v' (n + 1) (xs ++ [.int .i64 z]) → (w.alloc (.cells #[.int .i64 z] T)).grownBy w' v.ownBlock → wpList Tryd.prog ops Q rest (a.put o.dst v') w') : wpList Tryd.prog ops Q (o :: rest) a (w.alloc (.cells #[.int .i64 z] T)) := by
  subst hN
  exact app_i64 hgd s x ho base hs hown hx hn hbase h

/-- .. in a region that draws its order. -/
theorem step_i64 {ops : Array Oper} {o : Oper} {a : Act} {K : Act → World → Prop} {Q : Exit → Act → World → Prop} {E : Prop} {w : World} {T : TypeId} (hgd : o.guard = none) (s x : Operand)
    (ho : o.op = .call { callee := .builtin .append, args := #[s, x], argTypes := #[32, 32] }) (base : Nat) (v : Value) {n : Nat} {xs : List Value} (hs : a.eval s = v) (hown : w.ownsRow base 2 1 v n xs)
    (z : Int) (hx : a.eval x = .slice (some ⟨w.heap.size, 0, none⟩) 1 1) (hn : n ≤ 1000000000) (hbase : base ≤ w.heap.size)
    (h : ∀ g cap w', w'.ownsRow base 2 1 (.slice (some ⟨g, 0, none⟩) (n + 1) cap) (n + 1) (xs ++ [.int .i64 z]) → (w.alloc (.cells #[.int .i64 z] T)).grownBy w' v.ownBlock → K (a.put o.dst (.slice (some ⟨g, 0, none⟩) (n + 1) cap)) w') :
    if Region.wanted o (yielded ops a.tmps) = true then Oper.wp Tryd.prog o a (w.alloc (.cells #[.int .i64 z] T)) K Q else E := by
  obtain ⟨i0, hi, hi0, hi1, hi2⟩ := info_parts info_l64
  refine step_append_lies _ hgd s x 32 ho base 2 i0 (.int .i64 0) 1 8 Tryd.underlying32 hi hi0 hi1 hi2 rfl (by decide) v n xs hs (hown.alloc _) ⟨w.heap.size, 0, none⟩ 1 1 [.int .i64 z] hx rfl ?_ ?_ (by decide) ?_ ?_ ?_ _ rfl (fun g cap w' h1 h2 _ _ => h g cap w' h1 h2)
  · intro j u hj
    match j, hj with
    | 0, hj => simp at hj; subst hj; simp [Addr.add, go_sem]
  · intro u hu; simp at hu; subst hu; rfl
  · unfold maxLen; omega
  · omega
  · simp; omega


end Go.Proofs.YtambbhldhhlfgaaDoor
