/- Several texts in one: XE17, XC1m. -/
import Derived.Test.YtdogkkmdccieiaaDoorZ18
import Derived.Test.YtdogkkmdccieiaaDoorZ6
import Derived.Test.YtdogkkmdccieiaaDoorZ11

/- Chapter 4: codes of tables. -/
namespace Go.Proofs.YtdogkkmdccieiaaDoor
open Go.RowKit

/-- Are the first n elements elements? -/
def allE : Nat → (Nat → Int) → Bool
  | 0, _ => true
  | n + 1, g => allE n g && isE (g (n * 3)) (g (n * 3 + 1)) (g (n * 3 + 2))
theorem allE_no {n k : Nat} {g : Nat → Int} (hk : k < n) (h : isE (g (k * 3)) (g (k * 3 + 1)) (g (k * 3 + 2)) = false) : allE n g = false := by
  induction n with
  | zero => omega
  | succ n ih =>
    unfold allE
    by_cases e : k = n
    · subst e; rw [h]; simp
    · rw [ih (by omega)]; simp
/-- The code of a table. -/
def tk (g : Nat → Int) : Bool := is3 1000 (g 0) (g 1) (g 2) && is3 1000 (g 3) (g 4) (g 5) && is3 1000 (g 6) (g 7) (g 8)
def tbc (n : Nat) (g : Nat → Int) : Int := if allE n g then (if n = 3 then (if tk g then 0 else 2) else 2) else 1
theorem tbc_1 {n : Nat} {g : Nat → Int} (h : allE n g = false) : tbc n g = 1 := by simp [tbc, h]
theorem tbc_2 {n : Nat} {g : Nat → Int} (h : allE n g = true) (hn : ¬ n = 3) : tbc n g = 2 := by simp [tbc, h, hn]
theorem tbc_3 {g : Nat → Int} (h : allE 3 g = true) (hn : tk g = false) : tbc 3 g = 2 := by simp [tbc, h, hn]
theorem tbc_0 {g : Nat → Int} (h : allE 3 g = true) (hn : tk g = true) : tbc 3 g = 0 := by simp [tbc, h, hn]
theorem tk_no {g : Nat → Int} {k : Nat} (hk : k < 9) (h : rng (-1000) 1000 (g k) = false) : tk g = false := by
  match k, hk with
  | 0, _ => simp [tk, is3, h]
  | 1, _ => simp [tk, is3, h]
  | 2, _ => simp [tk, is3, h]
  | 3, _ => simp [tk, is3, h]
  | 4, _ => simp [tk, is3, h]
  | 5, _ => simp [tk, is3, h]
  | 6, _ => simp [tk, is3, h]
  | 7, _ => simp [tk, is3, h]
  | 8, _ => simp [tk, is3, h]
theorem tk_yes {g : Nat → Int} (h0 : rng (-1000) 1000 (g 0) = true) (h1 : rng (-1000) 1000 (g 1) = true) (h2 : rng (-1000) 1000 (g 2) = true) (h3 : rng (-1000) 1000 (g 3) = true) (h4 : rng (-1000) 1000 (g 4) = true) (h5 : rng (-1000) 1000 (g 5) = true) (h6 : rng (-1000) 1000 (g 6) = true) (h7 : rng (-1000) 1000 (g 7) = true) (h8 : rng (-1000) 1000 (g 8) = true) : tk g = true := by
  simp [tk, is3, h0, h1, h2, h3, h4, h5, h6, h7, h8]

set_option maxRecDepth 100000 in
set_option maxHeartbeats 2000000 in
theorem sGiven_any (v : Value) (n : Nat) (g : Nat → Int) (w : World) (h : RdW w v n g) :
    Calls Tryd.prog 69 #[v] w fun e w' => e = .returned (.int .i64 (tbc n g)) ∧ Below w.heap.size w w' := by
  rcases h with ⟨rfl, rfl⟩ | ⟨b, cap, rfl, hc, hm, hb, hcell⟩
  · go_enter Tryd.func69, Tryd.ntmps69
    go_wp2
    refine wp_loop_rounds 1 ?_
    rw [rounds_succ]; go_wp2
    go_ret
    exact ⟨rfl, Below.refl _ _⟩
  · unfold maxLen at hm
    have HC := hid hcell
    clear hcell
    go_enter Tryd.func69, Tryd.ntmps69
    go_wp2_with fail
    go_loopw [3] (fun i wr => ∃ k : Nat, k ≤ n ∧ i = .int .i64 k ∧ Hid (allE k g = true) ∧ Below w.heap.size w wr) (fun i _ => n - (intOf i).toNat)
    case atStart => exact ⟨0, Nat.zero_le _, rfl, hid rfl, Below.refl _ _⟩
    case round =>
      obtain ⟨k, hk, rfl, hall, hB⟩ := hrel
      by_cases hlt : k < n
      · have C := (RdW.at3 hb HC.out hlt).next hB hb
        have hno := fun h => allE_no (g := g) hlt h
        have hyes : isE (g (k * 3)) (g (k * 3 + 1)) (g (k * 3 + 2)) = true → allE (k + 1) g = true := fun h => by unfold allE; rw [hall.out, h]; rfl
        have hno' : isE (g (k * 3)) (g (k * 3 + 1)) (g (k * 3 + 2)) = false → tbc n g = 1 := fun h => tbc_1 (hno h)
        clear hno
        generalize g (k * 3) = x at C hyes hno'
        generalize g (k * 3 + 1) = y at C hyes hno'
        generalize g (k * 3 + 2) = z at C hyes hno'
        have HY := hid hyes; have HN := hid hno'
        clear hyes hno'
        obtain ⟨_, c0, c1, c2⟩ := C
        go_wp2_with fail
        refine (sIsE0_any x y z _).mono ?_
        rintro e w1 ⟨rfl, hb1⟩
        by_cases he : isE x y z = false
        · go_wp2_with fail
          go_ret
          exact ⟨ret_int (HN.out he).symm, by (repeat' (first | with_reducible exact Below.refl _ _ | with_reducible assumption | with_reducible refine gr_alloc ?_ _ | with_reducible refine gr_drew ?_ | with_reducible refine gr_drewN ?_ _ | with_reducible refine gr_trans ?_ (by assumption) | with_reducible refine gr_set ?_ ?_ _ | (simp; done) | omega | (simp; omega)))⟩
        have he' : isE x y z = true := by simpa using he
        clear he
        go_wp2_with fail
        go_roundw
        case rel => exact ⟨k + 1, by omega, by go_num, hid (HY.out he'), by (repeat' (first | with_reducible exact Below.refl _ _ | with_reducible assumption | with_reducible refine gr_alloc ?_ _ | with_reducible refine gr_drew ?_ | with_reducible refine gr_drewN ?_ _ | with_reducible refine gr_trans ?_ (by assumption) | with_reducible refine gr_set ?_ ?_ _ | (simp; done) | omega | (simp; omega)))⟩
        case measure => simp [intOf]; omega
      · have hkn : k = n := by omega
        subst hkn
        by_cases hn3 : ¬ k = 3
        · have ht := tbc_2 hall.out hn3
          have HT := hid ht
          clear ht
          go_wp2
          go_ret
          exact ⟨ret_int HT.out.symm, by (repeat' (first | with_reducible exact Below.refl _ _ | with_reducible assumption | with_reducible refine gr_alloc ?_ _ | with_reducible refine gr_drew ?_ | with_reducible refine gr_drewN ?_ _ | with_reducible refine gr_trans ?_ (by assumption) | with_reducible refine gr_set ?_ ?_ _ | (simp; done) | omega | (simp; omega)))⟩
        have hk3 : k = 3 := by omega
        subst hk3
        clear hn3
        have e0 := (hB.cell (p := ⟨b, 0, none⟩) hb).trans (HC.out 0 (by omega))
        have e1 := (hB.cell (p := ⟨b, 1, none⟩) hb).trans (HC.out 1 (by omega))
        have e2 := (hB.cell (p := ⟨b, 2, none⟩) hb).trans (HC.out 2 (by omega))
        have e3 := (hB.cell (p := ⟨b, 3, none⟩) hb).trans (HC.out 3 (by omega))
        have e4 := (hB.cell (p := ⟨b, 4, none⟩) hb).trans (HC.out 4 (by omega))
        have e5 := (hB.cell (p := ⟨b, 5, none⟩) hb).trans (HC.out 5 (by omega))
        have e6 := (hB.cell (p := ⟨b, 6, none⟩) hb).trans (HC.out 6 (by omega))
        have e7 := (hB.cell (p := ⟨b, 7, none⟩) hb).trans (HC.out 7 (by omega))
        have e8 := (hB.cell (p := ⟨b, 8, none⟩) hb).trans (HC.out 8 (by omega))
        have hbw : b < wr.heap.size := by have := hB.size; omega
        have hno : ∀ k, k < 9 → rng (-1000) 1000 (g k) = false → tbc 3 g = 2 := fun k hk h => tbc_3 hall.out (tk_no hk h)
        have hyes := fun h0 h1 h2 h3 h4 h5 h6 h7 h8 => tbc_0 hall.out (tk_yes h0 h1 h2 h3 h4 h5 h6 h7 h8)
        have hn0 := hno 0 (by omega); have hn1 := hno 1 (by omega); have hn2 := hno 2 (by omega); have hn3 := hno 3 (by omega); have hn4 := hno 4 (by omega); have hn5 := hno 5 (by omega); have hn6 := hno 6 (by omega); have hn7 := hno 7 (by omega); have hn8 := hno 8 (by omega)
        clear hno
        generalize g 0 = x0 at e0 hyes hn0
        generalize g 1 = x1 at e1 hyes hn1
        generalize g 2 = x2 at e2 hyes hn2
        generalize g 3 = x3 at e3 hyes hn3
        generalize g 4 = x4 at e4 hyes hn4
        generalize g 5 = x5 at e5 hyes hn5
        generalize g 6 = x6 at e6 hyes hn6
        generalize g 7 = x7 at e7 hyes hn7
        generalize g 8 = x8 at e8 hyes hn8
        have HY := hid hyes; have HN0 := hid hn0; have HN1 := hid hn1; have HN2 := hid hn2; have HN3 := hid hn3; have HN4 := hid hn4; have HN5 := hid hn5; have HN6 := hid hn6; have HN7 := hid hn7; have HN8 := hid hn8
        clear hyes hn0 hn1 hn2 hn3 hn4 hn5 hn6 hn7 hn8
        go_wp2_with fail
        refine wp_loop_rounds 4 ?_
        rw [rounds_succ]; go_wp2_with fail
        refine wp_loop_rounds 4 ?_
        rw [rounds_succ]; go_wp2_with fail
        refine (l01In_any _ _ _ _).mono ?_
        rintro e z0 ⟨rfl, rfl⟩
        by_cases f0 : rng (-1000) 1000 x0 = false
        · go_wp2_with fail
          go_ret
          exact ⟨ret_int (HN0.out f0).symm, by (repeat' (first | with_reducible exact Below.refl _ _ | with_reducible assumption | with_reducible refine gr_alloc ?_ _ | with_reducible refine gr_drew ?_ | with_reducible refine gr_drewN ?_ _ | with_reducible refine gr_trans ?_ (by assumption) | with_reducible refine gr_set ?_ ?_ _ | (simp; done) | omega | (simp; omega)))⟩
        have r0 : rng (-1000) 1000 x0 = true := by simpa using f0
        clear f0
        go_wp2_with fail
        rw [rounds_succ]; go_wp2_with fail
        refine (l01In_any _ _ _ _).mono ?_
        rintro e z1 ⟨rfl, rfl⟩
        by_cases f1 : rng (-1000) 1000 x1 = false
        · go_wp2_with fail
          go_ret
          exact ⟨ret_int (HN1.out f1).symm, by (repeat' (first | with_reducible exact Below.refl _ _ | with_reducible assumption | with_reducible refine gr_alloc ?_ _ | with_reducible refine gr_drew ?_ | with_reducible refine gr_drewN ?_ _ | with_reducible refine gr_trans ?_ (by assumption) | with_reducible refine gr_set ?_ ?_ _ | (simp; done) | omega | (simp; omega)))⟩
        have r1 : rng (-1000) 1000 x1 = true := by simpa using f1
        clear f1
        go_wp2_with fail
        rw [rounds_succ]; go_wp2_with fail
        refine (l01In_any _ _ _ _).mono ?_
        rintro e z2 ⟨rfl, rfl⟩
        by_cases f2 : rng (-1000) 1000 x2 = false
        · go_wp2_with fail
          go_ret
          exact ⟨ret_int (HN2.out f2).symm, by (repeat' (first | with_reducible exact Below.refl _ _ | with_reducible assumption | with_reducible refine gr_alloc ?_ _ | with_reducible refine gr_drew ?_ | with_reducible refine gr_drewN ?_ _ | with_reducible refine gr_trans ?_ (by assumption) | with_reducible refine gr_set ?_ ?_ _ | (simp; done) | omega | (simp; omega)))⟩
        have r2 : rng (-1000) 1000 x2 = true := by simpa using f2
        clear f2
        go_wp2_with fail
        rw [rounds_succ]; go_wp2_with fail
        rw [rounds_succ]; go_wp2_with fail
        refine wp_loop_rounds 4 ?_
        rw [rounds_succ]; go_wp2_with fail
        refine (l01In_any _ _ _ _).mono ?_
        rintro e z3 ⟨rfl, rfl⟩
        by_cases f3 : rng (-1000) 1000 x3 = false
        · go_wp2_with fail
          go_ret
          exact ⟨ret_int (HN3.out f3).symm, by (repeat' (first | with_reducible exact Below.refl _ _ | with_reducible assumption | with_reducible refine gr_alloc ?_ _ | with_reducible refine gr_drew ?_ | with_reducible refine gr_drewN ?_ _ | with_reducible refine gr_trans ?_ (by assumption) | with_reducible refine gr_set ?_ ?_ _ | (simp; done) | omega | (simp; omega)))⟩
        have r3 : rng (-1000) 1000 x3 = true := by simpa using f3
        clear f3
        go_wp2_with fail
        rw [rounds_succ]; go_wp2_with fail
        refine (l01In_any _ _ _ _).mono ?_
        rintro e z4 ⟨rfl, rfl⟩
        by_cases f4 : rng (-1000) 1000 x4 = false
        · go_wp2_with fail
          go_ret
          exact ⟨ret_int (HN4.out f4).symm, by (repeat' (first | with_reducible exact Below.refl _ _ | with_reducible assumption | with_reducible refine gr_alloc ?_ _ | with_reducible refine gr_drew ?_ | with_reducible refine gr_drewN ?_ _ | with_reducible refine gr_trans ?_ (by assumption) | with_reducible refine gr_set ?_ ?_ _ | (simp; done) | omega | (simp; omega)))⟩
        have r4 : rng (-1000) 1000 x4 = true := by simpa using f4
        clear f4
        go_wp2_with fail
        rw [rounds_succ]; go_wp2_with fail
        refine (l01In_any _ _ _ _).mono ?_
        rintro e z5 ⟨rfl, rfl⟩
        by_cases f5 : rng (-1000) 1000 x5 = false
        · go_wp2_with fail
          go_ret
          exact ⟨ret_int (HN5.out f5).symm, by (repeat' (first | with_reducible exact Below.refl _ _ | with_reducible assumption | with_reducible refine gr_alloc ?_ _ | with_reducible refine gr_drew ?_ | with_reducible refine gr_drewN ?_ _ | with_reducible refine gr_trans ?_ (by assumption) | with_reducible refine gr_set ?_ ?_ _ | (simp; done) | omega | (simp; omega)))⟩
        have r5 : rng (-1000) 1000 x5 = true := by simpa using f5
        clear f5
        go_wp2_with fail
        rw [rounds_succ]; go_wp2_with fail
        rw [rounds_succ]; go_wp2_with fail
        refine wp_loop_rounds 4 ?_
        rw [rounds_succ]; go_wp2_with fail
        refine (l01In_any _ _ _ _).mono ?_
        rintro e z6 ⟨rfl, rfl⟩
        by_cases f6 : rng (-1000) 1000 x6 = false
        · go_wp2_with fail
          go_ret
          exact ⟨ret_int (HN6.out f6).symm, by (repeat' (first | with_reducible exact Below.refl _ _ | with_reducible assumption | with_reducible refine gr_alloc ?_ _ | with_reducible refine gr_drew ?_ | with_reducible refine gr_drewN ?_ _ | with_reducible refine gr_trans ?_ (by assumption) | with_reducible refine gr_set ?_ ?_ _ | (simp; done) | omega | (simp; omega)))⟩
        have r6 : rng (-1000) 1000 x6 = true := by simpa using f6
        clear f6
        go_wp2_with fail
        rw [rounds_succ]; go_wp2_with fail
        refine (l01In_any _ _ _ _).mono ?_
        rintro e z7 ⟨rfl, rfl⟩
        by_cases f7 : rng (-1000) 1000 x7 = false
        · go_wp2_with fail
          go_ret
          exact ⟨ret_int (HN7.out f7).symm, by (repeat' (first | with_reducible exact Below.refl _ _ | with_reducible assumption | with_reducible refine gr_alloc ?_ _ | with_reducible refine gr_drew ?_ | with_reducible refine gr_drewN ?_ _ | with_reducible refine gr_trans ?_ (by assumption) | with_reducible refine gr_set ?_ ?_ _ | (simp; done) | omega | (simp; omega)))⟩
        have r7 : rng (-1000) 1000 x7 = true := by simpa using f7
        clear f7
        go_wp2_with fail
        rw [rounds_succ]; go_wp2_with fail
        refine (l01In_any _ _ _ _).mono ?_
        rintro e z8 ⟨rfl, rfl⟩
        by_cases f8 : rng (-1000) 1000 x8 = false
        · go_wp2_with fail
          go_ret
          exact ⟨ret_int (HN8.out f8).symm, by (repeat' (first | with_reducible exact Below.refl _ _ | with_reducible assumption | with_reducible refine gr_alloc ?_ _ | with_reducible refine gr_drew ?_ | with_reducible refine gr_drewN ?_ _ | with_reducible refine gr_trans ?_ (by assumption) | with_reducible refine gr_set ?_ ?_ _ | (simp; done) | omega | (simp; omega)))⟩
        have r8 : rng (-1000) 1000 x8 = true := by simpa using f8
        clear f8
        go_wp2_with fail
        rw [rounds_succ]; go_wp2_with fail
        rw [rounds_succ]; go_wp2_with fail
        go_ret
        exact ⟨ret_int (HY.out r0 r1 r2 r3 r4 r5 r6 r7 r8).symm, by (repeat' (first | with_reducible exact Below.refl _ _ | with_reducible assumption | with_reducible refine gr_alloc ?_ _ | with_reducible refine gr_drew ?_ | with_reducible refine gr_drewN ?_ _ | with_reducible refine gr_trans ?_ (by assumption) | with_reducible refine gr_set ?_ ?_ _ | (simp; done) | omega | (simp; omega)))⟩

set_option maxRecDepth 100000 in
set_option maxHeartbeats 2000000 in
theorem iCheckT_any (v : Value) (n : Nat) (g : Nat → Int) (w : World) (h : RdW w v n g) :
    Calls Tryd.prog 72 #[v] w fun e w' => e = .returned (.int .i64 (tbc n g)) ∧ Below w.heap.size w w' := by
  rcases h with ⟨rfl, rfl⟩ | ⟨b, cap, rfl, hc, hm, hb, hcell⟩
  · go_enter Tryd.func72, Tryd.ntmps72
    go_wp2
    refine wp_loop_rounds 1 ?_
    rw [rounds_succ]; go_wp2
    go_ret
    exact ⟨rfl, Below.refl _ _⟩
  · unfold maxLen at hm
    have HC := hid hcell
    clear hcell
    go_enter Tryd.func72, Tryd.ntmps72
    go_wp2_with fail
    go_loopw [9] (fun i wr => ∃ k : Nat, k ≤ n ∧ i = .int .i64 k ∧ Hid (allE k g = true) ∧ Below w.heap.size w wr) (fun i _ => n - (intOf i).toNat)
    case atStart => exact ⟨0, Nat.zero_le _, rfl, hid rfl, Below.refl _ _⟩
    case round =>
      obtain ⟨k, hk, rfl, hall, hB⟩ := hrel
      by_cases hlt : k < n
      · have C := (RdW.at3 hb HC.out hlt).next hB hb
        have hno := fun h => allE_no (g := g) hlt h
        have hyes : isE (g (k * 3)) (g (k * 3 + 1)) (g (k * 3 + 2)) = true → allE (k + 1) g = true := fun h => by unfold allE; rw [hall.out, h]; rfl
        have hno' : isE (g (k * 3)) (g (k * 3 + 1)) (g (k * 3 + 2)) = false → tbc n g = 1 := fun h => tbc_1 (hno h)
        clear hno
        generalize g (k * 3) = x at C hyes hno'
        generalize g (k * 3 + 1) = y at C hyes hno'
        generalize g (k * 3 + 2) = z at C hyes hno'
        have HY := hid hyes; have HN := hid hno'
        clear hyes hno'
        obtain ⟨_, c0, c1, c2⟩ := C
        go_wp2_with fail
        refine (iIsE_any x y z _).mono ?_
        rintro e w1 ⟨rfl, hb1⟩
        by_cases he : isE x y z = false
        · go_wp2_with fail
          go_ret
          exact ⟨ret_int (HN.out he).symm, by (repeat' (first | with_reducible exact Below.refl _ _ | with_reducible assumption | with_reducible refine gr_alloc ?_ _ | with_reducible refine gr_drew ?_ | with_reducible refine gr_drewN ?_ _ | with_reducible refine gr_trans ?_ (by assumption) | with_reducible refine gr_set ?_ ?_ _ | (simp; done) | omega | (simp; omega)))⟩
        have he' : isE x y z = true := by simpa using he
        clear he
        go_wp2_with fail
        go_roundw
        case rel => exact ⟨k + 1, by omega, by go_num, hid (HY.out he'), by (repeat' (first | with_reducible exact Below.refl _ _ | with_reducible assumption | with_reducible refine gr_alloc ?_ _ | with_reducible refine gr_drew ?_ | with_reducible refine gr_drewN ?_ _ | with_reducible refine gr_trans ?_ (by assumption) | with_reducible refine gr_set ?_ ?_ _ | (simp; done) | omega | (simp; omega)))⟩
        case measure => simp [intOf]; omega
      · have hkn : k = n := by omega
        subst hkn
        by_cases hn3 : ¬ k = 3
        · have ht := tbc_2 hall.out hn3
          have HT := hid ht
          clear ht
          go_wp2
          go_ret
          exact ⟨ret_int HT.out.symm, by (repeat' (first | with_reducible exact Below.refl _ _ | with_reducible assumption | with_reducible refine gr_alloc ?_ _ | with_reducible refine gr_drew ?_ | with_reducible refine gr_drewN ?_ _ | with_reducible refine gr_trans ?_ (by assumption) | with_reducible refine gr_set ?_ ?_ _ | (simp; done) | omega | (simp; omega)))⟩
        have hk3 : k = 3 := by omega
        subst hk3
        clear hn3
        have e0 := (hB.cell (p := ⟨b, 0, none⟩) hb).trans (HC.out 0 (by omega))
        have e1 := (hB.cell (p := ⟨b, 1, none⟩) hb).trans (HC.out 1 (by omega))
        have e2 := (hB.cell (p := ⟨b, 2, none⟩) hb).trans (HC.out 2 (by omega))
        have e3 := (hB.cell (p := ⟨b, 3, none⟩) hb).trans (HC.out 3 (by omega))
        have e4 := (hB.cell (p := ⟨b, 4, none⟩) hb).trans (HC.out 4 (by omega))
        have e5 := (hB.cell (p := ⟨b, 5, none⟩) hb).trans (HC.out 5 (by omega))
        have e6 := (hB.cell (p := ⟨b, 6, none⟩) hb).trans (HC.out 6 (by omega))
        have e7 := (hB.cell (p := ⟨b, 7, none⟩) hb).trans (HC.out 7 (by omega))
        have e8 := (hB.cell (p := ⟨b, 8, none⟩) hb).trans (HC.out 8 (by omega))
        have hbw : b < wr.heap.size := by have := hB.size; omega
        have hno : ∀ k, k < 9 → rng (-1000) 1000 (g k) = false → tbc 3 g = 2 := fun k hk h => tbc_3 hall.out (tk_no hk h)
        have hyes := fun h0 h1 h2 h3 h4 h5 h6 h7 h8 => tbc_0 hall.out (tk_yes h0 h1 h2 h3 h4 h5 h6 h7 h8)
        have hn0 := hno 0 (by omega); have hn1 := hno 1 (by omega); have hn2 := hno 2 (by omega); have hn3 := hno 3 (by omega); have hn4 := hno 4 (by omega); have hn5 := hno 5 (by omega); have hn6 := hno 6 (by omega); have hn7 := hno 7 (by omega); have hn8 := hno 8 (by omega)
        clear hno
        generalize g 0 = x0 at e0 hyes hn0
        generalize g 1 = x1 at e1 hyes hn1
        generalize g 2 = x2 at e2 hyes hn2
        generalize g 3 = x3 at e3 hyes hn3
        generalize g 4 = x4 at e4 hyes hn4
        generalize g 5 = x5 at e5 hyes hn5
        generalize g 6 = x6 at e6 hyes hn6
        generalize g 7 = x7 at e7 hyes hn7
        generalize g 8 = x8 at e8 hyes hn8
        have HY := hid hyes; have HN0 := hid hn0; have HN1 := hid hn1; have HN2 := hid hn2; have HN3 := hid hn3; have HN4 := hid hn4; have HN5 := hid hn5; have HN6 := hid hn6; have HN7 := hid hn7; have HN8 := hid hn8
        clear hyes hn0 hn1 hn2 hn3 hn4 hn5 hn6 hn7 hn8
        have T0 := Arr3.new wr x0 x1 x2 27
        have T1 := Arr3.new (wr.alloc (.cells #[.int .i64 x0, .int .i64 x1, .int .i64 x2] 27)) x3 x4 x5 27
        have T2 := Arr3.new ((wr.alloc (.cells #[.int .i64 x0, .int .i64 x1, .int .i64 x2] 27)).alloc (.cells #[.int .i64 x3, .int .i64 x4, .int .i64 x5] 27)) x6 x7 x8 27
        simp only [World.size_alloc] at T1 T2
        go_wp2_with fail
        refine wp_loop_rounds 4 ?_
        rw [rounds_succ]; go_wp2_with fail
        refine (allW3_any 1000 _ x0 x1 x2 _ T0 (by omega) (by omega)).mono ?_
        rintro e z0 ⟨rfl, rfl⟩
        by_cases f0 : is3 1000 x0 x1 x2 = false
        · go_wp2_with fail
          go_ret
          exact ⟨ret_int (by
            simp only [is3, Bool.and_eq_false_iff] at f0
            rcases f0 with (f | f) | f
            · exact (HN0.out f).symm
            · exact (HN1.out f).symm
            · exact (HN2.out f).symm), by (repeat' (first | with_reducible exact Below.refl _ _ | with_reducible assumption | with_reducible refine gr_alloc ?_ _ | with_reducible refine gr_drew ?_ | with_reducible refine gr_drewN ?_ _ | with_reducible refine gr_trans ?_ (by assumption) | with_reducible refine gr_set ?_ ?_ _ | (simp; done) | omega | (simp; omega)))⟩
        have r0 : is3 1000 x0 x1 x2 = true := by simpa using f0
        clear f0
        go_wp2_with fail
        rw [rounds_succ]; go_wp2_with fail
        refine (allW3_any 1000 _ x3 x4 x5 _ T1 (by omega) (by omega)).mono ?_
        rintro e z3 ⟨rfl, rfl⟩
        by_cases f3 : is3 1000 x3 x4 x5 = false
        · go_wp2_with fail
          go_ret
          exact ⟨ret_int (by
            simp only [is3, Bool.and_eq_false_iff] at f3
            rcases f3 with (f | f) | f
            · exact (HN3.out f).symm
            · exact (HN4.out f).symm
            · exact (HN5.out f).symm), by (repeat' (first | with_reducible exact Below.refl _ _ | with_reducible assumption | with_reducible refine gr_alloc ?_ _ | with_reducible refine gr_drew ?_ | with_reducible refine gr_drewN ?_ _ | with_reducible refine gr_trans ?_ (by assumption) | with_reducible refine gr_set ?_ ?_ _ | (simp; done) | omega | (simp; omega)))⟩
        have r3 : is3 1000 x3 x4 x5 = true := by simpa using f3
        clear f3
        go_wp2_with fail
        rw [rounds_succ]; go_wp2_with fail
        refine (allW3_any 1000 _ x6 x7 x8 _ T2 (by omega) (by omega)).mono ?_
        rintro e z6 ⟨rfl, rfl⟩
        by_cases f6 : is3 1000 x6 x7 x8 = false
        · go_wp2_with fail
          go_ret
          exact ⟨ret_int (by
            simp only [is3, Bool.and_eq_false_iff] at f6
            rcases f6 with (f | f) | f
            · exact (HN6.out f).symm
            · exact (HN7.out f).symm
            · exact (HN8.out f).symm), by (repeat' (first | with_reducible exact Below.refl _ _ | with_reducible assumption | with_reducible refine gr_alloc ?_ _ | with_reducible refine gr_drew ?_ | with_reducible refine gr_drewN ?_ _ | with_reducible refine gr_trans ?_ (by assumption) | with_reducible refine gr_set ?_ ?_ _ | (simp; done) | omega | (simp; omega)))⟩
        have r6 : is3 1000 x6 x7 x8 = true := by simpa using f6
        clear f6
        go_wp2_with fail
        rw [rounds_succ]; go_wp2_with fail
        go_ret
        simp only [is3, Bool.and_eq_true] at r0 r3 r6
        exact ⟨ret_int (HY.out r0.1.1 r0.1.2 r0.2 r3.1.1 r3.1.2 r3.2 r6.1.1 r6.1.2 r6.2).symm, by (repeat' (first | with_reducible exact Below.refl _ _ | with_reducible assumption | with_reducible refine gr_alloc ?_ _ | with_reducible refine gr_drew ?_ | with_reducible refine gr_drewN ?_ _ | with_reducible refine gr_trans ?_ (by assumption) | with_reducible refine gr_set ?_ ?_ _ | (simp; done) | omega | (simp; omega)))⟩


end Go.Proofs.YtdogkkmdccieiaaDoor

/- Chapter 1: sums of forms. -/
namespace Go.Proofs.YtdogkkmdccieiaaDoor
open Go.RowKit

/-- One number of a sum. -/
def am (x k y : Int) : Int := pl x (mu k y)

set_option maxRecDepth 100000 in
set_option maxHeartbeats 1000000 in
theorem iAddM_any (a b c d p q r s k : Int) (w : World) :
    Calls Tryd.prog 115 #[.agg #[.int .i64 a, .int .i64 b, .int .i64 c, .int .i64 d], .agg #[.int .i64 p, .int .i64 q, .int .i64 r, .int .i64 s], .int .i64 k] w fun e w' => e = .returned (.agg #[.int .i64 (am a k p), .int .i64 (am b k q), .int .i64 (am c k r), .int .i64 (am d k s)]) ∧ Below w.heap.size w w' := by
  have A0 := ((Arr.new w a b c d 25).alloc (.cells #[.int .i64 p, .int .i64 q, .int .i64 r, .int .i64 s] 25)).alloc (.cells #[.int .i64 0, .int .i64 0, .int .i64 0, .int .i64 0] 25)
  have G0 := (Arr.new (w.alloc (.cells #[.int .i64 a, .int .i64 b, .int .i64 c, .int .i64 d] 25)) p q r s 25).alloc (.cells #[.int .i64 0, .int .i64 0, .int .i64 0, .int .i64 0] 25)
  have R0 := (Arr.new ((w.alloc (.cells #[.int .i64 a, .int .i64 b, .int .i64 c, .int .i64 d] 25)).alloc (.cells #[.int .i64 p, .int .i64 q, .int .i64 r, .int .i64 s] 25)) 0 0 0 0 25)
  have B0 := gr_alloc (gr_alloc (gr_alloc (Below.refl w.heap.size w) (.cells #[.int .i64 a, .int .i64 b, .int .i64 c, .int .i64 d] 25)) (.cells #[.int .i64 p, .int .i64 q, .int .i64 r, .int .i64 s] 25)) (.cells #[.int .i64 0, .int .i64 0, .int .i64 0, .int .i64 0] 25)
  simp only [World.size_alloc] at A0 G0 R0
  go_enter Tryd.func115, Tryd.ntmps115
  go_wp2
  generalize (((w.alloc (.cells #[.int .i64 a, .int .i64 b, .int .i64 c, .int .i64 d] 25)).alloc (.cells #[.int .i64 p, .int .i64 q, .int .i64 r, .int .i64 s] 25)).alloc (.cells #[.int .i64 0, .int .i64 0, .int .i64 0, .int .i64 0] 25)) = W0 at A0 G0 R0 B0 ⊢
  refine wp_loop_rounds 5 ?_
  -- round 0
  obtain ⟨_, c0, c1, c2, c3, f0, f1, f2, f3⟩ := id A0
  obtain ⟨_, g0, g1, g2, g3, _⟩ := id G0
  rw [rounds_succ]; go_wp2
  go_still_tail 10, (by kernel_rfl)
  go_wp2
  have A1 := (A0.set0 (am a k p)).drew
  have G1 := (G0.oth (p := ⟨w.heap.size, 0, none⟩) (by simp) (.int .i64 (am a k p))).drew
  have R1 := (R0.oth (p := ⟨w.heap.size, 0, none⟩) (by simp; omega) (.int .i64 (am a k p))).drew
  have B1 := gr_drew (gr_set B0 (p := ⟨w.heap.size, 0, none⟩) (by simp) (.int .i64 (am a k p)))
  clear c0 c1 c2 c3 f0 f1 f2 f3 g0 g1 g2 g3
  simp only [am, pl, mu] at A1 G1 R1 B1
  generalize (World.setCell W0 ⟨w.heap.size, 0, none⟩ (.int .i64 (wrap64 (a + wrap64 (k * p))))).drew = W1 at A1 G1 R1 B1 ⊢
  clear A0 G0 R0 B0
  -- round 1
  obtain ⟨_, c0, c1, c2, c3, f0, f1, f2, f3⟩ := id A1
  obtain ⟨_, g0, g1, g2, g3, _⟩ := id G1
  rw [rounds_succ]; go_wp2
  go_still_tail 10, (by kernel_rfl)
  go_wp2
  have A2 := (A1.set1 (am b k q)).drew
  have G2 := (G1.oth (p := ⟨w.heap.size, 1, none⟩) (by simp) (.int .i64 (am b k q))).drew
  have R2 := (R1.oth (p := ⟨w.heap.size, 1, none⟩) (by simp; omega) (.int .i64 (am b k q))).drew
  have B2 := gr_drew (gr_set B1 (p := ⟨w.heap.size, 1, none⟩) (by simp) (.int .i64 (am b k q)))
  clear c0 c1 c2 c3 f0 f1 f2 f3 g0 g1 g2 g3
  simp only [am, pl, mu] at A2 G2 R2 B2
  generalize (World.setCell W1 ⟨w.heap.size, 1, none⟩ (.int .i64 (wrap64 (b + wrap64 (k * q))))).drew = W2 at A2 G2 R2 B2 ⊢
  clear A1 G1 R1 B1
  -- round 2
  obtain ⟨_, c0, c1, c2, c3, f0, f1, f2, f3⟩ := id A2
  obtain ⟨_, g0, g1, g2, g3, _⟩ := id G2
  rw [rounds_succ]; go_wp2
  go_still_tail 10, (by kernel_rfl)
  go_wp2
  have A3 := (A2.set2 (am c k r)).drew
  have G3 := (G2.oth (p := ⟨w.heap.size, 2, none⟩) (by simp) (.int .i64 (am c k r))).drew
  have R3 := (R2.oth (p := ⟨w.heap.size, 2, none⟩) (by simp; omega) (.int .i64 (am c k r))).drew
  have B3 := gr_drew (gr_set B2 (p := ⟨w.heap.size, 2, none⟩) (by simp) (.int .i64 (am c k r)))
  clear c0 c1 c2 c3 f0 f1 f2 f3 g0 g1 g2 g3
  simp only [am, pl, mu] at A3 G3 R3 B3
  generalize (World.setCell W2 ⟨w.heap.size, 2, none⟩ (.int .i64 (wrap64 (c + wrap64 (k * r))))).drew = W3 at A3 G3 R3 B3 ⊢
  clear A2 G2 R2 B2
  -- round 3
  obtain ⟨_, c0, c1, c2, c3, f0, f1, f2, f3⟩ := id A3
  obtain ⟨_, g0, g1, g2, g3, _⟩ := id G3
  rw [rounds_succ]; go_wp2
  go_still_tail 10, (by kernel_rfl)
  go_wp2
  have A4 := (A3.set3 (am d k s)).drew
  have G4 := (G3.oth (p := ⟨w.heap.size, 3, none⟩) (by simp) (.int .i64 (am d k s))).drew
  have R4 := (R3.oth (p := ⟨w.heap.size, 3, none⟩) (by simp; omega) (.int .i64 (am d k s))).drew
  have B4 := gr_drew (gr_set B3 (p := ⟨w.heap.size, 3, none⟩) (by simp) (.int .i64 (am d k s)))
  clear c0 c1 c2 c3 f0 f1 f2 f3 g0 g1 g2 g3
  simp only [am, pl, mu] at A4 G4 R4 B4
  generalize (World.setCell W3 ⟨w.heap.size, 3, none⟩ (.int .i64 (wrap64 (d + wrap64 (k * s))))).drew = W4 at A4 G4 R4 B4 ⊢
  clear A3 G3 R3 B3
  obtain ⟨_, c0, c1, c2, c3, f0, f1, f2, f3⟩ := id A4
  obtain ⟨_, r0, r1, r2, r3, g0, g1, g2, g3⟩ := id R4
  rw [rounds_succ]; go_wp2
  refine bodyPost_ret (res_A1 (e := 2) rfl Tryd.underlying25 (by kernel_rfl) rfl (by (repeat (first | with_reducible assumption | with_reducible exact Arr.box (by assumption) | with_reducible apply Arr.drew | with_reducible apply Arr.drewN | with_reducible refine Arr.store4 ?_ | with_reducible apply Arr.alloc | with_reducible refine Box.drew ?_ | with_reducible refine Box.drewN ?_ _ | with_reducible refine Box.alloc ?_ _ | refine Arr.oth ?_ (by first | (simp; done) | omega | (simp; omega)) _ | refine Box.oth ?_ (by first | (simp; done) | omega | (simp; omega)) _)))) rfl ?_
  exact ⟨rfl, by (repeat' (first | with_reducible exact Below.refl _ _ | with_reducible assumption | with_reducible refine gr_alloc ?_ _ | with_reducible refine gr_drew ?_ | with_reducible refine gr_drewN ?_ _ | with_reducible refine gr_trans ?_ (by assumption) | with_reducible refine gr_set ?_ ?_ _ | (simp; done) | omega | (simp; omega)))⟩

end Go.Proofs.YtdogkkmdccieiaaDoor
