/- Several texts in one: XDr, XC1g, XC1h. -/
import Derived.Test.YtambbhldhhlfgaaDoorFkZ7
import Derived.Test.YtambbhldhhlfgaaDoorFkZ4
import Derived.RangeFuncBox
import Derived.Test.YtambbhldhhlfgaaDoorFkZ2
import Derived.Test.YtambbhldhhlfgaaDoorFkZ5
import Derived.Test.YtambbhldhhlfgaaDoorFkZ3

/- The door of roots. -/
namespace Go.Proofs.YtambbhldhhlfgaaDoor
open Go.RowKit

/-- What a function has laid that returns a row of roots. -/
def RtOut (n : Nat) (xs : List Value) (w : World) (e : Ending) (w' : World) : Prop := ∃ v, e = .returned v ∧ w'.ownsRow w.heap.size 138 3 v n xs ∧ Below w.heap.size w w'
/-- .. and with a nil error. -/
def RtOk (n : Nat) (xs : List Value) (w : World) (e : Ending) (w' : World) : Prop := ∃ v, e = .returned (.tuple #[v, .nilIface]) ∧ w'.ownsRow w.heap.size 138 3 v n xs ∧ Below w.heap.size w w'
theorem owns_set {w : World} {B : Nat} {t : TypeId} {s : Nat} {v : Value} {n : Nat} {xs : List Value} (h : w.ownsRow B t s v n xs) {p : Nat} (hp : p < B) (u : Value) : (w.setCell ⟨p, 0, none⟩ u).ownsRow B t s v n xs :=
  h.kept (row := some p) (grownBy_setCell' w p u) (by
    cases hv : v.ownBlock with
    | none => exact .inl rfl
    | some g => have := (h.lt g hv).1; exact .inr (by simp; omega))
theorem owns_mono {w : World} {B B' : Nat} {t : TypeId} {s : Nat} {v : Value} {n : Nat} {xs : List Value} (h : w.ownsRow B t s v n xs) (hB : B' ≤ B) : w.ownsRow B' t s v n xs := by
  refine ⟨h.1, ?_⟩
  rcases h.2 with h | ⟨g, cap, cur, h1, h2, h3⟩
  · exact .inl h
  · exact .inr ⟨g, cap, cur, h1, by omega, h3⟩

set_option maxRecDepth 100000 in
set_option maxHeartbeats 1000000 in
theorem orErrR_ok (a b : Addr) (n : Nat) (xs : List Value) (w : World) (hC : Calls Tryd.prog 160 #[.pointer (some a), .pointer (some b)] (w.alloc (.cells #[.nilIface] 97)) (RtOut n xs (w.alloc (.cells #[.nilIface] 97)))) :
    Calls Tryd.prog 159 #[.func (.func 160) #[] #[.pointer (some a), .pointer (some b)]] w (RtOk n xs w) := by
  have hmf : ∀ (fn : Fn) (first cap : Array Value) (w : World), (Instr.makeFunc fn first cap).run Tryd.prog w = .ok (.func fn first cap) w := fun _ _ _ _ => rfl
  have H := hid hC
  clear hC
  have E0 := Bx.new w #[.nilIface] 97
  go_enter_defers Tryd.func159, Tryd.ntmps159
  go_wp2_with fail
  refine H.out.mono ?_
  rintro e w1 ⟨v, rfl, hO, hb⟩
  have E1 := E0.next hb
  have e0 := E1.cell 0
  have f0 := E1.frozen 0
  go_wp2_with fail
  refine leaves_cons (f := 185) (args := #[.pointer (some ⟨w.heap.size, 0, none⟩)]) (by simp) (by simp [go_sem]) ?_
  refine (catchR_idle ⟨w.heap.size, 0, none⟩ _).mono ?_
  rintro e u' w2 ⟨rfl, rfl, rfl⟩
  have hc : (w1.setCell ⟨w.heap.size, 0, none⟩ .nilIface).cell? ⟨w.heap.size, 0, none⟩ = some .nilIface := World.cell?_setCell_same' _ _ _ (by rw [e0]; rfl)
  simp only [World.size_alloc] at hO
  refine ⟨.tuple #[v, .nilIface], by simp [results, Tryd.results159, go_sem, hc], v, rfl, owns_mono (owns_set hO (by omega) _) (by omega), ?_⟩
  exact gr_set (gr_trans (gr_alloc (Below.refl w.heap.size w) _) hb) (Nat.le_refl _) _

/-- A panic with an error. -/
def PanOut (pv : Value) (w : World) (e : Ending) (w' : World) : Prop := e = .panicked [{ v := .iface 191 pv, recovered := false }] ∧ Below w.heap.size w w'

set_option maxRecDepth 100000 in
set_option maxHeartbeats 1000000 in
theorem orErrR_err (a b : Addr) (pv : Value) (w : World) (hC : Calls Tryd.prog 160 #[.pointer (some a), .pointer (some b)] (w.alloc (.cells #[.nilIface] 97)) (PanOut pv (w.alloc (.cells #[.nilIface] 97)))) :
    Calls Tryd.prog 159 #[.func (.func 160) #[] #[.pointer (some a), .pointer (some b)]] w fun e w' => e = .returned (.tuple #[.slice none 0 0, .iface 191 pv]) ∧ Below w.heap.size w w' := by
  have hmf : ∀ (fn : Fn) (first cap : Array Value) (w : World), (Instr.makeFunc fn first cap).run Tryd.prog w = .ok (.func fn first cap) w := fun _ _ _ _ => rfl
  have H := hid hC
  clear hC
  have E0 := Bx.new w #[.nilIface] 97
  go_enter_defers Tryd.func159, Tryd.ntmps159
  go_wp2_with fail
  refine H.out.mono ?_
  rintro e w1 ⟨rfl, hb⟩
  have E1 := E0.next hb
  have e0 := E1.cell 0
  have f0 := E1.frozen 0
  refine leaves_cons (f := 185) (args := #[.pointer (some ⟨w.heap.size, 0, none⟩)]) (by simp) (by simp [go_sem]) ?_
  refine (catchR_panic ⟨w.heap.size, 0, none⟩ .nilIface pv [] _ (by rw [e0]; rfl) f0).mono ?_
  rintro e u' w2 ⟨rfl, rfl, rfl⟩
  have hc : (w1.setCell ⟨w.heap.size, 0, none⟩ (.iface 191 pv)).cell? ⟨w.heap.size, 0, none⟩ = some (.iface 191 pv) := World.cell?_setCell_same' _ _ _ (by rw [e0]; rfl)
  refine ⟨.tuple #[.slice none 0 0, .iface 191 pv], by simp [results, Tryd.results159, go_sem, hc], rfl, ?_⟩
  exact gr_set (gr_trans (gr_alloc (Below.refl w.heap.size w) _) hb) (Nat.le_refl _) _


end Go.Proofs.YtambbhldhhlfgaaDoor

/- Chapter 1: greatest common divisors. -/
namespace Go.Proofs.YtambbhldhhlfgaaDoor
open Go.RowKit

theorem gcd_step (x y : Int) : Int.gcd y (x.tmod y) = Int.gcd x y := by
  show Nat.gcd _ _ = Nat.gcd _ _
  rw [Int.natAbs_tmod, Nat.gcd_comm, ← Nat.gcd_rec, Nat.gcd_comm]
theorem tmod_abs (x y : Int) (hy : y ≠ 0) : (x.tmod y).natAbs < y.natAbs := by
  rw [Int.natAbs_tmod]; exact Nat.mod_lt _ (by omega)
theorem tmod_bd (x y : Int) (hy : y ≠ 0) (h1 : -1000000000000000000 ≤ y) (h2 : y ≤ 1000000000000000000) : -1000000000000000000 ≤ x.tmod y ∧ x.tmod y ≤ 1000000000000000000 := by
  have := tmod_abs x y hy
  generalize x.tmod y = t at *
  omega
theorem gcd_end {x m n : Int} (h : Int.gcd x 0 = Int.gcd m n) (hx : -x ≤ x) : x = (Int.gcd m n : Int) := by
  rw [← h, Int.gcd_zero_right]; omega
theorem gcd_end' {x m n : Int} (h : Int.gcd x 0 = Int.gcd m n) (hx : x < -x) : -x = (Int.gcd m n : Int) := by
  rw [← h, Int.gcd_zero_right]; omega

set_option maxHeartbeats 400000 in
theorem sGcd_any (m n : Int) (w : World) (hm : -1000000000000000000 ≤ m ∧ m ≤ 1000000000000000000) (hn : -1000000000000000000 ≤ n ∧ n ≤ 1000000000000000000) :
    Calls Tryd.prog 156 #[.int .i64 m, .int .i64 n] w fun e w' => e = .returned (.int .i64 ((Int.gcd m n : Int))) ∧ w = w' := by
  go_enter Tryd.func156, Tryd.ntmps156
  go_wp2
  go_loop [0, 1] (fun a b => ∃ x y : Int, a = .int .i64 x ∧ b = .int .i64 y ∧ -1000000000000000000 ≤ x ∧ x ≤ 1000000000000000000 ∧ -1000000000000000000 ≤ y ∧ y ≤ 1000000000000000000 ∧ Int.gcd x y = Int.gcd m n) (fun _ b => (intOf b).natAbs)
  case atStart => exact ⟨m, n, rfl, rfl, hm.1, hm.2, hn.1, hn.2, rfl⟩
  case round =>
    obtain ⟨x, y, rfl, rfl, hx1, hx2, hy1, hy2, hg⟩ := hrel
    have HG := hid hg
    clear hg
    have hst := gcd_step x y
    have HS := hid hst
    clear hst
    by_cases hy : y = 0
    · subst hy
      go_wp2
      · go_ret
        exact ⟨ret_int (gcd_end' HG.out (by omega)), rfl⟩
      · go_ret
        exact ⟨ret_int (gcd_end HG.out (by omega)), rfl⟩
    · have hab := tmod_abs x y hy
      obtain ⟨ht1, ht2⟩ := tmod_bd x y hy hy1 hy2
      have HAB := hid hab
      clear hab
      go_wp2
      go_round
      case rel => exact ⟨_, _, rfl, rfl, by omega, by omega, by omega, by omega, HS.out.trans HG.out⟩
      case measure => simpa [intOf] using HAB.out

set_option maxHeartbeats 400000 in
theorem iGcd_any (m n : Int) (w : World) (hm : -1000000000000000000 ≤ m ∧ m ≤ 1000000000000000000) (hn : -1000000000000000000 ≤ n ∧ n ≤ 1000000000000000000) :
    Calls Tryd.prog 155 #[.int .i64 m, .int .i64 n] w fun e w' => e = .returned (.int .i64 ((Int.gcd m n : Int))) ∧ Below w.heap.size w w' := by
  go_enter Tryd.func155, Tryd.ntmps155
  go_wp2
  go_loopw [0, 1] (fun a b wr => ∃ x y : Int, a = .int .i64 x ∧ b = .int .i64 y ∧ -1000000000000000000 ≤ x ∧ x ≤ 1000000000000000000 ∧ -1000000000000000000 ≤ y ∧ y ≤ 1000000000000000000 ∧ Int.gcd x y = Int.gcd m n ∧ Below w.heap.size w wr) (fun _ b _ => (intOf b).natAbs)
  case atStart => exact ⟨m, n, rfl, rfl, hm.1, hm.2, hn.1, hn.2, rfl, Below.refl _ _⟩
  case round =>
    obtain ⟨x, y, rfl, rfl, hx1, hx2, hy1, hy2, hg, hB⟩ := hrel
    have HG := hid hg
    clear hg
    have hst := gcd_step x y
    have HS := hid hst
    clear hst
    by_cases hy : y = 0
    · subst hy
      go_wp2
      · go_ret
        exact ⟨ret_int (gcd_end' HG.out (by omega)), by (repeat' (first | with_reducible exact Below.refl _ _ | with_reducible assumption | with_reducible refine gr_alloc ?_ _ | with_reducible refine gr_drew ?_ | with_reducible refine gr_drewN ?_ _ | with_reducible refine gr_trans ?_ (by assumption) | with_reducible refine gr_set ?_ ?_ _ | (simp; done) | omega | (simp; omega)))⟩
      · go_ret
        exact ⟨ret_int (gcd_end HG.out (by omega)), by (repeat' (first | with_reducible exact Below.refl _ _ | with_reducible assumption | with_reducible refine gr_alloc ?_ _ | with_reducible refine gr_drew ?_ | with_reducible refine gr_drewN ?_ _ | with_reducible refine gr_trans ?_ (by assumption) | with_reducible refine gr_set ?_ ?_ _ | (simp; done) | omega | (simp; omega)))⟩
    · have hab := tmod_abs x y hy
      obtain ⟨ht1, ht2⟩ := tmod_bd x y hy hy1 hy2
      have HAB := hid hab
      clear hab
      go_wp2
      go_quiet (fail)
      go_wp2
      go_roundw
      case rel => exact ⟨_, _, rfl, rfl, by omega, by omega, by omega, by omega, HS.out.trans HG.out, by (repeat' (first | with_reducible exact Below.refl _ _ | with_reducible assumption | with_reducible refine gr_alloc ?_ _ | with_reducible refine gr_drew ?_ | with_reducible refine gr_drewN ?_ _ | with_reducible refine gr_trans ?_ (by assumption) | with_reducible refine gr_set ?_ ?_ _ | (simp; done) | omega | (simp; omega)))⟩
      case measure => simpa [intOf] using HAB.out

end Go.Proofs.YtambbhldhhlfgaaDoor

/- Chapter 1: contents. -/
namespace Go.Proofs.YtambbhldhhlfgaaDoor
open Go.RowKit

set_option maxHeartbeats 400000 in
theorem sCnt_any (a b c d : Int) (w : World) (ha : -1000 ≤ a ∧ a ≤ 1000) (hb : -1000 ≤ b ∧ b ≤ 1000) (hc : -1000 ≤ c ∧ c ≤ 1000) (hd : -1000 ≤ d ∧ d ≤ 1000) :
    Calls Tryd.prog 88 #[.agg #[.int .i64 a, .int .i64 b, .int .i64 c, .int .i64 d]] w fun e w' => e = .returned (.int .i64 (cnt a b c d)) ∧ Below w.heap.size w w' := by
  have g1 := gcd_le ha hb
  have g2 := gcd_le hc hd
  go_enter Tryd.func88, Tryd.ntmps88
  go_wp2
  go_quiet ((go_at_call 156; exact quiet_s (sGcd_any _ _ _ (by omega) (by omega))))
  go_wp2
  go_ret
  exact ⟨rfl, by (repeat' (first | with_reducible exact Below.refl _ _ | with_reducible assumption | with_reducible refine gr_alloc ?_ _ | with_reducible refine gr_drew ?_ | with_reducible refine gr_drewN ?_ _ | with_reducible refine gr_trans ?_ (by assumption) | with_reducible refine gr_set ?_ ?_ _ | (simp; done) | omega | (simp; omega)))⟩

set_option maxHeartbeats 400000 in
theorem sContent_any (a b c d : Int) (w : World) :
    Calls Tryd.prog 55 #[.agg #[.int .i64 a, .int .i64 b, .int .i64 c, .int .i64 d]] w fun e w' => e = .returned (.tuple #[.int .i64 (ifF a b c d (cnt a b c d)), .int .i64 (cif a b c d)]) ∧ Below w.heap.size w w' := by
  go_enter Tryd.func55, Tryd.ntmps55
  go_wp2_with fail
  refine (l01Is_any a b c d _).mono ?_
  rintro e w1 ⟨rfl, hb1⟩
  obtain ⟨_, c0, c1, c2, c3, _⟩ := (Arr.new w a b c d 25).next hb1
  by_cases hm : isF a b c d = true
  · obtain ⟨ha, hb, hc, hd⟩ := isF_t hm
    go_wp2_with (go_at_call 88; refine (sCnt_any a b c d _ ha hb hc hd).mono ?_; rintro e w2 ⟨rfl, hb2⟩)
    go_ret2
    exact ⟨ret_tup2 (by simp [ifF, hm]) (by simp [cif, hm]), by (repeat' (first | with_reducible exact Below.refl _ _ | with_reducible assumption | with_reducible refine gr_alloc ?_ _ | with_reducible refine gr_drew ?_ | with_reducible refine gr_drewN ?_ _ | with_reducible refine gr_trans ?_ (by assumption) | with_reducible refine gr_set ?_ ?_ _ | (simp; done) | omega | (simp; omega)))⟩
  · have hm' : isF a b c d = false := by simpa using hm
    clear hm
    go_wp2
    go_ret2
    exact ⟨ret_tup2 (by simp [ifF, hm']) (by simp [cif, hm']), by (repeat' (first | with_reducible exact Below.refl _ _ | with_reducible assumption | with_reducible refine gr_alloc ?_ _ | with_reducible refine gr_drew ?_ | with_reducible refine gr_drewN ?_ _ | with_reducible refine gr_trans ?_ (by assumption) | with_reducible refine gr_set ?_ ?_ _ | (simp; done) | omega | (simp; omega)))⟩

set_option maxHeartbeats 1000000 in
theorem iGcd4_any (k : Nat) (a b c d : Int) (w : World) (hA : Arr w k a b c d) (ha : -1000 ≤ a ∧ a ≤ 1000) (hb : -1000 ≤ b ∧ b ≤ 1000) (hc : -1000 ≤ c ∧ c ≤ 1000) (hd : -1000 ≤ d ∧ d ≤ 1000) :
    Calls Tryd.prog 86 #[.slice (some ⟨k, 0, none⟩) 4 4] w fun e w' => e = .returned (.int .i64 (cnt a b c d)) ∧ Below w.heap.size w w' := by
  have g2 := gcd_le (m := a.natAbs) (n := b) (B := 1000) (by omega) hb
  have g3 := gcd_le (m := Int.gcd a.natAbs b) (n := c) (B := 1000) (by omega) hc
  obtain ⟨_, a0, a1, a2, a3, _⟩ := id hA
  go_enter Tryd.func86, Tryd.ntmps86
  go_wp2_with fail
  refine wp_loop_rounds 5 ?_
  rw [rounds_succ]; go_wp2_with fail
  refine (iGcd_any _ _ _ (by omega) (by omega)).mono ?_
  rintro e w2 ⟨rfl, hb2⟩
  have A2 := hA.next hb2
  clear a0 a1 a2 a3
  obtain ⟨_, a0, a1, a2, a3, _⟩ := id A2
  go_wp2_with fail
  rw [rounds_succ]; go_wp2_with fail
  refine (iGcd_any _ _ _ (by omega) (by omega)).mono ?_
  rintro e w3 ⟨rfl, hb3⟩
  have A3 := A2.next hb3
  clear a0 a1 a2 a3
  obtain ⟨_, a0, a1, a2, a3, _⟩ := id A3
  go_wp2_with fail
  rw [rounds_succ]; go_wp2_with fail
  refine (iGcd_any _ _ _ (by omega) (by omega)).mono ?_
  rintro e w4 ⟨rfl, hb4⟩
  have A4 := A3.next hb4
  clear a0 a1 a2 a3
  obtain ⟨_, a0, a1, a2, a3, _⟩ := id A4
  go_wp2_with fail
  rw [rounds_succ]; go_wp2_with fail
  refine (iGcd_any _ _ _ (by omega) (by omega)).mono ?_
  rintro e w5 ⟨rfl, hb5⟩
  go_wp2_with fail
  rw [rounds_succ]; go_wp2_with fail
  go_ret
  exact ⟨ret_int (by rw [← cnt_fold]), by (repeat' (first | with_reducible exact Below.refl _ _ | with_reducible assumption | with_reducible refine gr_alloc ?_ _ | with_reducible refine gr_drew ?_ | with_reducible refine gr_drewN ?_ _ | with_reducible refine gr_trans ?_ (by assumption) | with_reducible refine gr_set ?_ ?_ _ | (simp; done) | omega | (simp; omega)))⟩

set_option maxHeartbeats 1000000 in
theorem iContent_any (a b c d : Int) (w : World) :
    Calls Tryd.prog 51 #[.agg #[.int .i64 a, .int .i64 b, .int .i64 c, .int .i64 d]] w fun e w' => e = .returned (.tuple #[.int .i64 (ifF a b c d (cnt a b c d)), .int .i64 (cif a b c d)]) ∧ Below w.heap.size w w' := by
  go_enter Tryd.func51, Tryd.ntmps51
  go_wp2_with fail
  refine (iIsForm_any a b c d _).mono ?_
  rintro e w1 ⟨rfl, hb1⟩
  have A1 := (Arr.new w a b c d 25).next hb1
  by_cases hm : isF a b c d = true
  · obtain ⟨ha, hb, hc, hd⟩ := isF_t hm
    go_wp2_with fail
    refine (iGcd4_any _ a b c d _ A1 ha hb hc hd).mono ?_
    rintro e w2 ⟨rfl, hb2⟩
    go_wp2_with fail
    go_ret2
    exact ⟨ret_tup2 (by simp [ifF, hm]) (by simp [cif, hm]), by (repeat' (first | with_reducible exact Below.refl _ _ | with_reducible assumption | with_reducible refine gr_alloc ?_ _ | with_reducible refine gr_drew ?_ | with_reducible refine gr_drewN ?_ _ | with_reducible refine gr_trans ?_ (by assumption) | with_reducible refine gr_set ?_ ?_ _ | (simp; done) | omega | (simp; omega)))⟩
  · have hm' : isF a b c d = false := by simpa using hm
    clear hm
    go_wp2
    go_ret2
    exact ⟨ret_tup2 (by simp [ifF, hm']) (by simp [cif, hm']), by (repeat' (first | with_reducible exact Below.refl _ _ | with_reducible assumption | with_reducible refine gr_alloc ?_ _ | with_reducible refine gr_drew ?_ | with_reducible refine gr_drewN ?_ _ | with_reducible refine gr_trans ?_ (by assumption) | with_reducible refine gr_set ?_ ?_ _ | (simp; done) | omega | (simp; omega)))⟩

/-- The greatest common divisor of three numbers. -/
def cnt3 (a b c : Int) : Int := Int.gcd (Int.gcd a b) c

set_option maxHeartbeats 1000000 in
theorem iGcd3_any (k : Nat) (a b c : Int) (w : World) (hA : Arr3 w k a b c) (ha : -100000000 ≤ a ∧ a ≤ 100000000) (hb : -100000000 ≤ b ∧ b ≤ 100000000) (hc : -100000000 ≤ c ∧ c ≤ 100000000) :
    Calls Tryd.prog 86 #[.slice (some ⟨k, 0, none⟩) 3 3] w fun e w' => e = .returned (.int .i64 (cnt3 a b c)) ∧ Below w.heap.size w w' := by
  have g2 := gcd_le (m := a.natAbs) (n := b) (B := 100000000) (by omega) hb
  obtain ⟨_, a0, a1, a2, _⟩ := id hA
  go_enter Tryd.func86, Tryd.ntmps86
  go_wp2_with fail
  refine wp_loop_rounds 4 ?_
  rw [rounds_succ]; go_wp2_with fail
  refine (iGcd_any _ _ _ (by omega) (by omega)).mono ?_
  rintro e w2 ⟨rfl, hb2⟩
  have A2 := hA.next hb2
  clear a0 a1 a2
  obtain ⟨_, a0, a1, a2, _⟩ := id A2
  go_wp2_with fail
  rw [rounds_succ]; go_wp2_with fail
  refine (iGcd_any _ _ _ (by omega) (by omega)).mono ?_
  rintro e w3 ⟨rfl, hb3⟩
  have A3 := A2.next hb3
  clear a0 a1 a2
  obtain ⟨_, a0, a1, a2, _⟩ := id A3
  go_wp2_with fail
  rw [rounds_succ]; go_wp2_with fail
  refine (iGcd_any _ _ _ (by omega) (by omega)).mono ?_
  rintro e w4 ⟨rfl, hb4⟩
  go_wp2_with fail
  rw [rounds_succ]; go_wp2_with fail
  go_ret
  exact ⟨ret_int (by simp [cnt3, Int.gcd]), by (repeat' (first | with_reducible exact Below.refl _ _ | with_reducible assumption | with_reducible refine gr_alloc ?_ _ | with_reducible refine gr_drew ?_ | with_reducible refine gr_drewN ?_ _ | with_reducible refine gr_trans ?_ (by assumption) | with_reducible refine gr_set ?_ ?_ _ | (simp; done) | omega | (simp; omega)))⟩

end Go.Proofs.YtambbhldhhlfgaaDoor
