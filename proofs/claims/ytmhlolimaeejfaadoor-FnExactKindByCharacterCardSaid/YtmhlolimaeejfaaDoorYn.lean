/- Chapter 9: numbers as nodes. -/
import Derived.Test.YtmhlolimaeejfaaDoorYc
import Derived.Test.YtmhlolimaeejfaaDoorBy
namespace Go.Proofs.YtmhlolimaeejfaaDoor
open Go.RowKit

/-- The nodes of n: primes, ascending, with their times. -/
inductive Nod : Nat → List (Nat × Nat) → Prop
  | one : Nod 1 []
  | cons {p t m n : Nat} {N : List (Nat × Nat)} : n = p ^ t * m → 2 ≤ p → NoDiv n p → 1 ≤ t → m % p ≠ 0 → Nod m N → Nod n ((p, t) :: N)
theorem Nod.pos {n : Nat} {N : List (Nat × Nat)} (h : Nod n N) : 0 < n := by
  induction h with
  | one => omega
  | cons e h2 _ _ _ _ ih => rw [e]; exact Nat.mul_pos (Nat.pow_pos (by omega)) ih
theorem nodiv_mul {p m q : Nat} (h : NoDiv (p * m) q) : NoDiv m q := fun j a b hj => h j a b (Nat.mod_eq_zero_of_dvd (Nat.dvd_trans (Nat.dvd_of_mod_eq_zero hj) (Nat.dvd_mul_left _ _)))
theorem pf_rep {p : Nat} {m : Nat} {L : List Nat} (h2 : 2 ≤ p) (hL : Pf m L) : ∀ t, NoDiv (p ^ t * m) p → Pf (p ^ t * m) (List.replicate t p ++ L)
  | 0, _ => by simpa using hL
  | t + 1, h => by
    have e : p ^ (t + 1) * m = p * (p ^ t * m) := by rw [Nat.pow_succ]; grind
    rw [e] at h ⊢
    have ih := pf_rep h2 hL t (nodiv_mul h)
    rw [List.replicate_succ, List.cons_append]
    exact .cons h2 h ih.pos ih
theorem Nod.pf {n : Nat} {N : List (Nat × Nat)} (h : Nod n N) : Pf n (unf N) := by
  induction h with
  | one => exact .one
  | cons e h2 hn _ _ _ ih => subst e; exact pf_rep h2 ih _ hn
theorem Pf.uniq {n : Nat} {L : List Nat} (h : Pf n L) : ∀ {L'}, Pf n L' → L = L' := by
  induction h with
  | one => intro L' h'; exact h'.eq_one.symm
  | @cons p m L h2 hn hm hL ih =>
    intro L' h'
    obtain ⟨L'', rfl, h3, _, _⟩ := h'.head h2 (Nat.mul_mod_right p m) hn
    rw [Nat.mul_div_cancel_left _ (by omega)] at h3
    rw [ih h3]
theorem Nod.bd {n : Nat} {N : List (Nat × Nat)} (h : Nod n N) : ∀ x ∈ N, 2 ≤ x.1 ∧ x.1 ≤ n ∧ 1 ≤ x.2 ∧ x.2 ≤ n := by
  induction h with
  | one => intro x hx; cases hx
  | @cons p t m n N e h2 hn ht hz hN ih =>
    have hm := hN.pos
    have hp : 0 < p ^ t := Nat.pow_pos (by omega)
    have hle : m ≤ n := by rw [e]; exact Nat.le_mul_of_pos_left _ hp
    have hle2 : p ^ t ≤ n := by rw [e]; exact Nat.le_mul_of_pos_right _ hm
    intro x hx
    rcases List.mem_cons.1 hx with rfl | hx
    · refine ⟨h2, ?_, ht, ?_⟩
      · have : p ^ 1 ≤ p ^ t := Nat.pow_le_pow_right (by omega) ht
        simp at this; omega
      · have := Nat.lt_pow_self (n := t) (show 1 < p by omega)
        show t ≤ n
        omega
    · obtain ⟨a, b, c, d⟩ := ih x hx
      exact ⟨a, by omega, c, by omega⟩

/-- The chain of nodes behind a pointer. -/
def Chn (w : World) (B : Nat) : List (Nat × Nat) → Option Addr → Prop
  | [], v => v = none
  | (p, t) :: N, v => ∃ (b : Nat) (v' : Option Addr), v = some ⟨b, 0, none⟩ ∧ B ≤ b ∧ Bx w b #[.int .i64 ((p : Int)), .int .i64 ((t : Int)), .pointer v'] 92 ∧ Chn w B N v'
theorem Chn.next {w w' : World} {B : Nat} : ∀ {N : List (Nat × Nat)} {v : Option Addr}, Chn w B N v → Below w.heap.size w w' → Chn w' B N v
  | [], _, h, _ => h
  | (_, _) :: _, _, ⟨b, v', e, hb, hx, hN⟩, h => ⟨b, v', e, hb, hx.next h, hN.next h⟩
theorem Chn.away {w : World} {B j : Nat} (hj : j < B) (i : Nat) (u : Value) : ∀ {N : List (Nat × Nat)} {v : Option Addr}, Chn w B N v → Chn (w.setCell ⟨j, i, none⟩ u) B N v
  | [], _, h => h
  | (_, _) :: _, _, ⟨b, v', e, hb, hx, hN⟩ => ⟨b, v', e, hb, hx.away (by omega) i u, hN.away hj i u⟩
theorem Chn.mono {w : World} {B B' : Nat} (h : B' ≤ B) : ∀ {N : List (Nat × Nat)} {v : Option Addr}, Chn w B N v → Chn w B' N v
  | [], _, h' => h'
  | (_, _) :: _, _, ⟨b, v', e, hb, hx, hN⟩ => ⟨b, v', e, by omega, hx, hN.mono h⟩
def NodPost (n : Nat) (w : World) (e : Ending) (w' : World) : Prop := ∃ (v : Option Addr) (N : List (Nat × Nat)), e = .returned (.pointer v) ∧ Nod n N ∧ Chn w' w.heap.size N v ∧ Below w.heap.size w w'

/-- The divisions by the least prime. -/
structure Nd (n p t m : Nat) : Prop where
  eq : n = p ^ t * m
  nd : NoDiv m p
  pos : 0 < m
  sum : t + m ≤ n
  fst : t = 0 → m = n
theorem Nd.start {n p : Nat} (h : 1 ≤ n) (hn : NoDiv n p) : Nd n p 0 n := ⟨by simp, hn, by omega, by omega, fun _ => rfl⟩
theorem Nd.step {n p t m : Nat} (h : Nd n p t m) (h2 : 2 ≤ p) (hz : m % p = 0) : Nd n p (t + 1) (m / p) ∧ m / p < m := by
  obtain ⟨k, hk⟩ := Nat.dvd_of_mod_eq_zero hz
  have hd : m / p = k := by rw [hk]; exact Nat.mul_div_cancel_left _ (by omega)
  have hm := h.pos
  have hk0 : 0 < k := Nat.pos_of_ne_zero fun e => by rw [e] at hk; omega
  have hlt : 2 * k ≤ m := by rw [hk]; exact Nat.mul_le_mul_right _ h2
  refine ⟨⟨?_, nodiv_div hz h.nd, by omega, by have := h.sum; omega, fun e => by omega⟩, by omega⟩
  rw [hd, h.eq, hk, Nat.pow_succ]; grind
theorem Nd.fin {n p t m : Nat} {N : List (Nat × Nat)} (h : Nd n p t m) (h2 : 2 ≤ p) (hn : NoDiv n p) (hz0 : n % p = 0) (hz : m % p ≠ 0) (hN : Nod m N) : Nod n ((p, t) :: N) := by
  refine .cons h.eq h2 hn ?_ hz hN
  rcases Nat.eq_zero_or_pos t with h0 | h0
  · have := h.fst h0; subst this; exact absurd hz0 hz
  · exact h0

set_option maxRecDepth 100000 in
set_option maxHeartbeats 1000000 in
theorem numberOf_all (M : Nat) : ∀ (n : Nat) (w : World), 1 ≤ n → n ≤ M → n ≤ 1000000 → Calls Tryd.prog 61 #[.int .i64 ((n : Int))] w (NodPost n w) := by
  induction M with
  | zero => intro n w h1 h2; omega
  | succ M ih =>
    intro n w h1 hM h6
    have IH := hid ih
    clear ih
    by_cases hn1 : n = 1
    · have hb : ((n : Int) == 1) = true := by simp; omega
      have H1 := hid hn1
      clear hn1
      go_enter Tryd.func61, Tryd.ntmps61
      go_wp2
      go_ret
      exact ⟨none, [], rfl, H1.out ▸ .one, rfl, Below.refl _ _⟩
    · have hb : ((n : Int) == 1) = false := by simp; omega
      go_enter Tryd.func61, Tryd.ntmps61
      go_wp2_with fail
      refine (leastDivisor_any n _ (by omega) (by omega)).mono ?_
      rintro e w1 ⟨p, rfl, ⟨hp2, hpn, hz0, hnd⟩, rfl⟩
      simp only [Int.toNat_natCast] at hz0 hnd
      have HZ0 := hid hz0
      have B0 := Bx.new w #[.int .i64 ((p : Int)), .int .i64 (((0 : Nat) : Int)), .pointer none] 92
      have U0 := gr_alloc (Below.refl w.heap.size w) (.cells #[.int .i64 ((p : Int)), .int .i64 (((0 : Nat) : Int)), .pointer none] 92)
      clear hz0
      go_wp2_with fail
      go_loopw [0] (fun s wr => ∃ t m : Nat, s = .int .i64 ((m : Int)) ∧ Nd n p t m ∧ Bx wr w.heap.size #[.int .i64 ((p : Int)), .int .i64 ((t : Int)), .pointer none] 92 ∧ Below w.heap.size w wr) (fun s _ => (intOf s).toNat)
      case atStart => exact ⟨0, n, rfl, Nd.start h1 hnd, B0, U0⟩
      case round =>
        obtain ⟨t, m, rfl, H, hB, hU⟩ := hrel
        have HB := hid hB; have HU := hid hU
        have c0 : wr.cell? ⟨w.heap.size, 0, none⟩ = some (.int .i64 ((p : Int))) := hB.cell 0
        have c1 : wr.cell? ⟨w.heap.size, 1, none⟩ = some (.int .i64 ((t : Int))) := hB.cell 1
        have c2 : wr.cell? ⟨w.heap.size, 2, none⟩ = some (.pointer none) := hB.cell 2
        have f1 := hB.frozen 1
        have f2 := hB.frozen 2
        have hlt := hB.lt
        have hsum := H.sum
        clear hB hU B0 U0
        by_cases hz : m % p = 0
        · obtain ⟨HS, hlt2⟩ := H.step hp2 hz
          have HS := hid HS
          have hm : mul0 m p = true := by rw [mul0_e (by omega)]; simp; omega
          have hd2 : m / p ≤ 1000000 := by omega
          have hd0 : 0 ≤ (m : Int) / (p : Int) := by rw [← Int.natCast_ediv]; exact Int.natCast_nonneg _
          have hd1 : (m : Int) / (p : Int) ≤ 1000000 := Int.le_trans (Int.ediv_le_self _ (by omega)) (by omega)
          clear H hz
          go_wp2_with (go_at_call 64; refine (isMultiple_any m p _ (by omega) (by omega)).mono ?_; rintro e w2 ⟨rfl, rfl⟩)
          go_roundw
          case rel => exact ⟨t + 1, m / p, by first | rfl | go_num | (rw [wr_in (by omega)]), HS.out, by have := HB.out.put 1 (.int .i64 (((t + 1 : Nat) : Int))); simpa using this, gr_set HU.out (by simp) _⟩
          case measure => simp [intOf]; omega
        · have hm : mul0 m p = false := by rw [mul0_e (by omega)]; simp; omega
          have HH := hid H
          have hm1 := H.pos
          have HI := hid (fun W => IH.out m W hm1 (by
            have ht : t ≠ 0 := fun e => by have := H.fst e; subst this; exact hz HZ0.out
            omega) (by omega))
          have HZ := hid hz
          clear H hz
          go_wp2_with (first | (go_at_call 64; refine (isMultiple_any m p _ (by omega) (by omega)).mono ?_; rintro e w2 ⟨rfl, rfl⟩) | (go_at_call 61; refine (HI.out _).mono ?_; rintro e w3 ⟨v, N, rfl, hN, hC, hb3⟩; have hz3 := hb3.size; have HN := hid hN; have HC := hid hC; have HB3 := hid (HB.out.next hb3); have f2 := HB3.out.frozen 2; have c2 : w3.cell? ⟨w.heap.size, 2, none⟩ = some (.pointer none) := HB3.out.cell 2; have HU3 := hid (gr_trans HU.out hb3); have hlt3 := HB3.out.lt; clear hN hC))
          go_ret
          refine ⟨some ⟨w.heap.size, 0, none⟩, (p, t) :: N, rfl, HH.out.fin hp2 hnd HZ0.out HZ.out HN.out, ⟨w.heap.size, v, rfl, Nat.le_refl _, ?_, ?_⟩, ?_⟩
          · have := HB3.out.put 2 (.pointer v); simpa using this
          · exact ((HC.out).away (by omega) 2 (.pointer v)).mono (by omega)
          · exact gr_set HU3.out (by simp) _

theorem numberOf_any (n : Nat) (w : World) (h1 : 1 ≤ n) (h6 : n ≤ 1000000) : Calls Tryd.prog 61 #[.int .i64 ((n : Int))] w (NodPost n w) := numberOf_all n n w h1 (Nat.le_refl _) h6


end Go.Proofs.YtmhlolimaeejfaaDoor
