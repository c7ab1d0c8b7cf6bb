/- Chapter 9: roots of squares, the program's and the model's. -/
import Derived.Test.YtmhlolimaeejfaaDoorYa
import Derived.Test.YtmhlolimaeejfaaDoorZ2
namespace Go.Proofs.YtmhlolimaeejfaaDoor
open Go.RowKit

/-- The greatest number whose square is at most n; 0 for n less than 0. -/
def RtPost (n : Int) (w : World) (e : Ending) (w' : World) : Prop := ∃ r : Nat, e = .returned (.int .i64 ((r : Int))) ∧ r ≤ 3000000000 ∧ (sqb n = ((r : Int) * r == n) ∧ (0 ≤ n → (r : Int) * r ≤ n ∧ n < ((r : Int) + 1) * (r + 1))) ∧ w = w'
theorem rt_neg {n : Int} (h : n < 0) : sqb n = (((0 : Nat) : Int) * (0 : Nat) == n) ∧ (0 ≤ n → ((0 : Nat) : Int) * (0 : Nat) ≤ n ∧ n < (((0 : Nat) : Int) + 1) * ((0 : Nat) + 1)) := by
  refine ⟨?_, fun h' => by omega⟩
  rw [sqb_neg h]
  simp; omega
theorem rt_mk {n : Int} {r : Nat} (h1 : (r : Int) * r ≤ n) (h2 : n < ((r : Int) + 1) * (r + 1)) : sqb n = ((r : Int) * r == n) ∧ (0 ≤ n → (r : Int) * r ≤ n ∧ n < ((r : Int) + 1) * (r + 1)) := by
  refine ⟨?_, fun _ => ⟨h1, h2⟩⟩
  have := sqb_root (n := n) (r := r) (by push_cast; exact h1) (by push_cast; exact h2)
  rw [this]; push_cast; rfl

/-- The state of the search by bits: b is half of c, or 0 behind 1. -/
structure Sq (n : Int) (b r : Nat) : Prop where
  bd : b ≤ 1073741824 ∧ r + 2 * b ≤ 2147483648
  half : (b / 2 = 0 ∧ b = 1) ∨ b = 2 * (b / 2) ∨ b = 0
  neg : n < 0 → r = 0
  low : 0 ≤ n → (r : Int) * r ≤ n
  high : n < ((r : Int) + (if b = 0 then 1 else 2 * (b : Int))) * (r + (if b = 0 then 1 else 2 * (b : Int)))
  two : b = 0 ∨ ∃ m, m ≤ 30 ∧ b = 2 ^ m
theorem two_half {b m : Nat} (h : b = 2 ^ m) : b = 1 ∨ (∃ u, b = 2 * u ∧ 0 < u ∧ ∃ k, k + 1 = m ∧ u = 2 ^ k) := by
  subst h
  cases m with
  | zero => left; decide
  | succ k =>
    right
    exact ⟨2 ^ k, by rw [Nat.pow_succ]; omega, Nat.two_pow_pos k, k, rfl, rfl⟩
theorem half_of {u k : Nat} (h : u = 2 ^ k) : (u / 2 = 0 ∧ u = 1) ∨ u = 2 * (u / 2) ∨ u = 0 := by
  rcases two_half h with rfl | ⟨v, rfl, _⟩
  · exact .inl ⟨rfl, rfl⟩
  · exact .inr (.inl (by omega))
theorem Sq.start {n : Int} (h : n < 4611686018427387904) : Sq n 1073741824 0 :=
  ⟨by omega, by omega, fun _ => rfl, fun h => by simpa using h, by simp; omega, .inr ⟨30, by omega, by decide⟩⟩
theorem Sq.take {n : Int} {b r : Nat} (h : Sq n b r) (hb : 0 < b) (hle : ((r : Int) + b) * (r + b) ≤ n) : Sq n (b / 2) (r + b) := by
  obtain ⟨h1, h2, h3, h4, h5, h6⟩ := h
  have hn0 : 0 ≤ n := by
    have : (0 : Int) ≤ ((r : Int) + b) * (r + b) := Int.mul_nonneg (by omega) (by omega)
    omega
  rw [if_neg (by omega)] at h5
  rcases h6 with h6 | ⟨m, hm, hbm⟩
  · omega
  rcases two_half hbm with rfl | ⟨u, rfl, hu, k, hk, hk2⟩
  · refine ⟨by omega, .inr (.inr rfl), fun h => by omega, fun _ => by push_cast at *; exact hle, ?_, .inl rfl⟩
    rw [if_pos rfl]
    have : (((r + 1 : Nat) : Int) + 1) = (r : Int) + 2 * ((1 : Nat) : Int) := by omega
    rw [this]; exact h5
  · have e : 2 * u / 2 = u := by omega
    rw [e]
    refine ⟨by omega, half_of hk2, fun h => by omega, fun _ => by push_cast at *; exact hle, ?_, .inr ⟨k, by omega, hk2⟩⟩
    rw [if_neg (by omega)]
    have : ((r + 2 * u : Nat) : Int) + 2 * (u : Int) = r + 2 * ((2 * u : Nat) : Int) := by omega
    rw [this]; exact h5
theorem Sq.leave {n : Int} {b r : Nat} (h : Sq n b r) (hb : 0 < b) (hlt : n < ((r : Int) + b) * (r + b)) : Sq n (b / 2) r := by
  obtain ⟨h1, h2, h3, h4, h5, h6⟩ := h
  rcases h6 with h6 | ⟨m, hm, hbm⟩
  · omega
  rcases two_half hbm with rfl | ⟨u, rfl, hu, k, hk, hk2⟩
  · refine ⟨by omega, .inr (.inr rfl), h3, h4, ?_, .inl rfl⟩
    rw [if_pos rfl]; exact hlt
  · have e : 2 * u / 2 = u := by omega
    rw [e]
    refine ⟨by omega, half_of hk2, h3, h4, ?_, .inr ⟨k, by omega, hk2⟩⟩
    rw [if_neg (by omega)]
    have : (r : Int) + 2 * (u : Int) = r + ((2 * u : Nat) : Int) := by omega
    rw [this]; exact hlt
theorem Sq.fin {n : Int} {r : Nat} (h : Sq n 0 r) : sqb n = ((r : Int) * r == n) ∧ (0 ≤ n → (r : Int) * r ≤ n ∧ n < ((r : Int) + 1) * (r + 1)) := by
  obtain ⟨h1, h2, h3, h4, h5, h6⟩ := h
  rw [if_pos rfl] at h5
  by_cases hn : n < 0
  · have := h3 hn
    subst this
    exact rt_neg hn
  · exact rt_mk (h4 (by omega)) h5
theorem sqr_bd {x B : Int} (h0 : 0 ≤ x) (h : x ≤ B) : 0 ≤ x * x ∧ x * x ≤ B * B := ⟨Int.mul_nonneg h0 h0, Int.mul_le_mul h h h0 (by omega)⟩

set_option maxHeartbeats 400000 in
theorem squareRoot_any (n : Int) (w : World) (h : n < 4611686018427387904) : Calls Tryd.prog 73 #[.int .i64 n] w (RtPost n w) := by
  go_enter Tryd.func73, Tryd.ntmps73
  go_wp2
  go_loop [3, 4] (fun s t => ∃ b r : Nat, s = .int .i64 ((r : Int)) ∧ t = .int .i64 ((b : Int)) ∧ Sq n b r) (fun _ t => (intOf t).toNat)
  case atStart => exact ⟨1073741824, 0, rfl, rfl, Sq.start h⟩
  case round =>
    obtain ⟨b, r, rfl, rfl, H⟩ := hrel
    obtain ⟨hb1, hb2⟩ := H.bd
    by_cases hb : 0 < b
    · obtain ⟨q0, q1⟩ := sqr_bd (x := (r : Int) + b) (B := 2147483648) (by omega) (by omega)
      by_cases hle : ((r : Int) + b) * (r + b) ≤ n
      · have HT := hid (H.take hb hle)
        clear H
        go_wp2
        go_round
        case rel => exact ⟨b / 2, r + b, by go_num, by go_num, HT.out⟩
        case measure => simp [intOf]; omega
      · have HT := hid (H.leave hb (by omega))
        clear H
        go_wp2
        go_round
        case rel => exact ⟨b / 2, r, rfl, by go_num, HT.out⟩
        case measure => simp [intOf]; omega
    · have : b = 0 := by omega
      subst this
      have HF := hid H.fin
      clear H
      go_wp2
      go_ret
      exact ⟨r, rfl, by omega, HF.out, rfl⟩

/-- The state of the search by halves. -/
structure Sh (n : Int) (lo hi : Nat) : Prop where
  le : lo ≤ hi ∧ hi ≤ 3000000000
  neg : n < 0 → lo = 0
  low : 0 ≤ n → (lo : Int) * lo ≤ n
  high : n < ((hi : Int) + 1) * (hi + 1)
theorem Sh.fin {n : Int} {r : Nat} (h : Sh n r r) : sqb n = ((r : Int) * r == n) ∧ (0 ≤ n → (r : Int) * r ≤ n ∧ n < ((r : Int) + 1) * (r + 1)) := by
  by_cases hn : n < 0
  · have := h.neg hn
    subst this
    exact rt_neg hn
  · exact rt_mk (h.low (by omega)) h.high








end Go.Proofs.YtmhlolimaeejfaaDoor
