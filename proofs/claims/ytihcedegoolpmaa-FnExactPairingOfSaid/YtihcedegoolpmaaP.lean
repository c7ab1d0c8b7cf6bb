/- Chapter 3: pairings. -/
import Derived.Test.YtihcedegoolpmaaC1d
import Derived.Deep.RegionHeld3
namespace Go.Proofs.Ytihcedegoolpmaa
open Go.RowKit

/-- 3 a h - b g + c f - 3 d e; its code. -/
def prg (a b c d e f g h : Int) : Int := mi (pl (mi (mu (mu 3 a) h) (mu b g)) (mu c f)) (mu (mu 3 d) e)
def prc (a b c d e f g h : Int) : Int := if isF a b c d && isF e f g h then 0 else 1

set_option maxRecDepth 100000 in
set_option maxHeartbeats 1000000 in
theorem iPairing_any (a b c d e f g h : Int) (w : World) :
    Calls Try.prog 48 #[.agg #[.int .i64 a, .int .i64 b, .int .i64 c, .int .i64 d], .agg #[.int .i64 e, .int .i64 f, .int .i64 g, .int .i64 h]] w fun e' w' => e' = .returned (.tuple #[.int .i64 (if0 (prc a b c d e f g h) (prg a b c d e f g h)), .int .i64 (prc a b c d e f g h)]) ∧ Below w.heap.size w w' := by
  go_enter Try.func48, Try.ntmps48
  go_wp2_with fail
  refine (iIsForm_any a b c d _).mono ?_
  rintro e' w1 ⟨rfl, hb1⟩
  have A1 := ((Arr.new w a b c d 25).alloc (.cells #[.int .i64 e, .int .i64 f, .int .i64 g, .int .i64 h] 25)).next hb1
  have B1 := (Arr.new (w.alloc (.cells #[.int .i64 a, .int .i64 b, .int .i64 c, .int .i64 d] 25)) e f g h 25).next hb1
  simp only [World.size_alloc] at A1 B1
  by_cases hm : isF a b c d = true
  · obtain ⟨_, b0, b1, b2, b3, _⟩ := id B1
    go_wp2_with fail
    refine (iIsForm_any e f g h _).mono ?_
    rintro e' w2 ⟨rfl, hb2⟩
    have A2 := A1.next hb2
    have B2 := B1.next hb2
    clear b0 b1 b2 b3
    by_cases hn : isF e f g h = true
    · obtain ⟨_, b0, b1, b2, b3, _⟩ := id B2
      obtain ⟨_, a0, a1, a2, a3, _⟩ := id A2
      go_wp2
      go_ret2
      have k0 : prc a b c d e f g h = 0 := by simp [prc, hm, hn]
      exact ⟨ret_tup2 (by simp [if0, k0, prg, mi, pl, mu]) (by simp [k0]), by (repeat' (first | with_reducible exact Below.refl _ _ | with_reducible assumption | with_reducible refine gr_alloc ?_ _ | with_reducible refine gr_drew ?_ | with_reducible refine gr_drewN ?_ _ | with_reducible refine gr_trans ?_ (by assumption) | with_reducible refine gr_set ?_ ?_ _ | (simp; done) | omega | (simp; omega)))⟩
    · have hn' : isF e f g h = false := by simpa using hn
      clear hn
      go_wp2
      go_ret2
      have k0 : prc a b c d e f g h = 1 := by simp [prc, hn']
      exact ⟨ret_tup2 (by simp [if0, k0]) (by simp [k0]), by (repeat' (first | with_reducible exact Below.refl _ _ | with_reducible assumption | with_reducible refine gr_alloc ?_ _ | with_reducible refine gr_drew ?_ | with_reducible refine gr_drewN ?_ _ | with_reducible refine gr_trans ?_ (by assumption) | with_reducible refine gr_set ?_ ?_ _ | (simp; done) | omega | (simp; omega)))⟩
  · have hm' : isF a b c d = false := by simpa using hm
    clear hm
    go_wp2
    go_ret2
    have k0 : prc a b c d e f g h = 1 := by simp [prc, hm']
    exact ⟨ret_tup2 (by simp [if0, k0]) (by simp [k0]), by (repeat' (first | with_reducible exact Below.refl _ _ | with_reducible assumption | with_reducible refine gr_alloc ?_ _ | with_reducible refine gr_drew ?_ | with_reducible refine gr_drewN ?_ _ | with_reducible refine gr_trans ?_ (by assumption) | with_reducible refine gr_set ?_ ?_ _ | (simp; done) | omega | (simp; omega)))⟩

set_option maxRecDepth 100000 in
set_option maxHeartbeats 1000000 in
theorem sPairing_any (a b c d e f g h : Int) (w : World) :
    Calls Try.prog 47 #[.agg #[.int .i64 a, .int .i64 b, .int .i64 c, .int .i64 d], .agg #[.int .i64 e, .int .i64 f, .int .i64 g, .int .i64 h]] w fun e' w' => e' = .returned (.tuple #[.int .i64 (if0 (prc a b c d e f g h) (prg a b c d e f g h)), .int .i64 (prc a b c d e f g h)]) ∧ Below w.heap.size w w' := by
  go_enter Try.func47, Try.ntmps47
  go_wp2_with fail
  refine (l01Is_any a b c d _).mono ?_
  rintro e' w1 ⟨rfl, hb1⟩
  have A1 := ((Arr.new w a b c d 25).alloc (.cells #[.int .i64 e, .int .i64 f, .int .i64 g, .int .i64 h] 25)).next hb1
  have B1 := (Arr.new (w.alloc (.cells #[.int .i64 a, .int .i64 b, .int .i64 c, .int .i64 d] 25)) e f g h 25).next hb1
  simp only [World.size_alloc] at A1 B1
  by_cases hm : isF a b c d = true
  · obtain ⟨_, b0, b1, b2, b3, _⟩ := id B1
    go_wp2_with fail
    refine (l01Is_any e f g h _).mono ?_
    rintro e' w2 ⟨rfl, hb2⟩
    have A2 := A1.next hb2
    have B2 := B1.next hb2
    clear b0 b1 b2 b3
    by_cases hn : isF e f g h = true
    · obtain ⟨_, b0, b1, b2, b3, _⟩ := id B2
      obtain ⟨_, a0, a1, a2, a3, _⟩ := id A2
      go_wp2
      go_ret2
      have k0 : prc a b c d e f g h = 0 := by simp [prc, hm, hn]
      exact ⟨ret_tup2 (by simp [if0, k0, prg, mi, pl, mu]) (by simp [k0]), by (repeat' (first | with_reducible exact Below.refl _ _ | with_reducible assumption | with_reducible refine gr_alloc ?_ _ | with_reducible refine gr_drew ?_ | with_reducible refine gr_drewN ?_ _ | with_reducible refine gr_trans ?_ (by assumption) | with_reducible refine gr_set ?_ ?_ _ | (simp; done) | omega | (simp; omega)))⟩
    · have hn' : isF e f g h = false := by simpa using hn
      clear hn
      go_wp2
      go_ret2
      have k0 : prc a b c d e f g h = 1 := by simp [prc, hn']
      exact ⟨ret_tup2 (by simp [if0, k0]) (by simp [k0]), by (repeat' (first | with_reducible exact Below.refl _ _ | with_reducible assumption | with_reducible refine gr_alloc ?_ _ | with_reducible refine gr_drew ?_ | with_reducible refine gr_drewN ?_ _ | with_reducible refine gr_trans ?_ (by assumption) | with_reducible refine gr_set ?_ ?_ _ | (simp; done) | omega | (simp; omega)))⟩
  · have hm' : isF a b c d = false := by simpa using hm
    clear hm
    go_wp2
    go_ret2
    have k0 : prc a b c d e f g h = 1 := by simp [prc, hm']
    exact ⟨ret_tup2 (by simp [if0, k0]) (by simp [k0]), by (repeat' (first | with_reducible exact Below.refl _ _ | with_reducible assumption | with_reducible refine gr_alloc ?_ _ | with_reducible refine gr_drew ?_ | with_reducible refine gr_drewN ?_ _ | with_reducible refine gr_trans ?_ (by assumption) | with_reducible refine gr_set ?_ ?_ _ | (simp; done) | omega | (simp; omega)))⟩

end Go.Proofs.Ytihcedegoolpmaa
