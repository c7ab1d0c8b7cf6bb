/- Chapter 1: slopes, discriminants, determinants. -/
import Derived.Test.YtihcedegoolpmaaC1c
namespace Go.Proofs.Ytihcedegoolpmaa
open Go.RowKit

set_option maxHeartbeats 400000 in
theorem iSlopes_any (a b c d x y : Int) (w : World) :
    Calls Try.prog 26 #[.agg #[.int .i64 a, .int .i64 b, .int .i64 c, .int .i64 d], .int .i64 x, .int .i64 y] w fun e w' => e = .returned (.tuple #[.int .i64 (if0 (plc a b c d x y) (sl1 a b c x y)), .int .i64 (if0 (plc a b c d x y) (sl2 b c d x y)), .int .i64 (plc a b c d x y)]) ∧ Below w.heap.size w w' := by
  go_enter Try.func26, Try.ntmps26
  go_wp2_with fail
  refine (iPlace_any a b c d x y _).mono ?_
  rintro e w1 ⟨rfl, hb1⟩
  obtain ⟨_, c0, c1, c2, c3, _⟩ := (Arr.new w a b c d 25).next hb1
  go_wp2
  · go_ret3
    exact ⟨ret_tup3 (by go_light; simp_all [if0]) (by go_light; simp_all [if0]) (by go_light; simp_all), by (repeat' (first | with_reducible exact Below.refl _ _ | with_reducible assumption | with_reducible refine gr_alloc ?_ _ | with_reducible refine gr_drew ?_ | with_reducible refine gr_drewN ?_ _ | with_reducible refine gr_trans ?_ (by assumption) | with_reducible refine gr_set ?_ ?_ _ | (simp; done) | omega | (simp; omega)))⟩
  · go_quiet (fail)
    go_wp2
    go_ret3
    exact ⟨ret_tup3 (by go_light; simp_all [if0, sl1, pl, mu]) (by go_light; simp_all [if0, sl2, pl, mu]) (by go_light; simp_all), by (repeat' (first | with_reducible exact Below.refl _ _ | with_reducible assumption | with_reducible refine gr_alloc ?_ _ | with_reducible refine gr_drew ?_ | with_reducible refine gr_drewN ?_ _ | with_reducible refine gr_trans ?_ (by assumption) | with_reducible refine gr_set ?_ ?_ _ | (simp; done) | omega | (simp; omega)))⟩

set_option maxHeartbeats 400000 in
theorem sSlopes_any (a b c d x y : Int) (w : World) :
    Calls Try.prog 25 #[.agg #[.int .i64 a, .int .i64 b, .int .i64 c, .int .i64 d], .int .i64 x, .int .i64 y] w fun e w' => e = .returned (.tuple #[.int .i64 (if0 (plc a b c d x y) (sl1 a b c x y)), .int .i64 (if0 (plc a b c d x y) (sl2 b c d x y)), .int .i64 (plc a b c d x y)]) ∧ Below w.heap.size w w' := by
  go_enter Try.func25, Try.ntmps25
  go_wp2_with fail
  refine (sPlace_any a b c d x y _).mono ?_
  rintro e w1 ⟨rfl, hb1⟩
  obtain ⟨_, c0, c1, c2, c3, _⟩ := (Arr.new w a b c d 25).next hb1
  go_wp2
  · go_ret3
    exact ⟨ret_tup3 (by go_light; simp_all [if0]) (by go_light; simp_all [if0]) (by go_light; simp_all), by (repeat' (first | with_reducible exact Below.refl _ _ | with_reducible assumption | with_reducible refine gr_alloc ?_ _ | with_reducible refine gr_drew ?_ | with_reducible refine gr_drewN ?_ _ | with_reducible refine gr_trans ?_ (by assumption) | with_reducible refine gr_set ?_ ?_ _ | (simp; done) | omega | (simp; omega)))⟩
  · go_quiet (fail)
    go_wp2
    go_ret3
    exact ⟨ret_tup3 (by go_light; simp_all [if0, sl1, pl, mu]) (by go_light; simp_all [if0, sl2, pl, mu]) (by go_light; simp_all), by (repeat' (first | with_reducible exact Below.refl _ _ | with_reducible assumption | with_reducible refine gr_alloc ?_ _ | with_reducible refine gr_drew ?_ | with_reducible refine gr_drewN ?_ _ | with_reducible refine gr_trans ?_ (by assumption) | with_reducible refine gr_set ?_ ?_ _ | (simp; done) | omega | (simp; omega)))⟩














end Go.Proofs.Ytihcedegoolpmaa
