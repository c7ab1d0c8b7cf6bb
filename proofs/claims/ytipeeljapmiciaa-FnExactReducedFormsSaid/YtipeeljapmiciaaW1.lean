/- Several texts in one: XSo1, XBd, XSo2, XSo3. -/
import Derived.Shelf.SlSortCmp.WholeK
import Derived.Shelf.SlLaysF0
import Derived.Test.YtipeeljapmiciaaProg
import Derived.Test.YtipeeljapmiciaaBaZ12
import Derived.Test.YtipeeljapmiciaaBaZ13
import Derived.Test.YtipeeljapmiciaaBaZ14

/- The library sort at this program: laid from the shelf, at forms and at matrices. -/
namespace Go.Proofs
open Go.Shelf
def Try.sortForms_ren : Go.Shelf.Ren := ⟨fun | 6 => 78 | 15 => 90 | 14 => 100 | 28 => 116 | 29 => 117 | 20 => 126 | 21 => 127 | 22 => 128 | 23 => 129 | 24 => 130 | 25 => 131 | 26 => 132 | 27 => 133 | 46 => 144 | 47 => 138 | 48 => 139 | 49 => 145 | 50 => 146 | 57 => 148 | n => n, fun | 22 => 29 | 24 => 23 | 25 => 64 | 3 => 3 | 39 => 95 | 0 => 0 | 53 => 126 | 55 => 128 | 4 => 4 | 46 => 119 | 45 => 118 | 50 => 123 | 5 => 5 | 9 => 9 | 66 => 142 | 70 => 146 | 76 => 151 | 77 => 152 | n => n, fun | n => n⟩
theorem Try.sortForms : Go.Proofs.SlLaysF0.n6 Try.prog Try.sortForms_ren := {
  mixed := by kernel_rfl
  f6 := ⟨Try.f78.name, by decide, Try.func78.trans (congrArg some (by kernel_rfl))⟩
  f14 := ⟨Try.f100.name, by decide, Try.func100.trans (congrArg some (by kernel_rfl))⟩
  f15 := Try.func90.trans (congrArg some (by kernel_rfl))
  f20 := ⟨Try.f126.name, by decide, Try.func126.trans (congrArg some (by kernel_rfl))⟩
  f21 := ⟨Try.f127.name, by decide, Try.func127.trans (congrArg some (by kernel_rfl))⟩
  f22 := ⟨Try.f128.name, by decide, Try.func128.trans (congrArg some (by kernel_rfl))⟩
  f23 := ⟨Try.f129.name, by decide, Try.func129.trans (congrArg some (by kernel_rfl))⟩
  f24 := ⟨Try.f130.name, by decide, Try.func130.trans (congrArg some (by kernel_rfl))⟩
  f25 := ⟨Try.f131.name, by decide, Try.func131.trans (congrArg some (by kernel_rfl))⟩
  f26 := ⟨Try.f132.name, by decide, Try.func132.trans (congrArg some (by kernel_rfl))⟩
  f27 := ⟨Try.f133.name, by decide, Try.func133.trans (congrArg some (by kernel_rfl))⟩
  f28 := Try.func116.trans (congrArg some (by kernel_rfl))
  f29 := Try.func117.trans (congrArg some (by kernel_rfl))
  f46 := ⟨Try.f144.name, by decide, Try.func144.trans (congrArg some (by kernel_rfl))⟩
  f47 := Try.func138.trans (congrArg some (by kernel_rfl))
  f48 := Try.func139.trans (congrArg some (by kernel_rfl))
  f49 := ⟨Try.f145.name, by decide, Try.func145.trans (congrArg some (by kernel_rfl))⟩
  f50 := ⟨Try.f146.name, by decide, Try.func146.trans (congrArg some (by kernel_rfl))⟩
  f57 := ⟨Try.f148.name, by decide, Try.func148.trans (congrArg some (by kernel_rfl))⟩
  t0 := Try.underlying0
  a0 := Try.isAgg0
  z0 := Try.sizeOf0
  v0 := Try.zeroValue0
  t3 := Try.underlying3
  a3 := Try.isAgg3
  z3 := Try.sizeOf3
  v3 := Try.zeroValue3
  t4 := Try.underlying4
  a4 := Try.isAgg4
  z4 := Try.sizeOf4
  v4 := Try.zeroValue4
  t5 := Try.underlying5
  a5 := Try.isAgg5
  z5 := Try.sizeOf5
  v5 := Try.zeroValue5
  t9 := Try.underlying9
  a9 := Try.isAgg9
  z9 := Try.sizeOf9
  v9 := Try.zeroValue9
  t22 := Try.underlying29
  a22 := Try.isAgg29
  z22 := Try.sizeOf29
  v22 := Try.zeroValue29
  t25 := Try.underlying64
  a25 := Try.isAgg64
  z25 := Try.sizeOf64
  v25 := Try.zeroValue64
  t39 := Try.underlying95
  a39 := Try.isAgg95
  z39 := Try.sizeOf95
  v39 := Try.zeroValue95
  t45 := Try.underlying118
  a45 := Try.isAgg118
  z45 := Try.sizeOf118
  v45 := Try.zeroValue118
  t46 := Try.underlying119
  a46 := Try.isAgg119
  z46 := Try.sizeOf119
  v46 := Try.zeroValue119
  t50 := Try.underlying123
  a50 := Try.isAgg123
  z50 := Try.sizeOf123
  v50 := Try.zeroValue123
  t53 := Try.underlying126
  a53 := Try.isAgg126
  z53 := Try.sizeOf126
  v53 := Try.zeroValue126
  t55 := Try.underlying128
  a55 := Try.isAgg128
  z55 := Try.sizeOf128
  v55 := Try.zeroValue128
  t66 := Try.underlying142
  a66 := Try.isAgg142
  z66 := Try.sizeOf142
  v66 := Try.zeroValue142
  t70 := Try.underlying146
  a70 := Try.isAgg146
  z70 := Try.sizeOf146
  v70 := Try.zeroValue146
  t76 := Try.underlying151
  a76 := Try.isAgg151
  z76 := Try.sizeOf151
  v76 := Try.zeroValue151
  t77 := Try.underlying152
  a77 := Try.isAgg152
  z77 := Try.sizeOf152
  v77 := Try.zeroValue152 }
def Try.sortMatrices_ren : Go.Shelf.Ren := ⟨fun | 6 => 61 | 15 => 90 | 14 => 89 | 28 => 116 | 29 => 117 | 20 => 108 | 21 => 109 | 22 => 110 | 23 => 111 | 24 => 112 | 25 => 113 | 26 => 114 | 27 => 115 | 46 => 137 | 47 => 138 | 48 => 139 | 49 => 140 | 50 => 141 | 57 => 147 | n => n, fun | 22 => 41 | 24 => 34 | 25 => 68 | 3 => 3 | 39 => 95 | 0 => 0 | 53 => 126 | 55 => 128 | 4 => 4 | 46 => 119 | 45 => 118 | 50 => 123 | 5 => 5 | 9 => 9 | 66 => 142 | 70 => 146 | 76 => 151 | 77 => 152 | n => n, fun | n => n⟩
theorem Try.sortMatrices : Go.Proofs.SlLaysF0.n6 Try.prog Try.sortMatrices_ren := {
  mixed := by kernel_rfl
  f6 := ⟨Try.f61.name, by decide, Try.func61.trans (congrArg some (by kernel_rfl))⟩
  f14 := ⟨Try.f89.name, by decide, Try.func89.trans (congrArg some (by kernel_rfl))⟩
  f15 := Try.func90.trans (congrArg some (by kernel_rfl))
  f20 := ⟨Try.f108.name, by decide, Try.func108.trans (congrArg some (by kernel_rfl))⟩
  f21 := ⟨Try.f109.name, by decide, Try.func109.trans (congrArg some (by kernel_rfl))⟩
  f22 := ⟨Try.f110.name, by decide, Try.func110.trans (congrArg some (by kernel_rfl))⟩
  f23 := ⟨Try.f111.name, by decide, Try.func111.trans (congrArg some (by kernel_rfl))⟩
  f24 := ⟨Try.f112.name, by decide, Try.func112.trans (congrArg some (by kernel_rfl))⟩
  f25 := ⟨Try.f113.name, by decide, Try.func113.trans (congrArg some (by kernel_rfl))⟩
  f26 := ⟨Try.f114.name, by decide, Try.func114.trans (congrArg some (by kernel_rfl))⟩
  f27 := ⟨Try.f115.name, by decide, Try.func115.trans (congrArg some (by kernel_rfl))⟩
  f28 := Try.func116.trans (congrArg some (by kernel_rfl))
  f29 := Try.func117.trans (congrArg some (by kernel_rfl))
  f46 := ⟨Try.f137.name, by decide, Try.func137.trans (congrArg some (by kernel_rfl))⟩
  f47 := Try.func138.trans (congrArg some (by kernel_rfl))
  f48 := Try.func139.trans (congrArg some (by kernel_rfl))
  f49 := ⟨Try.f140.name, by decide, Try.func140.trans (congrArg some (by kernel_rfl))⟩
  f50 := ⟨Try.f141.name, by decide, Try.func141.trans (congrArg some (by kernel_rfl))⟩
  f57 := ⟨Try.f147.name, by decide, Try.func147.trans (congrArg some (by kernel_rfl))⟩
  t0 := Try.underlying0
  a0 := Try.isAgg0
  z0 := Try.sizeOf0
  v0 := Try.zeroValue0
  t3 := Try.underlying3
  a3 := Try.isAgg3
  z3 := Try.sizeOf3
  v3 := Try.zeroValue3
  t4 := Try.underlying4
  a4 := Try.isAgg4
  z4 := Try.sizeOf4
  v4 := Try.zeroValue4
  t5 := Try.underlying5
  a5 := Try.isAgg5
  z5 := Try.sizeOf5
  v5 := Try.zeroValue5
  t9 := Try.underlying9
  a9 := Try.isAgg9
  z9 := Try.sizeOf9
  v9 := Try.zeroValue9
  t22 := Try.underlying41
  a22 := Try.isAgg41
  z22 := Try.sizeOf41
  v22 := Try.zeroValue41
  t25 := Try.underlying68
  a25 := Try.isAgg68
  z25 := Try.sizeOf68
  v25 := Try.zeroValue68
  t39 := Try.underlying95
  a39 := Try.isAgg95
  z39 := Try.sizeOf95
  v39 := Try.zeroValue95
  t45 := Try.underlying118
  a45 := Try.isAgg118
  z45 := Try.sizeOf118
  v45 := Try.zeroValue118
  t46 := Try.underlying119
  a46 := Try.isAgg119
  z46 := Try.sizeOf119
  v46 := Try.zeroValue119
  t50 := Try.underlying123
  a50 := Try.isAgg123
  z50 := Try.sizeOf123
  v50 := Try.zeroValue123
  t53 := Try.underlying126
  a53 := Try.isAgg126
  z53 := Try.sizeOf126
  v53 := Try.zeroValue126
  t55 := Try.underlying128
  a55 := Try.isAgg128
  z55 := Try.sizeOf128
  v55 := Try.zeroValue128
  t66 := Try.underlying142
  a66 := Try.isAgg142
  z66 := Try.sizeOf142
  v66 := Try.zeroValue142
  t70 := Try.underlying146
  a70 := Try.isAgg146
  z70 := Try.sizeOf146
  v70 := Try.zeroValue146
  t76 := Try.underlying151
  a76 := Try.isAgg151
  z76 := Try.sizeOf151
  v76 := Try.zeroValue151
  t77 := Try.underlying152
  a77 := Try.isAgg152
  z77 := Try.sizeOf152
  v77 := Try.zeroValue152 }

end Go.Proofs

/- The program's comparison of forms and of matrices, with the count of draws. -/
namespace Go.Proofs.Ytipeeljapmiciaa
open Go.RowKit

structure Bd (w w' : World) : Prop where
  b : Below w.heap.size w w'
  d : w.drawn ≤ w'.drawn
theorem drawn_drew (w : World) : w.drew.drawn = w.drawn + 1 := rfl
theorem nan_bd (n : Int) (w : World) : Calls Try.prog 136 #[.int .i64 n] w fun e w' => e = .returned (.bool false) ∧ Bd w w' := by
  have U0 := Below.refl w.heap.size w
  have hn : (n != n) = false := by simp
  go_enter Try.func136, Try.ntmps136
  go_wp2
  go_ret
  exact ⟨ret_bool (by simp), ⟨by (repeat' (first | with_reducible exact Below.refl _ _ | with_reducible assumption | with_reducible refine gr_alloc ?_ _ | with_reducible refine gr_drew ?_ | with_reducible refine gr_drewN ?_ _ | with_reducible refine gr_trans ?_ (by assumption) | with_reducible refine gr_set ?_ ?_ _ | (simp; done) | omega | (simp; omega))), by first | omega | (simp only [drawn_drew] at *; omega) | (simp only [World.drawn_alloc, drawn_drew] at *; omega)⟩⟩
set_option maxHeartbeats 1000000 in
theorem cmp_bd (x y : Int) (w : World) : Calls Try.prog 105 #[.int .i64 x, .int .i64 y] w fun e w' => e = .returned (.int .i64 (Rd.c3 x y)) ∧ Bd w w' := by
  go_enter Try.func105, Try.ntmps105
  go_wp2_with fail
  refine (nan_bd x _).mono ?_
  rintro e w1 ⟨rfl, hb1, hd1⟩
  go_wp2_with fail
  refine (nan_bd y _).mono ?_
  rintro e w2 ⟨rfl, hb2, hd2⟩
  have U2 := gr_trans hb1 hb2
  go_wp2
  all_goals (go_ret; exact ⟨ret_int (by unfold Rd.c3; (repeat' split) <;> omega), ⟨by (repeat' (first | with_reducible exact Below.refl _ _ | with_reducible assumption | with_reducible refine gr_alloc ?_ _ | with_reducible refine gr_drew ?_ | with_reducible refine gr_drewN ?_ _ | with_reducible refine gr_trans ?_ (by assumption) | with_reducible refine gr_set ?_ ?_ _ | (simp; done) | omega | (simp; omega))), by first | omega | (simp only [drawn_drew] at *; omega) | (simp only [World.drawn_alloc, drawn_drew] at *; omega)⟩⟩)
set_option maxRecDepth 100000 in
set_option maxHeartbeats 4000000 in
theorem cmp4_bd (i j : Nat) (ci cj : Nat) (a b c d p q r s : Int) (w : World) (hA : Arr w i a b c d) (hB : Arr w j p q r s) : Calls Try.prog 85 #[.slice (some ⟨i, 0, none⟩) 4 ci, .slice (some ⟨j, 0, none⟩) 4 cj] w fun e w' => e = .returned (.int .i64 (Rd.cm4 (a, b, c, d) (p, q, r, s))) ∧ Bd w w' := by
  have U1 := Below.refl w.heap.size w
  have A1 := hA; have B1 := hB
  clear hA hB
  obtain ⟨_, a0, a1, a2, a3, _⟩ := id A1
  obtain ⟨_, b0, b1, b2, b3, _⟩ := id B1
  go_enter Try.func85, Try.ntmps85
  go_wp2_with fail
  refine wp_loop_rounds 5 ?_
  rw [rounds_succ]; go_wp2_with fail
  refine (cmp_bd a p _).mono ?_
  rintro e w1 ⟨rfl, hb, hd3⟩
  have A2 := A1.next hb; have B2 := B1.next hb; have U2 := gr_trans U1 hb
  clear a0 a1 a2 a3 b0 b1 b2 b3 A1 B1 U1 hb
  have A1 := A2; have B1 := B2; have U1 := U2
  clear A2 B2 U2
  obtain ⟨_, a0, a1, a2, a3, _⟩ := id A1
  obtain ⟨_, b0, b1, b2, b3, _⟩ := id B1
  by_cases hz0 : a = p
  rotate_left 1
  · have hne : (Rd.c3 a p != 0) = true := by simpa [bne] using Rd.c3_ne hz0
    have hv : Rd.cm4 (a, b, c, d) (p, q, r, s) = Rd.c3 a p := by simp [Rd.cm4, hz0]
    clear hz0
    go_wp2_with fail
    go_ret
    exact ⟨ret_int hv.symm, ⟨by (repeat' (first | with_reducible exact Below.refl _ _ | with_reducible assumption | with_reducible refine gr_alloc ?_ _ | with_reducible refine gr_drew ?_ | with_reducible refine gr_drewN ?_ _ | with_reducible refine gr_trans ?_ (by assumption) | with_reducible refine gr_set ?_ ?_ _ | (simp; done) | omega | (simp; omega))), by first | omega | (simp only [drawn_drew] at *; omega) | (simp only [World.drawn_alloc, drawn_drew] at *; omega)⟩⟩
  have he0 : Rd.c3 a p = 0 := by rw [hz0]; exact Rd.c3_eq _
  rw [he0]
  go_wp2_with fail
  rw [rounds_succ]; go_wp2_with fail
  refine (cmp_bd b q _).mono ?_
  rintro e w2 ⟨rfl, hb, hd4⟩
  have A2 := A1.next hb; have B2 := B1.next hb; have U2 := gr_trans U1 hb
  clear a0 a1 a2 a3 b0 b1 b2 b3 A1 B1 U1 hb
  have A1 := A2; have B1 := B2; have U1 := U2
  clear A2 B2 U2
  obtain ⟨_, a0, a1, a2, a3, _⟩ := id A1
  obtain ⟨_, b0, b1, b2, b3, _⟩ := id B1
  by_cases hz1 : b = q
  rotate_left 1
  · have hne : (Rd.c3 b q != 0) = true := by simpa [bne] using Rd.c3_ne hz1
    have hv : Rd.cm4 (a, b, c, d) (p, q, r, s) = Rd.c3 b q := by simp [Rd.cm4, hz0, hz1]
    clear hz0 hz1
    go_wp2_with fail
    go_ret
    exact ⟨ret_int hv.symm, ⟨by (repeat' (first | with_reducible exact Below.refl _ _ | with_reducible assumption | with_reducible refine gr_alloc ?_ _ | with_reducible refine gr_drew ?_ | with_reducible refine gr_drewN ?_ _ | with_reducible refine gr_trans ?_ (by assumption) | with_reducible refine gr_set ?_ ?_ _ | (simp; done) | omega | (simp; omega))), by first | omega | (simp only [drawn_drew] at *; omega) | (simp only [World.drawn_alloc, drawn_drew] at *; omega)⟩⟩
  have he1 : Rd.c3 b q = 0 := by rw [hz1]; exact Rd.c3_eq _
  rw [he1]
  go_wp2_with fail
  rw [rounds_succ]; go_wp2_with fail
  refine (cmp_bd c r _).mono ?_
  rintro e w3 ⟨rfl, hb, hd5⟩
  have A2 := A1.next hb; have B2 := B1.next hb; have U2 := gr_trans U1 hb
  clear a0 a1 a2 a3 b0 b1 b2 b3 A1 B1 U1 hb
  have A1 := A2; have B1 := B2; have U1 := U2
  clear A2 B2 U2
  obtain ⟨_, a0, a1, a2, a3, _⟩ := id A1
  obtain ⟨_, b0, b1, b2, b3, _⟩ := id B1
  by_cases hz2 : c = r
  rotate_left 1
  · have hne : (Rd.c3 c r != 0) = true := by simpa [bne] using Rd.c3_ne hz2
    have hv : Rd.cm4 (a, b, c, d) (p, q, r, s) = Rd.c3 c r := by simp [Rd.cm4, hz0, hz1, hz2]
    clear hz0 hz1 hz2
    go_wp2_with fail
    go_ret
    exact ⟨ret_int hv.symm, ⟨by (repeat' (first | with_reducible exact Below.refl _ _ | with_reducible assumption | with_reducible refine gr_alloc ?_ _ | with_reducible refine gr_drew ?_ | with_reducible refine gr_drewN ?_ _ | with_reducible refine gr_trans ?_ (by assumption) | with_reducible refine gr_set ?_ ?_ _ | (simp; done) | omega | (simp; omega))), by first | omega | (simp only [drawn_drew] at *; omega) | (simp only [World.drawn_alloc, drawn_drew] at *; omega)⟩⟩
  have he2 : Rd.c3 c r = 0 := by rw [hz2]; exact Rd.c3_eq _
  rw [he2]
  go_wp2_with fail
  rw [rounds_succ]; go_wp2_with fail
  refine (cmp_bd d s _).mono ?_
  rintro e w4 ⟨rfl, hb, hd6⟩
  have A2 := A1.next hb; have B2 := B1.next hb; have U2 := gr_trans U1 hb
  clear a0 a1 a2 a3 b0 b1 b2 b3 A1 B1 U1 hb
  have A1 := A2; have B1 := B2; have U1 := U2
  clear A2 B2 U2
  obtain ⟨_, a0, a1, a2, a3, _⟩ := id A1
  obtain ⟨_, b0, b1, b2, b3, _⟩ := id B1
  by_cases hz3 : d = s
  rotate_left 1
  · have hne : (Rd.c3 d s != 0) = true := by simpa [bne] using Rd.c3_ne hz3
    have hv : Rd.cm4 (a, b, c, d) (p, q, r, s) = Rd.c3 d s := by simp [Rd.cm4, hz0, hz1, hz2, hz3]
    clear hz0 hz1 hz2 hz3
    go_wp2_with fail
    go_ret
    exact ⟨ret_int hv.symm, ⟨by (repeat' (first | with_reducible exact Below.refl _ _ | with_reducible assumption | with_reducible refine gr_alloc ?_ _ | with_reducible refine gr_drew ?_ | with_reducible refine gr_drewN ?_ _ | with_reducible refine gr_trans ?_ (by assumption) | with_reducible refine gr_set ?_ ?_ _ | (simp; done) | omega | (simp; omega))), by first | omega | (simp only [drawn_drew] at *; omega) | (simp only [World.drawn_alloc, drawn_drew] at *; omega)⟩⟩
  have he3 : Rd.c3 d s = 0 := by rw [hz3]; exact Rd.c3_eq _
  rw [he3]
  go_wp2_with fail
  rw [rounds_succ]; go_wp2_with fail
  have hv : Rd.cm4 (a, b, c, d) (p, q, r, s) = 0 := by simp [Rd.cm4, hz0, hz1, hz2, hz3]
  go_ret
  exact ⟨ret_int hv.symm, ⟨by (repeat' (first | with_reducible exact Below.refl _ _ | with_reducible assumption | with_reducible refine gr_alloc ?_ _ | with_reducible refine gr_drew ?_ | with_reducible refine gr_drewN ?_ _ | with_reducible refine gr_trans ?_ (by assumption) | with_reducible refine gr_set ?_ ?_ _ | (simp; done) | omega | (simp; omega))), by first | omega | (simp only [drawn_drew] at *; omega) | (simp only [World.drawn_alloc, drawn_drew] at *; omega)⟩⟩
set_option maxRecDepth 100000 in
set_option maxHeartbeats 4000000 in
theorem cmpF_bd (a b c d p q r s : Int) (w : World) : Calls Try.prog 50 #[.agg #[.int .i64 a, .int .i64 b, .int .i64 c, .int .i64 d], .agg #[.int .i64 p, .int .i64 q, .int .i64 r, .int .i64 s]] w fun e w' => e = .returned (.int .i64 (Rd.cm4 (a, b, c, d) (p, q, r, s))) ∧ Bd w w' := by
  have A0 := (Arr.new w a b c d 23).alloc (.cells #[.int .i64 p, .int .i64 q, .int .i64 r, .int .i64 s] 23)
  have B0 := Arr.new (w.alloc (.cells #[.int .i64 a, .int .i64 b, .int .i64 c, .int .i64 d] 23)) p q r s 23
  have U0 := gr_alloc (gr_alloc (Below.refl w.heap.size w) (.cells #[.int .i64 a, .int .i64 b, .int .i64 c, .int .i64 d] 23)) (.cells #[.int .i64 p, .int .i64 q, .int .i64 r, .int .i64 s] 23)
  simp only [World.size_alloc] at B0
  go_enter Try.func50, Try.ntmps50
  go_upto_region 1 with fail
  have D0 : w.drawn ≤ ((w.alloc (.cells #[.int .i64 a, .int .i64 b, .int .i64 c, .int .i64 d] 23)).alloc (.cells #[.int .i64 p, .int .i64 q, .int .i64 r, .int .i64 s] 23)).drawn := Nat.le_refl _
  generalize (w.alloc (.cells #[.int .i64 a, .int .i64 b, .int .i64 c, .int .i64 d] 23)).alloc (.cells #[.int .i64 p, .int .i64 q, .int .i64 r, .int .i64 s] 23) = W0 at A0 B0 U0 D0 ⊢
  obtain ⟨_, a0, a1, a2, a3, _⟩ := id A0
  obtain ⟨_, b0, b1, b2, b3, _⟩ := id B0
  go_region_held3 (fun W => W.cell? ⟨w.heap.size, 0, none⟩ = some (.int .i64 a) ∧ W.cell? ⟨w.heap.size, 1, none⟩ = some (.int .i64 b) ∧ W.cell? ⟨w.heap.size, 2, none⟩ = some (.int .i64 c) ∧ W.cell? ⟨w.heap.size, 3, none⟩ = some (.int .i64 d)) (refine cells4 ?_ <;> (repeat (first | with_reducible assumption | with_reducible exact Arr.box (by assumption) | with_reducible exact Box.new _ _ _ _ _ _ | with_reducible exact Arr.new _ _ _ _ _ _ | with_reducible refine Arr.drew ?_ | with_reducible refine Arr.drewN ?_ _ | with_reducible refine Arr.store4 ?_ | with_reducible refine Arr.alloc ?_ _ | with_reducible refine Box.drew ?_ | with_reducible refine Box.drewN ?_ _ | with_reducible refine Box.alloc ?_ _ | with_reducible refine Arr.next ?_ (by assumption) | with_reducible refine Box.next ?_ (by assumption) | refine Arr.oth ?_ (by first | (simp; done) | omega | (simp; omega)) _ | refine Box.oth ?_ (by first | (simp; done) | omega | (simp; omega)) _ | with_reducible exact Arr3.box (by assumption) | with_reducible exact Box3.new _ _ _ _ _ | with_reducible exact Arr3.new _ _ _ _ _ | with_reducible refine Arr3.drew ?_ | with_reducible refine Arr3.drewN ?_ _ | with_reducible refine Arr3.store3 ?_ | with_reducible refine Arr3.alloc ?_ _ | with_reducible refine Box3.drew ?_ | with_reducible refine Box3.drewN ?_ _ | with_reducible refine Box3.alloc ?_ _ | with_reducible refine Arr3.next ?_ (by assumption) | with_reducible refine Box3.next ?_ (by assumption) | refine Arr3.oth ?_ (by first | (simp; done) | omega | (simp; omega)) _ | refine Box3.oth ?_ (by first | (simp; done) | omega | (simp; omega)) _))) ((go_at_call 85; refine (cmp4_bd w.heap.size (w.heap.size + 1) 4 4 a b c d p q r s _ (by (repeat (first | with_reducible assumption | with_reducible exact Arr.box (by assumption) | with_reducible exact Box.new _ _ _ _ _ _ | with_reducible exact Arr.new _ _ _ _ _ _ | with_reducible refine Arr.drew ?_ | with_reducible refine Arr.drewN ?_ _ | with_reducible refine Arr.store4 ?_ | with_reducible refine Arr.alloc ?_ _ | with_reducible refine Box.drew ?_ | with_reducible refine Box.drewN ?_ _ | with_reducible refine Box.alloc ?_ _ | with_reducible refine Arr.next ?_ (by assumption) | with_reducible refine Box.next ?_ (by assumption) | refine Arr.oth ?_ (by first | (simp; done) | omega | (simp; omega)) _ | refine Box.oth ?_ (by first | (simp; done) | omega | (simp; omega)) _ | with_reducible exact Arr3.box (by assumption) | with_reducible exact Box3.new _ _ _ _ _ | with_reducible exact Arr3.new _ _ _ _ _ | with_reducible refine Arr3.drew ?_ | with_reducible refine Arr3.drewN ?_ _ | with_reducible refine Arr3.store3 ?_ | with_reducible refine Arr3.alloc ?_ _ | with_reducible refine Box3.drew ?_ | with_reducible refine Box3.drewN ?_ _ | with_reducible refine Box3.alloc ?_ _ | with_reducible refine Arr3.next ?_ (by assumption) | with_reducible refine Box3.next ?_ (by assumption) | refine Arr3.oth ?_ (by first | (simp; done) | omega | (simp; omega)) _ | refine Box3.oth ?_ (by first | (simp; done) | omega | (simp; omega)) _))) (by (repeat (first | with_reducible assumption | with_reducible exact Arr.box (by assumption) | with_reducible exact Box.new _ _ _ _ _ _ | with_reducible exact Arr.new _ _ _ _ _ _ | with_reducible refine Arr.drew ?_ | with_reducible refine Arr.drewN ?_ _ | with_reducible refine Arr.store4 ?_ | with_reducible refine Arr.alloc ?_ _ | with_reducible refine Box.drew ?_ | with_reducible refine Box.drewN ?_ _ | with_reducible refine Box.alloc ?_ _ | with_reducible refine Arr.next ?_ (by assumption) | with_reducible refine Box.next ?_ (by assumption) | refine Arr.oth ?_ (by first | (simp; done) | omega | (simp; omega)) _ | refine Box.oth ?_ (by first | (simp; done) | omega | (simp; omega)) _ | with_reducible exact Arr3.box (by assumption) | with_reducible exact Box3.new _ _ _ _ _ | with_reducible exact Arr3.new _ _ _ _ _ | with_reducible refine Arr3.drew ?_ | with_reducible refine Arr3.drewN ?_ _ | with_reducible refine Arr3.store3 ?_ | with_reducible refine Arr3.alloc ?_ _ | with_reducible refine Box3.drew ?_ | with_reducible refine Box3.drewN ?_ _ | with_reducible refine Box3.alloc ?_ _ | with_reducible refine Arr3.next ?_ (by assumption) | with_reducible refine Box3.next ?_ (by assumption) | refine Arr3.oth ?_ (by first | (simp; done) | omega | (simp; omega)) _ | refine Box3.oth ?_ (by first | (simp; done) | omega | (simp; omega)) _)))).mono ?_; rintro e w1 ⟨rfl, hb1, hd7⟩))
  all_goals go_wp2_with fail
  all_goals go_ret
  all_goals exact ⟨rfl, ⟨by (repeat' (first | with_reducible exact Below.refl _ _ | with_reducible assumption | with_reducible refine gr_alloc ?_ _ | with_reducible refine gr_drew ?_ | with_reducible refine gr_drewN ?_ _ | with_reducible refine gr_trans ?_ (by assumption) | with_reducible refine gr_set ?_ ?_ _ | (simp; done) | omega | (simp; omega))), by first | omega | (simp only [drawn_drew] at *; omega) | (simp only [World.drawn_alloc, drawn_drew] at *; omega)⟩⟩
set_option maxRecDepth 100000 in
set_option maxHeartbeats 4000000 in
theorem cmpM_bd (a b c d p q r s : Int) (w : World) : Calls Try.prog 55 #[.agg #[.int .i64 a, .int .i64 b, .int .i64 c, .int .i64 d], .agg #[.int .i64 p, .int .i64 q, .int .i64 r, .int .i64 s]] w fun e w' => e = .returned (.int .i64 (Rd.cm4 (a, b, c, d) (p, q, r, s))) ∧ Bd w w' := by
  have A0 := (Arr.new w a b c d 34).alloc (.cells #[.int .i64 p, .int .i64 q, .int .i64 r, .int .i64 s] 34)
  have B0 := Arr.new (w.alloc (.cells #[.int .i64 a, .int .i64 b, .int .i64 c, .int .i64 d] 34)) p q r s 34
  have U0 := gr_alloc (gr_alloc (Below.refl w.heap.size w) (.cells #[.int .i64 a, .int .i64 b, .int .i64 c, .int .i64 d] 34)) (.cells #[.int .i64 p, .int .i64 q, .int .i64 r, .int .i64 s] 34)
  simp only [World.size_alloc] at B0
  go_enter Try.func55, Try.ntmps55
  go_upto_region 1 with fail
  have D0 : w.drawn ≤ ((w.alloc (.cells #[.int .i64 a, .int .i64 b, .int .i64 c, .int .i64 d] 34)).alloc (.cells #[.int .i64 p, .int .i64 q, .int .i64 r, .int .i64 s] 34)).drawn := Nat.le_refl _
  generalize (w.alloc (.cells #[.int .i64 a, .int .i64 b, .int .i64 c, .int .i64 d] 34)).alloc (.cells #[.int .i64 p, .int .i64 q, .int .i64 r, .int .i64 s] 34) = W0 at A0 B0 U0 D0 ⊢
  obtain ⟨_, a0, a1, a2, a3, _⟩ := id A0
  obtain ⟨_, b0, b1, b2, b3, _⟩ := id B0
  go_region_held3 (fun W => W.cell? ⟨w.heap.size, 0, none⟩ = some (.int .i64 a) ∧ W.cell? ⟨w.heap.size, 1, none⟩ = some (.int .i64 b) ∧ W.cell? ⟨w.heap.size, 2, none⟩ = some (.int .i64 c) ∧ W.cell? ⟨w.heap.size, 3, none⟩ = some (.int .i64 d)) (refine cells4 ?_ <;> (repeat (first | with_reducible assumption | with_reducible exact Arr.box (by assumption) | with_reducible exact Box.new _ _ _ _ _ _ | with_reducible exact Arr.new _ _ _ _ _ _ | with_reducible refine Arr.drew ?_ | with_reducible refine Arr.drewN ?_ _ | with_reducible refine Arr.store4 ?_ | with_reducible refine Arr.alloc ?_ _ | with_reducible refine Box.drew ?_ | with_reducible refine Box.drewN ?_ _ | with_reducible refine Box.alloc ?_ _ | with_reducible refine Arr.next ?_ (by assumption) | with_reducible refine Box.next ?_ (by assumption) | refine Arr.oth ?_ (by first | (simp; done) | omega | (simp; omega)) _ | refine Box.oth ?_ (by first | (simp; done) | omega | (simp; omega)) _ | with_reducible exact Arr3.box (by assumption) | with_reducible exact Box3.new _ _ _ _ _ | with_reducible exact Arr3.new _ _ _ _ _ | with_reducible refine Arr3.drew ?_ | with_reducible refine Arr3.drewN ?_ _ | with_reducible refine Arr3.store3 ?_ | with_reducible refine Arr3.alloc ?_ _ | with_reducible refine Box3.drew ?_ | with_reducible refine Box3.drewN ?_ _ | with_reducible refine Box3.alloc ?_ _ | with_reducible refine Arr3.next ?_ (by assumption) | with_reducible refine Box3.next ?_ (by assumption) | refine Arr3.oth ?_ (by first | (simp; done) | omega | (simp; omega)) _ | refine Box3.oth ?_ (by first | (simp; done) | omega | (simp; omega)) _))) ((go_at_call 85; refine (cmp4_bd w.heap.size (w.heap.size + 1) 4 4 a b c d p q r s _ (by (repeat (first | with_reducible assumption | with_reducible exact Arr.box (by assumption) | with_reducible exact Box.new _ _ _ _ _ _ | with_reducible exact Arr.new _ _ _ _ _ _ | with_reducible refine Arr.drew ?_ | with_reducible refine Arr.drewN ?_ _ | with_reducible refine Arr.store4 ?_ | with_reducible refine Arr.alloc ?_ _ | with_reducible refine Box.drew ?_ | with_reducible refine Box.drewN ?_ _ | with_reducible refine Box.alloc ?_ _ | with_reducible refine Arr.next ?_ (by assumption) | with_reducible refine Box.next ?_ (by assumption) | refine Arr.oth ?_ (by first | (simp; done) | omega | (simp; omega)) _ | refine Box.oth ?_ (by first | (simp; done) | omega | (simp; omega)) _ | with_reducible exact Arr3.box (by assumption) | with_reducible exact Box3.new _ _ _ _ _ | with_reducible exact Arr3.new _ _ _ _ _ | with_reducible refine Arr3.drew ?_ | with_reducible refine Arr3.drewN ?_ _ | with_reducible refine Arr3.store3 ?_ | with_reducible refine Arr3.alloc ?_ _ | with_reducible refine Box3.drew ?_ | with_reducible refine Box3.drewN ?_ _ | with_reducible refine Box3.alloc ?_ _ | with_reducible refine Arr3.next ?_ (by assumption) | with_reducible refine Box3.next ?_ (by assumption) | refine Arr3.oth ?_ (by first | (simp; done) | omega | (simp; omega)) _ | refine Box3.oth ?_ (by first | (simp; done) | omega | (simp; omega)) _))) (by (repeat (first | with_reducible assumption | with_reducible exact Arr.box (by assumption) | with_reducible exact Box.new _ _ _ _ _ _ | with_reducible exact Arr.new _ _ _ _ _ _ | with_reducible refine Arr.drew ?_ | with_reducible refine Arr.drewN ?_ _ | with_reducible refine Arr.store4 ?_ | with_reducible refine Arr.alloc ?_ _ | with_reducible refine Box.drew ?_ | with_reducible refine Box.drewN ?_ _ | with_reducible refine Box.alloc ?_ _ | with_reducible refine Arr.next ?_ (by assumption) | with_reducible refine Box.next ?_ (by assumption) | refine Arr.oth ?_ (by first | (simp; done) | omega | (simp; omega)) _ | refine Box.oth ?_ (by first | (simp; done) | omega | (simp; omega)) _ | with_reducible exact Arr3.box (by assumption) | with_reducible exact Box3.new _ _ _ _ _ | with_reducible exact Arr3.new _ _ _ _ _ | with_reducible refine Arr3.drew ?_ | with_reducible refine Arr3.drewN ?_ _ | with_reducible refine Arr3.store3 ?_ | with_reducible refine Arr3.alloc ?_ _ | with_reducible refine Box3.drew ?_ | with_reducible refine Box3.drewN ?_ _ | with_reducible refine Box3.alloc ?_ _ | with_reducible refine Arr3.next ?_ (by assumption) | with_reducible refine Box3.next ?_ (by assumption) | refine Arr3.oth ?_ (by first | (simp; done) | omega | (simp; omega)) _ | refine Box3.oth ?_ (by first | (simp; done) | omega | (simp; omega)) _)))).mono ?_; rintro e w1 ⟨rfl, hb1, hd8⟩))
  all_goals go_wp2_with fail
  all_goals go_ret
  all_goals exact ⟨rfl, ⟨by (repeat' (first | with_reducible exact Below.refl _ _ | with_reducible assumption | with_reducible refine gr_alloc ?_ _ | with_reducible refine gr_drew ?_ | with_reducible refine gr_drewN ?_ _ | with_reducible refine gr_trans ?_ (by assumption) | with_reducible refine gr_set ?_ ?_ _ | (simp; done) | omega | (simp; omega))), by first | omega | (simp only [drawn_drew] at *; omega) | (simp only [World.drawn_alloc, drawn_drew] at *; omega)⟩⟩

end Go.Proofs.Ytipeeljapmiciaa

/- The library sort at the program's forms: a permutation in order, in the same block. -/
namespace Go.Proofs.Ytipeeljapmiciaa
open Go.RowKit Go.Lib Go.Sort

namespace Rd
theorem swo4 : SWO (ltOf cm4) where
  irrefl x := by simp only [ltOf, decide_eq_false_iff_not, cm4_iff]; exact Ls.irrefl x
  trans x y z h k := by simp only [ltOf, decide_eq_true_eq, cm4_iff] at *; exact h.trans k
  ntrans x y z h k := by simp only [ltOf, decide_eq_false_iff_not, cm4_iff] at *; exact Ls.ntrans h k
end Rd
/-- What lies behind a world in which blocks were laid and draws were made. -/
theorem Bd.grow {w w' : World} (h : Bd w w') : ∃ q os, w' = Sort.grow (w.drewN q) os := by
  refine ⟨w'.drawn - w.drawn, w'.heap.extract w.heap.size w'.heap.size, ?_⟩
  have hh : w'.heap = w.heap ++ w'.heap.extract w.heap.size w'.heap.size := by
    apply Array.ext_getElem?
    intro k
    rw [Array.getElem?_append]
    by_cases hk : k < w.heap.size
    · rw [if_pos hk]; exact h.b.block k hk
    · rw [if_neg hk, Array.getElem?_extract]
      have hs := h.b.size
      by_cases hk2 : k < w'.heap.size
      · rw [if_pos (by omega), show w.heap.size + (k - w.heap.size) = k by omega]
      · rw [if_neg (by omega), Array.getElem?_eq_none (by omega)]
  have hd : w'.drawn = w.drawn + (w'.drawn - w.drawn) := by have := h.d; omega
  unfold Sort.grow World.drewN
  have h1 := h.b.os; have h2 := h.b.tape; have h3 := h.b.output
  generalize w'.heap.extract w.heap.size w'.heap.size = X at hh ⊢
  generalize w'.drawn - w.drawn = y at hd ⊢
  cases w'; cases w
  simp only at h1 h2 h3 hh hd
  subst h1 h2 h3 hh hd
  rfl
theorem cmpLaysF (blk off size : Nat) (w : World) : CmpLays Try.prog 50 #[] hm4 4 Rd.cm4 blk off size w :=
  fun _ _ _ _ x y => (cmpF_bd x.1 x.2.1 x.2.2.1 x.2.2.2 y.1 y.2.1 y.2.2.1 y.2.2.2 _).mono fun _ _ h => ⟨h.1, h.2.grow⟩
theorem cmpLaysM (blk off size : Nat) (w : World) : CmpLays Try.prog 55 #[] hm4 4 Rd.cm4 blk off size w :=
  fun _ _ _ _ x y => (cmpM_bd x.1 x.2.1 x.2.2.1 x.2.2.2 y.1 y.2.1 y.2.2.1 y.2.2.2 _).mono fun _ _ h => ⟨h.1, h.2.grow⟩

end Go.Proofs.Ytipeeljapmiciaa

/- A sorted row lies as the row did: the same block, other numbers. -/
namespace Go.Proofs.Ytipeeljapmiciaa
open Go.RowKit Go.Lib Go.Sort

theorem fm_get : ∀ (L : List Red.F4) (t : Nat), (L.flatMap hm4)[t]? = (L[t / 4]?).bind fun q => (hm4 q)[t % 4]?
  | [], t => by simp
  | q :: L, t => by
    rw [List.flatMap_cons, List.getElem?_append]
    have hl : (hm4 q).length = 4 := rfl
    by_cases ht : t < 4
    · rw [if_pos (by omega), show t / 4 = 0 by omega, show t % 4 = t by omega]; rfl
    · rw [if_neg (by omega), fm_get L, hl, show t / 4 = (t - 4) / 4 + 1 by omega, show t % 4 = (t - 4) % 4 by omega]; rfl
theorem flat_list (d : Array Red.F4) : (flatK hm4 4 d).toList = d.toList.flatMap hm4 := by
  apply List.ext_getElem?
  intro t
  rw [fm_get]
  by_cases ht : t < d.size * 4
  · have h1 : t / 4 < d.size := by omega
    have h2 := get_flatK hm4 4 d t ht
    have h3 : t < (flatK hm4 4 d).size := by rw [size_flatK]; exact ht
    rw [Array.getElem?_toList, Array.getElem?_eq_getElem h3, Array.getElem?_toList, Array.getElem?_eq_getElem h1, Option.bind_some]
    rw [getElem!_pos _ t h3, getElem!_pos d _ h1] at h2
    have h4 : t % 4 < (hm4 d[t / 4]).length := Nat.mod_lt _ (by decide)
    rw [h2, getElem!_pos (hm4 d[t / 4]) (t % 4) h4, List.getElem?_eq_getElem h4]
  · have h3 : ¬ t < (flatK hm4 4 d).size := by rw [size_flatK]; exact ht
    rw [Array.getElem?_toList, Array.getElem?_eq_none (by omega), Array.getElem?_toList, Array.getElem?_eq_none (by omega)]
    rfl
/-- What the sort's world holds. -/
theorem srt_world {w : World} {B g cap : Nat} {T : TypeId} {L : List Red.F4} (h : w.ownsRow B T 4 (.slice (some ⟨g, 0, none⟩) L.length cap) L.length (L.flatMap hm4)) :
    HoldsK hm4 4 w g 0 L.toArray ∧ g < w.heap.size ∧ B ≤ g ∧ L.length ≤ maxLen ∧ ∀ (d : Array Red.F4) (n : Nat) (os : Array Obj), d.size = L.length →
      (sortWorldK hm4 4 w g 0 n d os).ownsRow B T 4 (.slice (some ⟨g, 0, none⟩) L.length cap) L.length (d.toList.flatMap hm4) ∧ Below B w (sortWorldK hm4 4 w g 0 n d os) := by
  rcases h.2 with ⟨h0, _⟩ | ⟨g', cap', cur, hv, hb, hg, hnc, hcm, hs, ht⟩
  · cases h0
  · cases hv
    have hgl : g < w.heap.size := (Array.getElem?_eq_some_iff.1 hg).1
    have hfl : (L.flatMap hm4).length = L.length * 4 := h.1
    refine ⟨?_, hgl, hb, Nat.le_trans hnc hcm, ?_⟩
    · intro j hj
      have hj' : j < L.length * 4 := by simpa [size_flatK] using hj
      have e1 : (flatK hm4 4 L.toArray)[j]? = cur[j]? := by
        rw [← Array.getElem?_toList, flat_list, ← Array.getElem?_toList (xs := cur)]
        show (L.flatMap hm4)[j]? = _
        rw [← ht, List.getElem?_take, if_pos hj']
      have e2 : (flatK hm4 4 L.toArray)[j]? = some (flatK hm4 4 L.toArray)[j]! := by rw [getElem!_pos _ j hj, Array.getElem?_eq_getElem hj]
      refine ⟨?_, by simp [World.frozen?, hg]⟩
      rw [show (0 + j) = j by omega]
      show w.cell? ⟨g, j, none⟩ = some (flatK hm4 4 L.toArray)[j]!
      rw [← e2, e1]
      simp [World.cell?, hg]
    · intro d n os hd
      have hsz : (w.heap.modify g (onCells (putCells id 0 (flatK hm4 4 d)))).size = w.heap.size := by simp
      have hg' : (sortWorldK hm4 4 w g 0 n d os).heap[g]? = some (.cells (putCells id 0 (flatK hm4 4 d) cur) T (0, 0)) := by
        show (w.heap.modify g (onCells (putCells id 0 (flatK hm4 4 d))) ++ os)[g]? = _
        rw [Array.getElem?_append, if_pos (by omega), Array.getElem?_modify, if_pos rfl, hg]
        rfl
      refine ⟨⟨by rw [← flat_list, Array.length_toList, size_flatK, hd], .inr ⟨g, cap, _, rfl, hb, hg', hnc, hcm, by unfold putCells; rw [Array.size_mapIdx, hs], ?_⟩⟩, rfl, rfl, rfl, ?_, ?_⟩
      · rw [← flat_list]
        apply List.ext_getElem?
        intro t
        rw [List.getElem?_take]
        by_cases htt : t < L.length * 4
        · have hc : t < cur.size := by omega
          have hf : t < (flatK hm4 4 d).size := by rw [size_flatK]; omega
          rw [if_pos htt, Array.getElem?_toList, Array.getElem?_toList, Array.getElem?_eq_getElem hf]
          unfold putCells
          rw [Array.getElem?_mapIdx, Array.getElem?_eq_getElem hc, Option.map_some, if_pos ⟨Nat.zero_le _, by omega⟩, Nat.sub_zero, getElem!_pos _ t hf]
          rfl
        · rw [if_neg htt, Array.getElem?_toList, Array.getElem?_eq_none (by rw [size_flatK]; omega)]
      · show w.heap.size ≤ (w.heap.modify g (onCells (putCells id 0 (flatK hm4 4 d))) ++ os).size
        rw [Array.size_append]; omega
      · intro k hk
        show (w.heap.modify g (onCells (putCells id 0 (flatK hm4 4 d))) ++ os)[k]? = _
        rw [Array.getElem?_append, if_pos (by omega), Array.getElem?_modify, if_neg (by omega)]

end Go.Proofs.Ytipeeljapmiciaa
