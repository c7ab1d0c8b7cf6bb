/- Draws of chapter 9's ideals. -/
import Derived.Test.YtihcmgjfkiaelaaDoorDraw16
namespace Go.Proofs.YtihcmgjfkiaelaaDoor
open Go.ChangeShapes Go.WideShapes Go.ChangeAt Go.RowKit

set_option maxRecDepth 100000 in
set_option maxHeartbeats 4000000 in
theorem drawId_any (a : Option Addr) (len cap : Nat) (zs : List Int) (w : World) (hR : IsRow .u8 w a len cap zs) (hlen : len ≤ 9223372036854775807) :
    Calls Tryd.prog 28 #[.slice a len cap] w (WithOut w) := by
  have R0 := Arr.new w 0 0 0 0 25
  have U0 := gr_alloc (Below.refl w.heap.size w) (.cells #[.int .i64 0, .int .i64 0, .int .i64 0, .int .i64 0] 25)
  have hR0 := row8_next hR U0
  clear hR
  go_enter Tryd.func28, Tryd.ntmps28
  go_wp2_with fail
  refine (from_any a len cap zs _ hR0 hlen).mono ?_
  rintro e w1 ⟨rfl, S1', hb1⟩
  have S1 := hid S1'
  have R1 := R0.next hb1
  have U1 := gr_trans U0 hb1
  clear S1' hR0 R0 U0 hb1
  simp only [World.size_alloc] at S1 ⊢
  generalize hk : w.heap.size + 1 = k at S1 ⊢
  go_wp2_with fail
  refine (l09Draw_any _ a len cap zs _ S1.out).mono ?_
  rintro e w2 ⟨p, q, r, s, rfl, S2', G2⟩
  have R2 := R1.gk G2 (by omega)
  have U2 := Gk.out U1 G2 (by omega)
  have hk2 := S2'.lt
  have hR2 := R2.lt
  have X3 := Arr.new w2 p q r s 25
  have S3 := hid (S2'.alloc (.cells #[.int .i64 p, .int .i64 q, .int .i64 r, .int .i64 s] 25))
  have R3 := R2.alloc (.cells #[.int .i64 p, .int .i64 q, .int .i64 r, .int .i64 s] 25)
  have U3 := gr_alloc U2 (.cells #[.int .i64 p, .int .i64 q, .int .i64 r, .int .i64 s] 25)
  clear S1 R1 U1 G2 S2' R2 U2
  obtain ⟨j, hj⟩ : ∃ j, j = w2.heap.size := ⟨_, rfl⟩
  rw [← hj] at X3 hk2 hR2
  go_wp2_with fail
  rw [← hj]
  generalize w2.alloc (.cells #[.int .i64 p, .int .i64 q, .int .i64 r, .int .i64 s] 25) = W3 at X3 S3 R3 U3 ⊢
  clear hj
  have hl3 := X3.lt
  have hk3 := S3.out.lt
  obtain ⟨_, x0, x1, x2, x3, _⟩ := id X3
  obtain ⟨_, r0, r1, r2, r3, f0, f1, f2, f3⟩ := id R3
  go_cut [3] (fun s3 wx => ∃ n : Int, s3 = .int .i64 n ∧ Arr wx w.heap.size p q r s ∧ Below w.heap.size w wx)
  case first =>
    go_region_with (first | (go_at_call 71; refine (near_any k a len cap zs _ _ ?_).mono ?_; (exact S3.out.below (by (repeat' (first | with_reducible exact Below.refl _ _ | with_reducible assumption | with_reducible refine gr_alloc ?_ _ | with_reducible refine gr_drew ?_ | with_reducible refine gr_drewN ?_ _ | with_reducible refine gr_trans ?_ (by assumption) | with_reducible refine gr_set ?_ ?_ _ | (simp; done) | omega | (simp; omega))))); (rintro e z1 ⟨y, rfl, Sy, Gy⟩; have Xy := Arr.gk (X3.next (by (repeat' (first | with_reducible exact Below.refl _ _ | with_reducible assumption | with_reducible refine gr_alloc ?_ _ | with_reducible refine gr_drew ?_ | with_reducible refine gr_drewN ?_ _ | with_reducible refine gr_trans ?_ (by assumption) | with_reducible refine gr_set ?_ ?_ _ | (simp; done) | omega | (simp; omega))))) Gy (by omega); have Ry := Arr.gk (R3.next (by (repeat' (first | with_reducible exact Below.refl _ _ | with_reducible assumption | with_reducible refine gr_alloc ?_ _ | with_reducible refine gr_drew ?_ | with_reducible refine gr_drewN ?_ _ | with_reducible refine gr_trans ?_ (by assumption) | with_reducible refine gr_set ?_ ?_ _ | (simp; done) | omega | (simp; omega))))) Gy (by omega); have Uy := Gk.out (gr_trans U3 (by (repeat' (first | with_reducible exact Below.refl _ _ | with_reducible assumption | with_reducible refine gr_alloc ?_ _ | with_reducible refine gr_drew ?_ | with_reducible refine gr_drewN ?_ _ | with_reducible refine gr_trans ?_ (by assumption) | with_reducible refine gr_set ?_ ?_ _ | (simp; done) | omega | (simp; omega))))) Gy (by omega); obtain ⟨_, y0, y1, y2, y3, _⟩ := id Xy; obtain ⟨_, q0, q1, q2, q3, e0, e1, e2, e3⟩ := id Ry)) | (go_at_call 67; have hky := Sy.lt; refine (pick_any k a len cap zs _ 4 _ ?_ (by omega) (by omega) ?_ ?_ ?_).mono ?_; (exact Sy.alloc _); (focus (simp)); (omega); (exact lit_cells _ 2 [1, 10, 40, IntKind.i64.wrap (1 + y)]); (rintro e z ⟨x, rfl, Sz, Gz⟩; have Xz := (Xy.alloc _).gk Gz (by omega); have Rz := (Ry.alloc _).gk Gz (by omega); have Uz := Gk.out (gr_alloc Uy _) Gz (by omega); obtain ⟨_, z0, z1, z2, z3, _⟩ := id Xz; obtain ⟨_, v0, v1, v2, v3, e4, e5, e6, e7⟩ := id Rz)))
    all_goals
      go_wp2
      go_meet
      exact ⟨_, rfl, by (repeat (first | with_reducible assumption | with_reducible exact Arr.box (by assumption) | with_reducible exact Box.new _ _ _ _ _ _ | with_reducible exact Arr.new _ _ _ _ _ _ | with_reducible refine Arr.drew ?_ | with_reducible refine Arr.drewN ?_ _ | with_reducible refine Arr.store4 ?_ | with_reducible refine Arr.alloc ?_ _ | with_reducible refine Box.drew ?_ | with_reducible refine Box.drewN ?_ _ | with_reducible refine Box.alloc ?_ _ | with_reducible refine Arr.next ?_ (by assumption) | with_reducible refine Box.next ?_ (by assumption) | refine Arr.oth ?_ (by first | (simp; done) | omega | (simp; omega)) _ | refine Box.oth ?_ (by first | (simp; done) | omega | (simp; omega)) _ | with_reducible exact Arr3.box (by assumption) | with_reducible exact Box3.new _ _ _ _ _ | with_reducible exact Arr3.new _ _ _ _ _ | with_reducible refine Arr3.drew ?_ | with_reducible refine Arr3.drewN ?_ _ | with_reducible refine Arr3.store3 ?_ | with_reducible refine Arr3.alloc ?_ _ | with_reducible refine Box3.drew ?_ | with_reducible refine Box3.drewN ?_ _ | with_reducible refine Box3.alloc ?_ _ | with_reducible refine Arr3.next ?_ (by assumption) | with_reducible refine Box3.next ?_ (by assumption) | refine Arr3.oth ?_ (by first | (simp; done) | omega | (simp; omega)) _ | refine Box3.oth ?_ (by first | (simp; done) | omega | (simp; omega)) _)), by (repeat' (first | with_reducible exact Below.refl _ _ | with_reducible assumption | with_reducible refine gr_alloc ?_ _ | with_reducible refine gr_drew ?_ | with_reducible refine gr_drewN ?_ _ | with_reducible refine gr_trans ?_ (by assumption) | with_reducible refine gr_set ?_ ?_ _ | (simp; done) | omega | (simp; omega)))⟩
  case rest =>
    obtain ⟨n, rfl, R4, U4⟩ := hcut
    clear X3 S3 R3 U3 x0 x1 x2 x3 r0 r1 r2 r3 f0 f1 f2 f3
    go_wp2_with fail
    refine bodyPost_ret (res_AN (e := 2) rfl Tryd.underlying25 (by kernel_rfl) rfl rfl R4) rfl ?_
    exact ⟨_, _, _, _, _, rfl, U4⟩

set_option maxRecDepth 100000 in
set_option maxHeartbeats 4000000 in
theorem drawSu_any (a : Option Addr) (len cap : Nat) (zs : List Int) (w : World) (hR : IsRow .u8 w a len cap zs) (hlen : len ≤ 9223372036854775807) :
    Calls Tryd.prog 34 #[.slice a len cap] w (WithOut w) := by
  have R0 := Arr.new w 0 0 0 0 25
  have U0 := gr_alloc (Below.refl w.heap.size w) (.cells #[.int .i64 0, .int .i64 0, .int .i64 0, .int .i64 0] 25)
  have hR0 := row8_next hR U0
  clear hR
  go_enter Tryd.func34, Tryd.ntmps34
  go_wp2_with fail
  refine (from_any a len cap zs _ hR0 hlen).mono ?_
  rintro e w1 ⟨rfl, S1', hb1⟩
  have S1 := hid S1'
  have R1 := R0.next hb1
  have U1 := gr_trans U0 hb1
  clear S1' hR0 R0 U0 hb1
  simp only [World.size_alloc] at S1 ⊢
  generalize hk : w.heap.size + 1 = k at S1 ⊢
  go_wp2_with fail
  refine (l09Draw_any _ a len cap zs _ S1.out).mono ?_
  rintro e w2 ⟨p, q, r, s, rfl, S2', G2⟩
  have R2 := R1.gk G2 (by omega)
  have U2 := Gk.out U1 G2 (by omega)
  have hk2 := S2'.lt
  have hR2 := R2.lt
  have X3 := Arr.new w2 p q r s 25
  have S3 := hid (S2'.alloc (.cells #[.int .i64 p, .int .i64 q, .int .i64 r, .int .i64 s] 25))
  have R3 := R2.alloc (.cells #[.int .i64 p, .int .i64 q, .int .i64 r, .int .i64 s] 25)
  have U3 := gr_alloc U2 (.cells #[.int .i64 p, .int .i64 q, .int .i64 r, .int .i64 s] 25)
  clear S1 R1 U1 G2 S2' R2 U2
  obtain ⟨j, hj⟩ : ∃ j, j = w2.heap.size := ⟨_, rfl⟩
  rw [← hj] at X3 hk2 hR2
  go_wp2_with fail
  rw [← hj]
  generalize w2.alloc (.cells #[.int .i64 p, .int .i64 q, .int .i64 r, .int .i64 s] 25) = W3 at X3 S3 R3 U3 ⊢
  clear hj
  have hl3 := X3.lt
  have hk3 := S3.out.lt
  obtain ⟨_, x0, x1, x2, x3, _⟩ := id X3
  obtain ⟨_, r0, r1, r2, r3, f0, f1, f2, f3⟩ := id R3
  go_cut [3] (fun s3 wx => ∃ n : Int, s3 = .int .i64 n ∧ Arr wx w.heap.size p q r s ∧ Below w.heap.size w wx)
  case first =>
    go_region_with (first | (go_at_call 71; refine (near_any k a len cap zs _ _ ?_).mono ?_; (exact S3.out.below (by (repeat' (first | with_reducible exact Below.refl _ _ | with_reducible assumption | with_reducible refine gr_alloc ?_ _ | with_reducible refine gr_drew ?_ | with_reducible refine gr_drewN ?_ _ | with_reducible refine gr_trans ?_ (by assumption) | with_reducible refine gr_set ?_ ?_ _ | (simp; done) | omega | (simp; omega))))); (rintro e z1 ⟨y, rfl, Sy, Gy⟩; have Xy := Arr.gk (X3.next (by (repeat' (first | with_reducible exact Below.refl _ _ | with_reducible assumption | with_reducible refine gr_alloc ?_ _ | with_reducible refine gr_drew ?_ | with_reducible refine gr_drewN ?_ _ | with_reducible refine gr_trans ?_ (by assumption) | with_reducible refine gr_set ?_ ?_ _ | (simp; done) | omega | (simp; omega))))) Gy (by omega); have Ry := Arr.gk (R3.next (by (repeat' (first | with_reducible exact Below.refl _ _ | with_reducible assumption | with_reducible refine gr_alloc ?_ _ | with_reducible refine gr_drew ?_ | with_reducible refine gr_drewN ?_ _ | with_reducible refine gr_trans ?_ (by assumption) | with_reducible refine gr_set ?_ ?_ _ | (simp; done) | omega | (simp; omega))))) Gy (by omega); have Uy := Gk.out (gr_trans U3 (by (repeat' (first | with_reducible exact Below.refl _ _ | with_reducible assumption | with_reducible refine gr_alloc ?_ _ | with_reducible refine gr_drew ?_ | with_reducible refine gr_drewN ?_ _ | with_reducible refine gr_trans ?_ (by assumption) | with_reducible refine gr_set ?_ ?_ _ | (simp; done) | omega | (simp; omega))))) Gy (by omega); obtain ⟨_, y0, y1, y2, y3, _⟩ := id Xy; obtain ⟨_, q0, q1, q2, q3, e0, e1, e2, e3⟩ := id Ry)) | (go_at_call 67; have hky := Sy.lt; refine (pick_any k a len cap zs _ 4 _ ?_ (by omega) (by omega) ?_ ?_ ?_).mono ?_; (exact Sy.alloc _); (focus (simp)); (omega); (exact lit_cells _ 2 [1, 10, 40, IntKind.i64.wrap (1 + y)]); (rintro e z ⟨x, rfl, Sz, Gz⟩; have Xz := (Xy.alloc _).gk Gz (by omega); have Rz := (Ry.alloc _).gk Gz (by omega); have Uz := Gk.out (gr_alloc Uy _) Gz (by omega); obtain ⟨_, z0, z1, z2, z3, _⟩ := id Xz; obtain ⟨_, v0, v1, v2, v3, e4, e5, e6, e7⟩ := id Rz)))
    all_goals
      go_wp2
      go_meet
      exact ⟨_, rfl, by (repeat (first | with_reducible assumption | with_reducible exact Arr.box (by assumption) | with_reducible exact Box.new _ _ _ _ _ _ | with_reducible exact Arr.new _ _ _ _ _ _ | with_reducible refine Arr.drew ?_ | with_reducible refine Arr.drewN ?_ _ | with_reducible refine Arr.store4 ?_ | with_reducible refine Arr.alloc ?_ _ | with_reducible refine Box.drew ?_ | with_reducible refine Box.drewN ?_ _ | with_reducible refine Box.alloc ?_ _ | with_reducible refine Arr.next ?_ (by assumption) | with_reducible refine Box.next ?_ (by assumption) | refine Arr.oth ?_ (by first | (simp; done) | omega | (simp; omega)) _ | refine Box.oth ?_ (by first | (simp; done) | omega | (simp; omega)) _ | with_reducible exact Arr3.box (by assumption) | with_reducible exact Box3.new _ _ _ _ _ | with_reducible exact Arr3.new _ _ _ _ _ | with_reducible refine Arr3.drew ?_ | with_reducible refine Arr3.drewN ?_ _ | with_reducible refine Arr3.store3 ?_ | with_reducible refine Arr3.alloc ?_ _ | with_reducible refine Box3.drew ?_ | with_reducible refine Box3.drewN ?_ _ | with_reducible refine Box3.alloc ?_ _ | with_reducible refine Arr3.next ?_ (by assumption) | with_reducible refine Box3.next ?_ (by assumption) | refine Arr3.oth ?_ (by first | (simp; done) | omega | (simp; omega)) _ | refine Box3.oth ?_ (by first | (simp; done) | omega | (simp; omega)) _)), by (repeat' (first | with_reducible exact Below.refl _ _ | with_reducible assumption | with_reducible refine gr_alloc ?_ _ | with_reducible refine gr_drew ?_ | with_reducible refine gr_drewN ?_ _ | with_reducible refine gr_trans ?_ (by assumption) | with_reducible refine gr_set ?_ ?_ _ | (simp; done) | omega | (simp; omega)))⟩
  case rest =>
    obtain ⟨n, rfl, R4, U4⟩ := hcut
    clear X3 S3 R3 U3 x0 x1 x2 x3 r0 r1 r2 r3 f0 f1 f2 f3
    go_wp2_with fail
    refine bodyPost_ret (res_AN (e := 2) rfl Tryd.underlying25 (by kernel_rfl) rfl rfl R4) rfl ?_
    exact ⟨_, _, _, _, _, rfl, U4⟩


end Go.Proofs.YtihcmgjfkiaelaaDoor
