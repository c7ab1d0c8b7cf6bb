/- Chapter 2: inverses of unit matrices of whatever size, program and model. -/
import Derived.Test.YtikmjefbjejbkaaBbZ7
import Derived.Test.YtikmjefbjejbkaaBbAv
namespace Go.Proofs.Ytikmjefbjejbkaa
open Go.RowKit

theorem wr_neg (x : Int) : IntKind.i64.wrap (-(wrap64 x)) = wrap64 (-x) := by
  have e : -(wrap64 x) = (-1) * wrap64 x := by omega
  have e2 : -x = (-1) * x := by omega
  rw [IntWalk.i64_left, e, e2, wr_mr]
theorem wr_rng (x : Int) : -9223372036854775808 ≤ wrap64 x ∧ wrap64 x ≤ 9223372036854775807 := by unfold wrap64; omega
theorem wr_one {x : Int} (h : x = 1 ∨ x = -1) : wrap64 x = x := by rcases h with rfl | rfl <;> simp [wrap64]
theorem iInvX_any (X : Red.F4) (hd : Rd.dt X * Rd.dt X = 1) (w : World) :
    Calls Try.prog 54 #[vF (Rd.wrF X)] w fun e w' => e = .returned (.tuple #[vF (Rd.wrF (Rd.ivz X)), .bool true]) ∧ Below w.heap.size w w' := by
  have hg := Rd.dt_cases hd
  obtain ⟨x, y, z, t⟩ := X
  have hD : Rd.dt (x, y, z, t) = x * t - y * z := rfl
  unfold vF Rd.wrF Rd.ivz
  dsimp only
  generalize Rd.dt (x, y, z, t) = g at *
  have h := iInvG_any (wrap64 x) (wrap64 y) (wrap64 z) (wrap64 t) (wrap64 (-y)) (wrap64 (-z)) g w hg (wr_neg y) (wr_neg z) (wr_rng x).1 (wr_rng x).2 (wr_rng t).1 (wr_rng t).2 (wr_rng _).1 (wr_rng _).2 (wr_rng _).1 (wr_rng _).2 (by
    simp only [Rd.wmp, Rd.wr2_l, Rd.wr2_r]
    have k := wr_one hg
    have w0 : wrap64 0 = 0 := by simp [wrap64]
    refine ⟨?_, ?_, ?_, ?_⟩
    · rw [← k, hD]; congr 1; grind
    · have : x * -y + y * x = 0 := by grind
      rw [this]; exact w0
    · have : z * t + t * -z = 0 := by grind
      rw [this]; exact w0
    · rw [← k, hD]; congr 1; grind)
  rw [wr_ml, wr_ml, wr_ml, wr_ml] at h
  have e1 : t * g = g * t := Int.mul_comm _ _
  have e2 : -y * g = -(g * y) := by grind
  have e3 : -z * g = -(g * z) := by grind
  have e4 : x * g = g * x := Int.mul_comm _ _
  rw [e1, e2, e3, e4] at h
  exact h
set_option maxHeartbeats 400000 in
theorem sInvX_any (X : Red.F4) (hd : Rd.dt X * Rd.dt X = 1) (w : World) :
    Calls Try.prog 97 #[vF (Rd.wrF X)] w fun e w' => e = .returned (vF (Rd.wrF (Rd.ivz X))) ∧ Below w.heap.size w w' := by
  have hg := Rd.dt_cases hd
  obtain ⟨x, y, z, t⟩ := X
  have hD : Rd.dt (x, y, z, t) = x * t - y * z := rfl
  unfold vF Rd.wrF Rd.ivz
  dsimp only
  generalize Rd.dt (x, y, z, t) = g at *
  have hdet : det (wrap64 x) (wrap64 y) (wrap64 z) (wrap64 t) = g := by
    unfold det mi mu
    simp only [wr_sl, wr_sr, wr_ml, wr_mr]
    rw [← hD]; exact wr_one hg
  have e1 : wrap64 (g * wrap64 t) = wrap64 (g * t) := wr_mr _ _
  have e2 : wrap64 (-g * wrap64 y) = wrap64 (-(g * y)) := by rw [wr_mr]; congr 1; grind
  have e3 : wrap64 (-g * wrap64 z) = wrap64 (-(g * z)) := by rw [wr_mr]; congr 1; grind
  have e4 : wrap64 (g * wrap64 x) = wrap64 (g * x) := wr_mr _ _
  have r1 := wr_rng x; have r2 := wr_rng y; have r3 := wr_rng z; have r4 := wr_rng t
  rw [← e1, ← e2, ← e3, ← e4]
  clear e1 e2 e3 e4 hD hd
  generalize wrap64 x = a at *
  generalize wrap64 y = b at *
  generalize wrap64 z = c at *
  generalize wrap64 t = d at *
  obtain ⟨ha1, ha2⟩ := r1; obtain ⟨hb1, hb2⟩ := r2; obtain ⟨hc1, hc2⟩ := r3; obtain ⟨hd1, hd2⟩ := r4
  have H1 := hid hdet
  clear hdet
  go_enter Try.func97, Try.ntmps97
  go_wp2_with fail
  refine (sDet0_any a b c d _).mono ?_
  rw [H1.out]
  rintro e w1 ⟨rfl, hbx⟩
  have R1 := (Arr.new (w.alloc (.cells #[.int .i64 a, .int .i64 b, .int .i64 c, .int .i64 d] 44)) 0 0 0 0 44).next hbx
  have A1 := ((Arr.new w a b c d 44).alloc (.cells #[.int .i64 0, .int .i64 0, .int .i64 0, .int .i64 0] 44)).next hbx
  simp only [World.size_alloc] at R1
  obtain ⟨_, c0, c1, c2, c3, _⟩ := id A1
  obtain ⟨_, r0, r1, r2, r3, f0, f1, f2, f3⟩ := id R1
  rcases hg with rfl | rfl
  · go_wp2
    refine bodyPost_ret (res_A1 (e := 2) rfl Try.underlying44 (by kernel_rfl) rfl (by (repeat (first | with_reducible assumption | with_reducible exact Arr.box (by assumption) | with_reducible apply Arr.drew | with_reducible apply Arr.drewN | with_reducible refine Arr.store4 ?_ | with_reducible apply Arr.alloc | with_reducible refine Box.drew ?_ | with_reducible refine Box.drewN ?_ _ | with_reducible refine Box.alloc ?_ _ | refine Arr.oth ?_ (by first | (simp; done) | omega | (simp; omega)) _ | refine Box.oth ?_ (by first | (simp; done) | omega | (simp; omega)) _)))) rfl ?_
    exact ⟨by simp [IntWalk.wrap64_in, *], by (repeat' (first | with_reducible exact Below.refl _ _ | with_reducible assumption | with_reducible refine gr_alloc ?_ _ | with_reducible refine gr_drew ?_ | with_reducible refine gr_drewN ?_ _ | with_reducible refine gr_trans ?_ (by assumption) | with_reducible refine gr_set ?_ ?_ _ | (simp; done) | omega | (simp; omega)))⟩
  · go_wp2
    refine bodyPost_ret (res_A1 (e := 2) rfl Try.underlying44 (by kernel_rfl) rfl (by (repeat (first | with_reducible assumption | with_reducible exact Arr.box (by assumption) | with_reducible apply Arr.drew | with_reducible apply Arr.drewN | with_reducible refine Arr.store4 ?_ | with_reducible apply Arr.alloc | with_reducible refine Box.drew ?_ | with_reducible refine Box.drewN ?_ _ | with_reducible refine Box.alloc ?_ _ | refine Arr.oth ?_ (by first | (simp; done) | omega | (simp; omega)) _ | refine Box.oth ?_ (by first | (simp; done) | omega | (simp; omega)) _)))) rfl ?_
    exact ⟨by simp [IntWalk.wrap64_in, *], by (repeat' (first | with_reducible exact Below.refl _ _ | with_reducible assumption | with_reducible refine gr_alloc ?_ _ | with_reducible refine gr_drew ?_ | with_reducible refine gr_drewN ?_ _ | with_reducible refine gr_trans ?_ (by assumption) | with_reducible refine gr_set ?_ ?_ _ | (simp; done) | omega | (simp; omega)))⟩

end Go.Proofs.Ytikmjefbjejbkaa
