/- Chapter 9: moving a prime from d to F. -/
import Derived.Test.YtmhlolimaeejfaaDoorYg
import Derived.Test.YtmhlolimaeejfaaDoorBy
import Derived.Deep.DeepCutAuto
import Derived.Deep.RegionHeld3
import Derived.StillTailTactics
namespace Go.Proofs.YtmhlolimaeejfaaDoor
open Go.RowKit

/-- Can p be moved? -/
def mvb (d : Int) (p : Nat) : Bool := decide (d.tmod ((p : Int) * p) = 0) && ftb (d.tdiv ((p : Int) * p))
def mvD (d : Int) (p : Nat) : Int := if mvb d p then d.tdiv ((p : Int) * p) else d
def mvF (d : Int) (f p : Nat) : Nat := if mvb d p then f * p else f
theorem mvb_0 {d : Int} {p : Nat} (h : ¬ d.tmod ((p : Int) * p) = 0) : mvb d p = false := by simp [mvb, h]
theorem mvb_1 {d : Int} {p : Nat} (h : d.tmod ((p : Int) * p) = 0) : mvb d p = ftb (d.tdiv ((p : Int) * p)) := by simp [mvb, h]
theorem mvb_um {d : Int} {p : Nat} (hp : 1 ≤ p) (h : mvb d p = false) : Um d p := by
  intro e he hf
  have hpp : (p : Int) * p ≠ 0 := by
    have : (1 : Int) * 1 ≤ (p : Int) * p := Int.mul_le_mul (by omega) (by omega) (by omega) (by omega)
    omega
  have ht : d.tmod ((p : Int) * p) = 0 := by rw [he]; exact Int.mul_tmod_right ..
  have hq : d.tdiv ((p : Int) * p) = e := by rw [he]; exact Int.mul_tdiv_cancel_left _ hpp
  rw [mvb_1 ht, hq, ftb_fts.2 hf] at h
  cases h
theorem mvb_rv {n d : Int} {f p : Nat} (hp : 2 ≤ p) (h : Rv n d f) (hm : mvb d p = true) : Rv n (mvD d p) (mvF d f p) ∧ (mvD d p).natAbs < d.natAbs ∧ (∀ q, Um d q → Um (mvD d p) q) := by
  have hm' := hm
  simp only [mvb, Bool.and_eq_true, decide_eq_true_eq] at hm'
  have he := tm_ex hm'.1
  have e1 : mvD d p = d.tdiv ((p : Int) * p) := by simp [mvD, hm]
  have e2 : mvF d f p = f * p := by simp [mvF, hm]
  rw [e1, e2]
  refine ⟨h.by (by omega) he (ftb_fts.1 hm'.2), ?_, fun q hu => um_keep hu he⟩
  have h1 : d.natAbs = (p * p) * (d.tdiv ((p : Int) * p)).natAbs := by
    conv => lhs; rw [he]
    rw [Int.natAbs_mul, Int.natAbs_mul, Int.natAbs_natCast]
  have h2 : 4 ≤ p * p := Nat.mul_le_mul hp hp
  have h3 : 4 * (d.tdiv ((p : Int) * p)).natAbs ≤ (p * p) * (d.tdiv ((p : Int) * p)).natAbs := Nat.mul_le_mul_right _ h2
  have h4 : 0 < d.natAbs := Int.natAbs_pos.2 h.ne
  omega

set_option maxRecDepth 100000 in
set_option maxHeartbeats 1000000 in
theorem moved_any (d : Int) (f p : Nat) (w : World) (hd : -100000000000000 ≤ d ∧ d ≤ 100000000000000) (hf : f ≤ 10000000) (hp : 2 ≤ p) (hp7 : p ≤ 10000000) :
    Calls Tryd.prog 59 #[.agg #[.int .i64 d, .int .i64 ((f : Int))], .int .i64 ((p : Int))] w fun e w' => e = .returned (.agg #[.int .i64 (mvD d p), .int .i64 ((mvF d f p : Int))]) ∧ Below w.heap.size w w' := by
  obtain ⟨hd1, hd2⟩ := hd
  obtain ⟨s0, s1⟩ := sqr_bd7 (x := (p : Int)) (B := 10000000) (by omega) (by omega)
  have hq9 : (2 : Int) * 2 ≤ (p : Int) * p := Int.mul_le_mul (by omega) (by omega) (by omega) (by omega)
  have hq1 : 1 ≤ (p : Int) * p := by omega
  have hq0 : ¬ (p : Int) * p = 0 := by omega
  have g0 : (0 : Int) ≤ (f : Int) * p := Int.mul_nonneg (by omega) (by omega)
  have g1 : (f : Int) * p ≤ 10000000 * 10000000 := Int.mul_le_mul (by omega) (by omega) (by omega) (by omega)
  obtain ⟨he1, he2⟩ := tdiv_bd (m := (p : Int) * p) ⟨hd1, hd2⟩
  have M0 := hid (@mvb_0 d p); have M1 := hid (@mvb_1 d p)
  have HD := hid (show mvD d p = if mvb d p then d.tdiv ((p : Int) * p) else d from rfl)
  have HF := hid (show ((mvF d f p : Nat) : Int) = if mvb d p then (f : Int) * p else f by unfold mvF; split <;> simp)
  generalize mvD d p = D at HD ⊢
  generalize ((mvF d f p : Nat) : Int) = F at HF ⊢
  generalize mvb d p = mb at M0 M1 HD HF
  have U0 := gr_alloc (gr_alloc (Below.refl w.heap.size w) (.cells #[.int .i64 d, .int .i64 ((f : Int))] 64)) (.cells #[.int .i64 0, .int .i64 0] 64)
  have X0 := (Bx.new w #[.int .i64 d, .int .i64 ((f : Int))] 64).alloc (.cells #[.int .i64 0, .int .i64 0] 64)
  have Y0 := Bx.new (w.alloc (.cells #[.int .i64 d, .int .i64 ((f : Int))] 64)) #[.int .i64 0, .int .i64 0] 64
  go_enter Tryd.func59, Tryd.ntmps59
  go_upto_region 1 with fail
  generalize hW : (w.alloc (.cells #[.int .i64 d, .int .i64 ((f : Int))] 64)).alloc (.cells #[.int .i64 0, .int .i64 0] 64) = W at U0 X0 Y0 ⊢
  have HSZ := hid (show W.heap.size = w.heap.size + 2 by rw [← hW]; simp)
  clear hW
  simp only [World.size_alloc] at Y0
  have x0 : W.cell? ⟨w.heap.size, 0, none⟩ = some (.int .i64 d) := X0.cell 0
  have x1 : W.cell? ⟨w.heap.size, 1, none⟩ = some (.int .i64 ((f : Int))) := X0.cell 1
  go_cut [5] (fun s5 wx => s5 = .pointer (some ⟨W.heap.size, 0, none⟩) ∧ Bx wx W.heap.size #[.int .i64 (d.tdiv ((p : Int) * p)), .int .i64 ((f : Int) * p)] 64 ∧ Below W.heap.size W wx)
  case first =>
    have x0a : (W.alloc (.cells #[.int .i64 0, .int .i64 0] 64)).cell? ⟨w.heap.size, 0, none⟩ = some (.int .i64 d) := (X0.alloc _).cell 0
    have x1a : (W.alloc (.cells #[.int .i64 0, .int .i64 0] 64)).cell? ⟨w.heap.size, 1, none⟩ = some (.int .i64 ((f : Int))) := (X0.alloc _).cell 1
    have hw1 : IntKind.i64.wrap ((p : Int) * p) = (p : Int) * p := IntWalk.i64_in _ (by omega)
    have hw2 : IntKind.i64.wrap (d.tdiv ((p : Int) * p)) = d.tdiv ((p : Int) * p) := IntWalk.i64_in _ (by omega)
    have hw3 : IntKind.i64.wrap ((f : Int) * p) = (f : Int) * p := IntWalk.i64_in _ (by omega)
    go_region
    all_goals
      go_wp2_with fail
      go_meet
      exact ⟨by first | rfl | rw [HSZ.out], Bx.new _ _ _, by (repeat' (first | with_reducible exact Below.refl _ _ | with_reducible assumption | with_reducible refine gr_alloc ?_ _ | with_reducible refine gr_drew ?_ | with_reducible refine gr_drewN ?_ _ | with_reducible refine gr_trans ?_ (by assumption) | with_reducible refine gr_set ?_ ?_ _ | (simp; done) | omega | (simp; omega)))⟩
  case rest =>
    obtain ⟨rfl, hY, hbx⟩ := hcut
    have X1 := X0.next hbx
    have Y1 := Y0.next hbx
    have x0' : wc.cell? ⟨w.heap.size, 0, none⟩ = some (.int .i64 d) := X1.cell 0
    have x1' : wc.cell? ⟨w.heap.size, 1, none⟩ = some (.int .i64 ((f : Int))) := X1.cell 1
    have y0' : wc.cell? ⟨w.heap.size + 1, 0, none⟩ = some (.int .i64 0) := Y1.cell 0
    have y1' : wc.cell? ⟨w.heap.size + 1, 1, none⟩ = some (.int .i64 0) := Y1.cell 1
    have yf0 := Y1.frozen 0
    have yf1 := Y1.frozen 1
    have z0' : wc.cell? ⟨W.heap.size, 0, none⟩ = some (.int .i64 (d.tdiv ((p : Int) * p))) := hY.cell 0
    have z1' : wc.cell? ⟨W.heap.size, 1, none⟩ = some (.int .i64 ((f : Int) * p)) := hY.cell 1
    have hlt := Y1.lt
    have HB := hid (show ∀ a b, Bx ((wc.setCell ⟨w.heap.size + 1, 0, none⟩ (.int .i64 a)).setCell ⟨w.heap.size + 1, 1, none⟩ (.int .i64 b)) (w.heap.size + 1) #[.int .i64 a, .int .i64 b] 64 from fun a b => by have := (Y1.put 0 (.int .i64 a)).put 1 (.int .i64 b); simpa using this)
    have HU := hid (show ∀ a b, Below w.heap.size w ((wc.setCell ⟨w.heap.size + 1, 0, none⟩ (.int .i64 a)).setCell ⟨w.heap.size + 1, 1, none⟩ (.int .i64 b)) from fun a b => gr_set (gr_set (gr_trans U0 hbx) (by show w.heap.size ≤ w.heap.size + 1; omega) _) (by show w.heap.size ≤ w.heap.size + 1; omega) _)
    clear X0 Y0 U0 hbx hY x0 x1
    by_cases hz : d.tmod ((p : Int) * p) = 0
    · have hm : mul0 d ((p : Int) * p) = true := by rw [mul0_p (by omega)]; simpa using hz
      have M2 := hid (M1.out hz)
      clear M0 M1 hz
      generalize d.tdiv ((p : Int) * p) = e at *
      cases hft : ftb e with
      | true =>
        have HB1 := hid (HB.out e ((f : Int) * p))
        have hmb : mb = true := by rw [M2.out, hft]
        subst hmb
        go_wp2_with fail
        refine (isMultiple_any d ((p : Int) * p) _ (by omega) (by omega)).mono ?_
        rintro e' w1 ⟨rfl, rfl⟩
        go_wp2_with fail
        refine (iFits_any e _).mono ?_
        rintro e' w1 ⟨rfl, rfl⟩
        go_wp2_with fail
        have c0 := HB1.out.cell 0
        have c1 := HB1.out.cell 1
        refine bodyPost_ret (by simp [results, Tryd.results59, go_sem, c0, c1]; try rfl) rfl ⟨?_, HU.out _ _⟩
        rw [HD.out, HF.out]; rfl
      | false =>
        have HB1 := hid (HB.out d (f : Int))
        have hmb : mb = false := by rw [M2.out, hft]
        subst hmb
        go_wp2_with fail
        refine (isMultiple_any d ((p : Int) * p) _ (by omega) (by omega)).mono ?_
        rintro e' w1 ⟨rfl, rfl⟩
        go_wp2_with fail
        refine (iFits_any e _).mono ?_
        rintro e' w1 ⟨rfl, rfl⟩
        go_wp2_with fail
        have c0 := HB1.out.cell 0
        have c1 := HB1.out.cell 1
        refine bodyPost_ret (by simp [results, Tryd.results59, go_sem, c0, c1]; try rfl) rfl ⟨?_, HU.out _ _⟩
        rw [HD.out, HF.out]; rfl
    · have hm : mul0 d ((p : Int) * p) = false := by rw [mul0_p (by omega)]; simpa using hz
      have HB1 := hid (HB.out d (f : Int))
      have hmb : mb = false := M0.out hz
      subst hmb
      clear hz M1
      go_wp2_with fail
      refine (isMultiple_any d ((p : Int) * p) _ (by omega) (by omega)).mono ?_
      rintro e' w1 ⟨rfl, rfl⟩
      go_wp2_with fail
      have c0 := HB1.out.cell 0
      have c1 := HB1.out.cell 1
      refine bodyPost_ret (by simp [results, Tryd.results59, go_sem, c0, c1]; try rfl) rfl ⟨?_, HU.out _ _⟩
      rw [HD.out, HF.out]; rfl


end Go.Proofs.YtmhlolimaeejfaaDoor
