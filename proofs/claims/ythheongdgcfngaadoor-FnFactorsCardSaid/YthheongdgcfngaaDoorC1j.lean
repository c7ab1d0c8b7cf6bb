/- Chapter 1: primitive parts of the program. -/
import Derived.Test.YthheongdgcfngaaDoorZ12
import Derived.Test.YthheongdgcfngaaDoorEq
namespace Go.Proofs.YthheongdgcfngaaDoor
open Go.RowKit

set_option maxHeartbeats 1000000 in
theorem iDivided_any (a b c d k : Int) (w : World) (ha : -1000 ≤ a ∧ a ≤ 1000) (hb : -1000 ≤ b ∧ b ≤ 1000) (hc : -1000 ≤ c ∧ c ≤ 1000) (hd : -1000 ≤ d ∧ d ≤ 1000) (hk : 0 < k) (hk2 : k ≤ 1000) :
    Calls Tryd.prog 100 #[.agg #[.int .i64 a, .int .i64 b, .int .i64 c, .int .i64 d], .int .i64 k] w fun e w' => e = .returned (.agg #[.int .i64 (a.tdiv k), .int .i64 (b.tdiv k), .int .i64 (c.tdiv k), .int .i64 (d.tdiv k)]) ∧ Below w.heap.size w w' := by
  have hz' : (k == 0) = false := by simp; omega
  have R0 := Arr.new (w.alloc (.cells #[.int .i64 (a.tdiv k), .int .i64 (b.tdiv k), .int .i64 (c.tdiv k), .int .i64 (d.tdiv k)] 25)) (a.tdiv k) (b.tdiv k) (c.tdiv k) (d.tdiv k) 25
  simp only [World.size_alloc] at R0
  go_enter Tryd.func100, Tryd.ntmps100
  go_wp2
  go_rounds 5
  refine bodyPost_ret (res_A1 (e := 2) rfl Tryd.underlying25 (by kernel_rfl) rfl R0) rfl ?_
  exact ⟨rfl, by (repeat' (first | with_reducible exact Below.refl _ _ | with_reducible assumption | with_reducible refine gr_alloc ?_ _ | with_reducible refine gr_drew ?_ | with_reducible refine gr_drewN ?_ _ | with_reducible refine gr_trans ?_ (by assumption) | with_reducible refine gr_set ?_ ?_ _ | (simp; done) | omega | (simp; omega)))⟩

set_option maxHeartbeats 1000000 in
theorem iPrim_any (a b c d : Int) (w : World) :
    Calls Tryd.prog 85 #[.agg #[.int .i64 a, .int .i64 b, .int .i64 c, .int .i64 d]] w fun e w' => e = .returned (.tuple #[.agg #[.int .i64 (if0 (ppc a b c d) (a.tdiv (cnt a b c d))), .int .i64 (if0 (ppc a b c d) (b.tdiv (cnt a b c d))), .int .i64 (if0 (ppc a b c d) (c.tdiv (cnt a b c d))), .int .i64 (if0 (ppc a b c d) (d.tdiv (cnt a b c d)))], .int .i64 (ppc a b c d)]) ∧ Below w.heap.size w w' := by
  go_enter Tryd.func85, Tryd.ntmps85
  go_wp2_with fail
  refine (iContent_any a b c d _).mono ?_
  rintro e w1 ⟨rfl, hb1⟩
  have A1 := ((Arr.new w a b c d 25).alloc (.cells #[.int .i64 0, .int .i64 0, .int .i64 0, .int .i64 0] 25)).next hb1
  have R1 := (Arr.new (w.alloc (.cells #[.int .i64 a, .int .i64 b, .int .i64 c, .int .i64 d] 25)) 0 0 0 0 25).next hb1
  simp only [World.size_alloc] at A1 R1
  obtain ⟨_, c0, c1, c2, c3, g0, g1, g2, g3⟩ := id A1
  obtain ⟨_, r0, r1, r2, r3, f0, f1, f2, f3⟩ := id R1
  by_cases hm : isF a b c d = true
  · obtain ⟨ha, hb, hc, hd⟩ := isF_t hm
    obtain ⟨hg0, hg1⟩ := cnt_bd ha hb hc hd
    have e1 : cif a b c d = 0 := by simp [cif, hm]
    have e2 : ifF a b c d (cnt a b c d) = cnt a b c d := by simp [ifF, hm]
    rw [e1, e2]
    clear e1 e2
    by_cases hz : cnt a b c d = 0
    · obtain ⟨rfl, rfl, rfl, rfl⟩ := cnt_0.1 hz
      have HZ := hid hz
      clear hz
      have heq := fun w => eqForm_run 0 0 0 0 0 0 0 0 w
      go_wp2
      refine bodyPost_ret (res_A (e := 2) rfl Tryd.underlying25 (by kernel_rfl) rfl (by (repeat (first | with_reducible assumption | with_reducible exact Arr.box (by assumption) | with_reducible apply Arr.drew | with_reducible apply Arr.drewN | with_reducible refine Arr.store4 ?_ | with_reducible apply Arr.alloc | with_reducible refine Box.drew ?_ | with_reducible refine Box.drewN ?_ _ | with_reducible refine Box.alloc ?_ _ | refine Arr.oth ?_ (by first | (simp; done) | omega | (simp; omega)) _ | refine Box.oth ?_ (by first | (simp; done) | omega | (simp; omega)) _)))) rfl ?_
      have k0 : ppc 0 0 0 0 = 5 := by simp [ppc, hm, HZ.out]
      exact ⟨ret_form (by simp [if0, k0]) (by simp [if0, k0]) (by simp [if0, k0]) (by simp [if0, k0]) (by simp [k0]), by (repeat' (first | with_reducible exact Below.refl _ _ | with_reducible assumption | with_reducible refine gr_alloc ?_ _ | with_reducible refine gr_drew ?_ | with_reducible refine gr_drewN ?_ _ | with_reducible refine gr_trans ?_ (by assumption) | with_reducible refine gr_set ?_ ?_ _ | (simp; done) | omega | (simp; omega)))⟩
    · have hz' : (cnt a b c d == 0) = false := by simp [hz]
      have hne : (a == 0 && b == 0 && c == 0 && d == 0) = false := by
        rw [Bool.eq_false_iff]; intro h; simp at h; exact hz (cnt_0.2 (by omega))
      have heq : ∀ w, (Op.equalIn 10000 25 (.agg #[.int .i64 a, .int .i64 b, .int .i64 c, .int .i64 d]) (.agg #[.int .i64 0, .int .i64 0, .int .i64 0, .int .i64 0])).run Tryd.prog w = .ok false w := fun w => by rw [eqForm_run, hne]
      clear hne
      go_wp2_with (go_at_call 100; refine (iDivided_any a b c d _ _ ha hb hc hd (by omega) (by omega)).mono ?_; rintro e w2 ⟨rfl, hb2⟩; have R2 := R1.next hb2; clear r0 r1 r2 r3 f0 f1 f2 f3; obtain ⟨_, r0, r1, r2, r3, f0, f1, f2, f3⟩ := id R2)
      refine bodyPost_ret (res_A (e := 2) rfl Tryd.underlying25 (by kernel_rfl) rfl (by (repeat (first | with_reducible assumption | with_reducible exact Arr.box (by assumption) | with_reducible apply Arr.drew | with_reducible apply Arr.drewN | with_reducible refine Arr.store4 ?_ | with_reducible apply Arr.alloc | with_reducible refine Box.drew ?_ | with_reducible refine Box.drewN ?_ _ | with_reducible refine Box.alloc ?_ _ | refine Arr.oth ?_ (by first | (simp; done) | omega | (simp; omega)) _ | refine Box.oth ?_ (by first | (simp; done) | omega | (simp; omega)) _)))) rfl ?_
      have k0 : ppc a b c d = 0 := by simp [ppc, hm, hz]
      exact ⟨ret_form (by simp [if0, k0]) (by simp [if0, k0]) (by simp [if0, k0]) (by simp [if0, k0]) (by simp [k0]), by (repeat' (first | with_reducible exact Below.refl _ _ | with_reducible assumption | with_reducible refine gr_alloc ?_ _ | with_reducible refine gr_drew ?_ | with_reducible refine gr_drewN ?_ _ | with_reducible refine gr_trans ?_ (by assumption) | with_reducible refine gr_set ?_ ?_ _ | (simp; done) | omega | (simp; omega)))⟩
  · have hm' : isF a b c d = false := by simpa using hm
    clear hm
    have e1 : cif a b c d = 1 := by simp [cif, hm']
    have e2 : ifF a b c d (cnt a b c d) = 0 := by simp [ifF, hm']
    rw [e1, e2]
    clear e1 e2
    go_wp2
    refine bodyPost_ret (res_A (e := 2) rfl Tryd.underlying25 (by kernel_rfl) rfl (by (repeat (first | with_reducible assumption | with_reducible exact Arr.box (by assumption) | with_reducible apply Arr.drew | with_reducible apply Arr.drewN | with_reducible refine Arr.store4 ?_ | with_reducible apply Arr.alloc | with_reducible refine Box.drew ?_ | with_reducible refine Box.drewN ?_ _ | with_reducible refine Box.alloc ?_ _ | refine Arr.oth ?_ (by first | (simp; done) | omega | (simp; omega)) _ | refine Box.oth ?_ (by first | (simp; done) | omega | (simp; omega)) _)))) rfl ?_
    have k0 : ppc a b c d = 1 := by simp [ppc, hm']
    exact ⟨ret_form (by simp [if0, k0]) (by simp [if0, k0]) (by simp [if0, k0]) (by simp [if0, k0]) (by simp [k0]), by (repeat' (first | with_reducible exact Below.refl _ _ | with_reducible assumption | with_reducible refine gr_alloc ?_ _ | with_reducible refine gr_drew ?_ | with_reducible refine gr_drewN ?_ _ | with_reducible refine gr_trans ?_ (by assumption) | with_reducible refine gr_set ?_ ?_ _ | (simp; done) | omega | (simp; omega)))⟩

end Go.Proofs.YthheongdgcfngaaDoor
