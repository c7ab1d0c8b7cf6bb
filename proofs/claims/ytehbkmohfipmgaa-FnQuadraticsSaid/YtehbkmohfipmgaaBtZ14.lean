/- Several texts in one: XWc, XHs. -/
import Derived.Test.YtehbkmohfipmgaaBtWa
import Derived.Test.YtehbkmohfipmgaaBtZh
import Derived.Test.YtehbkmohfipmgaaBtZn
import Derived.Test.YtehbkmohfipmgaaBtZ2
import Derived.Test.YtehbkmohfipmgaaBtZ3

/- Chapter 10: third powers of classes; the classes of a discriminant are elements. -/
namespace Go.Proofs.Ytehbkmohfipmgaa
open Go.RowKit

theorem cin_el {d p : Int} (hp : 1 ≤ p) (hd : d < 0) : ∀ (j : Nat), (j : Int) ≤ 2 * p → ∀ c ∈ cin d p j, El d c := by
  intro j
  induction j with
  | zero => intro _ c h; simp [cin] at h
  | succ j ih =>
    intro hj c h
    simp only [cin, List.mem_append] at h
    rcases h with h | h
    · exact ih (by omega) c h
    · split at h
      · rename_i hk
        have e : c = (p, 1 - p + (j : Int), thd p (1 - p + j) d) := by simpa using h
        subst e
        simp only [ckb, Bool.and_eq_true, decide_eq_true_eq, beq_iff_eq] at hk
        obtain ⟨h1, h2, h3⟩ := hk
        refine ⟨⟨hp, ?_, ?_, h2⟩, ?_, h1, hd⟩
        · show -p < 1 - p + (j : Int); omega
        · show 1 - p + (j : Int) ≤ p; omega
        · show Int.gcd (Int.gcd p (1 - p + (j : Int))) (thd p (1 - p + j) d) = 1
          unfold cnt3 at h3
          omega
      · simp at h
theorem cou_el {d : Int} (hd : d < 0) : ∀ (k : Nat), ∀ c ∈ cou d k, El d c := by
  intro k
  induction k with
  | zero => intro c h; simp [cou] at h
  | succ k ih =>
    intro c h
    simp only [cou, List.mem_append] at h
    rcases h with h | h
    · exact ih c h
    · exact cin_el (p := (k : Int) + 1) (by omega) hd _ (by omega) c h
theorem cls_el {d : Int} (hd : d < 0) (c : Qd) (h : c ∈ cls d) : El d c := cou_el hd _ c h
/-- The numbers of a list at their places. -/
theorem at_flat (L : List Qd) (i : Nat) (c : Qd) (h : L[i]? = some c) : (L.flatMap qi3).getD (i * 3) 0 = c.1 ∧ (L.flatMap qi3).getD (i * 3 + 1) 0 = c.2.1 ∧ (L.flatMap qi3).getD (i * 3 + 2) 0 = c.2.2 := by
  induction L generalizing i with
  | nil => simp at h
  | cons a L ih =>
    cases i with
    | zero =>
      have e : a = c := by simpa using h
      subst e
      simp [qi3]
    | succ i =>
      have h1 := ih i (by simpa using h)
      have e : (i + 1) * 3 = i * 3 + 3 := by omega
      rw [e]
      simpa [qi3] using h1
/-- Is the third power the unit? -/
noncomputable def tri3 (d : Int) (c : Qd) : Bool := decide (cp c (cp c c) = un d)
noncomputable def thr (d : Int) : List Qd := (cls d).filter (tri3 d)
theorem filter_take {P : Qd → Bool} {L : List Qd} {i : Nat} {c : Qd} (h : L[i]? = some c) : (L.take (i + 1)).filter P = (L.take i).filter P ++ (if P c then [c] else []) := by
  have hi : i < L.length := by
    rcases Nat.lt_or_ge i L.length with h1 | h1
    · exact h1
    · rw [List.getElem?_eq_none h1] at h; cases h
  have e : L[i] = c := by rw [List.getElem?_eq_getElem hi] at h; exact Option.some.inj h
  rw [List.take_succ_eq_append_getElem hi, List.filter_append, e]
  cases hp : P c <;> simp [hp]

set_option maxHeartbeats 1000000 in
theorem unitWith_any (d : Int) (w : World) (hd : -2000 ≤ d ∧ d ≤ -1) : Calls Try.prog 56 #[.int .i64 d] w fun e w' => e = .returned (.agg #[.int .i64 ((un d).1), .int .i64 ((un d).2.1), .int .i64 ((un d).2.2)]) ∧ Below w.heap.size w w' := by
  have c1 := fun W => restBy_any d 2 W (by omega) (by omega)
  have c2 := fun W => wdisc_any 1 (d % 2) d W (by omega) (by omega) (by omega)
  have he : un d = (1, d % 2, thd 1 (d % 2) d) := rfl
  rw [he]
  dsimp only
  generalize thd 1 (d % 2) d = z at c2 ⊢
  generalize d % 2 = x at c1 c2 ⊢
  have C1 := hid c1; have C2 := hid c2
  have B0 := Arr3.new w 0 0 0 25
  have U0 := gr_alloc (Below.refl w.heap.size w) (.cells #[.int .i64 0, .int .i64 0, .int .i64 0] 25)
  clear c1 c2 he
  go_enter Try.func56, Try.ntmps56
  go_wp2_with fail
  refine (C1.out _).mono ?_
  rintro e w1 ⟨rfl, rfl⟩
  go_wp2_with fail
  refine (C2.out _).mono ?_
  rintro e w2 ⟨rfl, hb2⟩
  have B2 := B0.next hb2
  obtain ⟨_, b0, b1, b2, f0, f1, f2⟩ := id B2
  go_wp2
  refine bodyPost_ret (res_A31 (e := 2) rfl Try.underlying25 (by kernel_rfl) rfl (by (repeat (first | with_reducible assumption | with_reducible exact Arr.box (by assumption) | with_reducible exact Box.new _ _ _ _ _ _ | with_reducible exact Arr.new _ _ _ _ _ _ | with_reducible refine Arr.drew ?_ | with_reducible refine Arr.drewN ?_ _ | with_reducible refine Arr.store4 ?_ | with_reducible refine Arr.alloc ?_ _ | with_reducible refine Box.drew ?_ | with_reducible refine Box.drewN ?_ _ | with_reducible refine Box.alloc ?_ _ | with_reducible refine Arr.next ?_ (by assumption) | with_reducible refine Box.next ?_ (by assumption) | refine Arr.oth ?_ (by first | (simp; done) | omega | (simp; omega)) _ | refine Box.oth ?_ (by first | (simp; done) | omega | (simp; omega)) _ | with_reducible exact Arr3.box (by assumption) | with_reducible exact Box3.new _ _ _ _ _ | with_reducible exact Arr3.new _ _ _ _ _ | with_reducible refine Arr3.drew ?_ | with_reducible refine Arr3.drewN ?_ _ | with_reducible refine Arr3.store3 ?_ | with_reducible refine Arr3.alloc ?_ _ | with_reducible refine Box3.drew ?_ | with_reducible refine Box3.drewN ?_ _ | with_reducible refine Box3.alloc ?_ _ | with_reducible refine Arr3.next ?_ (by assumption) | with_reducible refine Box3.next ?_ (by assumption) | refine Arr3.oth ?_ (by first | (simp; done) | omega | (simp; omega)) _ | refine Box3.oth ?_ (by first | (simp; done) | omega | (simp; omega)) _)))) rfl ?_
  exact ⟨rfl, by (repeat' (first | with_reducible exact Below.refl _ _ | with_reducible assumption | with_reducible refine gr_alloc ?_ _ | with_reducible refine gr_drew ?_ | with_reducible refine gr_drewN ?_ _ | with_reducible refine gr_trans ?_ (by assumption) | with_reducible refine gr_set ?_ ?_ _ | (simp; done) | omega | (simp; omega)))⟩

end Go.Proofs.Ytehbkmohfipmgaa

/- Chapter 2: the Hessian of the program. -/
namespace Go.Proofs.Ytehbkmohfipmgaa
open Go.RowKit

def isR (a b c d : Int) : Bool := rng (-100) 100 a && rng (-100) 100 b && rng (-100) 100 c && rng (-100) 100 d
theorem isR_t {a b c d : Int} (h : isR a b c d = true) : (-100 ≤ a ∧ a ≤ 100) ∧ (-100 ≤ b ∧ b ≤ 100) ∧ (-100 ≤ c ∧ c ≤ 100) ∧ (-100 ≤ d ∧ d ≤ 100) := by
  simp only [isR, Bool.and_eq_true] at h
  exact ⟨rng_t h.1.1.1, rng_t h.1.1.2, rng_t h.1.2, rng_t h.2⟩
theorem isR_eq {a b c d : Int} {r : Bool} (h : r = true ↔ (-100 ≤ a ∧ a ≤ 100) ∧ (-100 ≤ b ∧ b ≤ 100) ∧ (-100 ≤ c ∧ c ≤ 100) ∧ (-100 ≤ d ∧ d ≤ 100)) : r = isR a b c d := by
  rw [Bool.eq_iff_iff, h]
  exact ⟨fun ⟨p, q, r, s⟩ => by simp [isR, rng_mk p.1 p.2, rng_mk q.1 q.2, rng_mk r.1 r.2, rng_mk s.1 s.2], isR_t⟩

set_option maxHeartbeats 400000 in
theorem allWithin100_any (k : Nat) (a b c d : Int) (w : World) (hA : Arr w k a b c d) :
    Calls Try.prog 58 #[.slice (some ⟨k, 0, none⟩) 4 4, .int .i64 100] w fun e w' => e = .returned (.bool (isR a b c d)) ∧ w = w' := by
  obtain ⟨lt, c0, c1, c2, c3, _⟩ := hA
  go_enter Try.func58, Try.ntmps58
  go_wp2
  go_rounds 5
  all_goals (go_ret; exact ⟨ret_bool (by apply isR_eq; go_light; simp at *; try omega), rfl⟩)

/-- The three numbers of the Hessian. -/
def hs1 (a b c : Int) : Int := b * b - 3 * a * c
def hs2 (a b c d : Int) : Int := b * c - 9 * a * d
def hs3 (b c d : Int) : Int := c * c - 3 * b * d

set_option maxRecDepth 100000 in
set_option maxHeartbeats 1000000 in
theorem iHess_any (a b c d : Int) (w : World) :
    Calls Try.prog 86 #[.agg #[.int .i64 a, .int .i64 b, .int .i64 c, .int .i64 d]] w fun e w' => e = .returned (.tuple #[.int .i64 (wrap64 (hs1 a b c)), .int .i64 (wrap64 (hs2 a b c d)), .int .i64 (wrap64 (hs3 b c d))]) ∧ Below w.heap.size w w' := by
  have A0 := Arr.new w a b c d 42
  have U0 := gr_alloc (Below.refl w.heap.size w) (.cells #[.int .i64 a, .int .i64 b, .int .i64 c, .int .i64 d] 42)
  go_enter Try.func86, Try.ntmps86
  go_upto_region 1 with fail
  generalize w.alloc (.cells #[.int .i64 a, .int .i64 b, .int .i64 c, .int .i64 d] 42) = W0 at A0 U0 ⊢
  obtain ⟨_, a0, a1, a2, a3, _⟩ := id A0
  go_quiet (fail)
  go_wp2
  go_ret3
  exact ⟨ret_tup3 (by simp only [hs1, wr_sl, wr_sr, wr_ml]) (by simp only [hs2, wr_sl, wr_sr, wr_ml]) (by simp only [hs3, wr_sl, wr_sr, wr_ml]), by (repeat' (first | with_reducible exact Below.refl _ _ | with_reducible assumption | with_reducible refine gr_alloc ?_ _ | with_reducible refine gr_drew ?_ | with_reducible refine gr_drewN ?_ _ | with_reducible refine gr_trans ?_ (by assumption) | with_reducible refine gr_set ?_ ?_ _ | (simp; done) | omega | (simp; omega)))⟩

end Go.Proofs.Ytehbkmohfipmgaa
