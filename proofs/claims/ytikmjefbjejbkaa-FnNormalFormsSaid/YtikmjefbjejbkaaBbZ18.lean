/- Several texts in one: XRl3, XGrp. -/
import Derived.Test.YtikmjefbjejbkaaBbZ17
import Derived.Deep.RegionHeld3
import Derived.Test.YtikmjefbjejbkaaBbZ16

/- The program's comparison of forms and of matrices. -/
namespace Go.Proofs.Ytikmjefbjejbkaa
open Go.RowKit

set_option maxRecDepth 100000 in
set_option maxHeartbeats 4000000 in
theorem cmpF_any (a b c d p q r s : Int) (w : World) : Calls Try.prog 68 #[.agg #[.int .i64 a, .int .i64 b, .int .i64 c, .int .i64 d], .agg #[.int .i64 p, .int .i64 q, .int .i64 r, .int .i64 s]] w fun e w' => e = .returned (.int .i64 (Rd.cm4 (a, b, c, d) (p, q, r, s))) ∧ Below w.heap.size w w' := by
  have A0 := (Arr.new w a b c d 26).alloc (.cells #[.int .i64 p, .int .i64 q, .int .i64 r, .int .i64 s] 26)
  have B0 := Arr.new (w.alloc (.cells #[.int .i64 a, .int .i64 b, .int .i64 c, .int .i64 d] 26)) p q r s 26
  have U0 := gr_alloc (gr_alloc (Below.refl w.heap.size w) (.cells #[.int .i64 a, .int .i64 b, .int .i64 c, .int .i64 d] 26)) (.cells #[.int .i64 p, .int .i64 q, .int .i64 r, .int .i64 s] 26)
  simp only [World.size_alloc] at B0
  go_enter Try.func68, Try.ntmps68
  go_upto_region 1 with fail
  generalize (w.alloc (.cells #[.int .i64 a, .int .i64 b, .int .i64 c, .int .i64 d] 26)).alloc (.cells #[.int .i64 p, .int .i64 q, .int .i64 r, .int .i64 s] 26) = W0 at A0 B0 U0 ⊢
  obtain ⟨_, a0, a1, a2, a3, _⟩ := id A0
  obtain ⟨_, b0, b1, b2, b3, _⟩ := id B0
  go_region_held3 (fun W => W.cell? ⟨w.heap.size, 0, none⟩ = some (.int .i64 a) ∧ W.cell? ⟨w.heap.size, 1, none⟩ = some (.int .i64 b) ∧ W.cell? ⟨w.heap.size, 2, none⟩ = some (.int .i64 c) ∧ W.cell? ⟨w.heap.size, 3, none⟩ = some (.int .i64 d)) (refine cells4 ?_ <;> (repeat (first | with_reducible assumption | with_reducible exact Arr.box (by assumption) | with_reducible exact Box.new _ _ _ _ _ _ | with_reducible exact Arr.new _ _ _ _ _ _ | with_reducible refine Arr.drew ?_ | with_reducible refine Arr.drewN ?_ _ | with_reducible refine Arr.store4 ?_ | with_reducible refine Arr.alloc ?_ _ | with_reducible refine Box.drew ?_ | with_reducible refine Box.drewN ?_ _ | with_reducible refine Box.alloc ?_ _ | with_reducible refine Arr.next ?_ (by assumption) | with_reducible refine Box.next ?_ (by assumption) | refine Arr.oth ?_ (by first | (simp; done) | omega | (simp; omega)) _ | refine Box.oth ?_ (by first | (simp; done) | omega | (simp; omega)) _ | with_reducible exact Arr3.box (by assumption) | with_reducible exact Box3.new _ _ _ _ _ | with_reducible exact Arr3.new _ _ _ _ _ | with_reducible refine Arr3.drew ?_ | with_reducible refine Arr3.drewN ?_ _ | with_reducible refine Arr3.store3 ?_ | with_reducible refine Arr3.alloc ?_ _ | with_reducible refine Box3.drew ?_ | with_reducible refine Box3.drewN ?_ _ | with_reducible refine Box3.alloc ?_ _ | with_reducible refine Arr3.next ?_ (by assumption) | with_reducible refine Box3.next ?_ (by assumption) | refine Arr3.oth ?_ (by first | (simp; done) | omega | (simp; omega)) _ | refine Box3.oth ?_ (by first | (simp; done) | omega | (simp; omega)) _))) ((go_at_call 105; refine (cmp4_any w.heap.size (w.heap.size + 1) 4 4 a b c d p q r s _ (by (repeat (first | with_reducible assumption | with_reducible exact Arr.box (by assumption) | with_reducible exact Box.new _ _ _ _ _ _ | with_reducible exact Arr.new _ _ _ _ _ _ | with_reducible refine Arr.drew ?_ | with_reducible refine Arr.drewN ?_ _ | with_reducible refine Arr.store4 ?_ | with_reducible refine Arr.alloc ?_ _ | with_reducible refine Box.drew ?_ | with_reducible refine Box.drewN ?_ _ | with_reducible refine Box.alloc ?_ _ | with_reducible refine Arr.next ?_ (by assumption) | with_reducible refine Box.next ?_ (by assumption) | refine Arr.oth ?_ (by first | (simp; done) | omega | (simp; omega)) _ | refine Box.oth ?_ (by first | (simp; done) | omega | (simp; omega)) _ | with_reducible exact Arr3.box (by assumption) | with_reducible exact Box3.new _ _ _ _ _ | with_reducible exact Arr3.new _ _ _ _ _ | with_reducible refine Arr3.drew ?_ | with_reducible refine Arr3.drewN ?_ _ | with_reducible refine Arr3.store3 ?_ | with_reducible refine Arr3.alloc ?_ _ | with_reducible refine Box3.drew ?_ | with_reducible refine Box3.drewN ?_ _ | with_reducible refine Box3.alloc ?_ _ | with_reducible refine Arr3.next ?_ (by assumption) | with_reducible refine Box3.next ?_ (by assumption) | refine Arr3.oth ?_ (by first | (simp; done) | omega | (simp; omega)) _ | refine Box3.oth ?_ (by first | (simp; done) | omega | (simp; omega)) _))) (by (repeat (first | with_reducible assumption | with_reducible exact Arr.box (by assumption) | with_reducible exact Box.new _ _ _ _ _ _ | with_reducible exact Arr.new _ _ _ _ _ _ | with_reducible refine Arr.drew ?_ | with_reducible refine Arr.drewN ?_ _ | with_reducible refine Arr.store4 ?_ | with_reducible refine Arr.alloc ?_ _ | with_reducible refine Box.drew ?_ | with_reducible refine Box.drewN ?_ _ | with_reducible refine Box.alloc ?_ _ | with_reducible refine Arr.next ?_ (by assumption) | with_reducible refine Box.next ?_ (by assumption) | refine Arr.oth ?_ (by first | (simp; done) | omega | (simp; omega)) _ | refine Box.oth ?_ (by first | (simp; done) | omega | (simp; omega)) _ | with_reducible exact Arr3.box (by assumption) | with_reducible exact Box3.new _ _ _ _ _ | with_reducible exact Arr3.new _ _ _ _ _ | with_reducible refine Arr3.drew ?_ | with_reducible refine Arr3.drewN ?_ _ | with_reducible refine Arr3.store3 ?_ | with_reducible refine Arr3.alloc ?_ _ | with_reducible refine Box3.drew ?_ | with_reducible refine Box3.drewN ?_ _ | with_reducible refine Box3.alloc ?_ _ | with_reducible refine Arr3.next ?_ (by assumption) | with_reducible refine Box3.next ?_ (by assumption) | refine Arr3.oth ?_ (by first | (simp; done) | omega | (simp; omega)) _ | refine Box3.oth ?_ (by first | (simp; done) | omega | (simp; omega)) _)))).mono ?_; rintro e w1 ⟨rfl, hb1⟩))
  all_goals go_wp2_with fail
  all_goals go_ret
  all_goals exact ⟨rfl, by (repeat' (first | with_reducible exact Below.refl _ _ | with_reducible assumption | with_reducible refine gr_alloc ?_ _ | with_reducible refine gr_drew ?_ | with_reducible refine gr_drewN ?_ _ | with_reducible refine gr_trans ?_ (by assumption) | with_reducible refine gr_set ?_ ?_ _ | (simp; done) | omega | (simp; omega)))⟩
set_option maxRecDepth 100000 in
set_option maxHeartbeats 4000000 in
theorem cmpM_any (a b c d p q r s : Int) (w : World) : Calls Try.prog 58 #[.agg #[.int .i64 a, .int .i64 b, .int .i64 c, .int .i64 d], .agg #[.int .i64 p, .int .i64 q, .int .i64 r, .int .i64 s]] w fun e w' => e = .returned (.int .i64 (Rd.cm4 (a, b, c, d) (p, q, r, s))) ∧ Below w.heap.size w w' := by
  have A0 := (Arr.new w a b c d 44).alloc (.cells #[.int .i64 p, .int .i64 q, .int .i64 r, .int .i64 s] 44)
  have B0 := Arr.new (w.alloc (.cells #[.int .i64 a, .int .i64 b, .int .i64 c, .int .i64 d] 44)) p q r s 44
  have U0 := gr_alloc (gr_alloc (Below.refl w.heap.size w) (.cells #[.int .i64 a, .int .i64 b, .int .i64 c, .int .i64 d] 44)) (.cells #[.int .i64 p, .int .i64 q, .int .i64 r, .int .i64 s] 44)
  simp only [World.size_alloc] at B0
  go_enter Try.func58, Try.ntmps58
  go_upto_region 1 with fail
  generalize (w.alloc (.cells #[.int .i64 a, .int .i64 b, .int .i64 c, .int .i64 d] 44)).alloc (.cells #[.int .i64 p, .int .i64 q, .int .i64 r, .int .i64 s] 44) = W0 at A0 B0 U0 ⊢
  obtain ⟨_, a0, a1, a2, a3, _⟩ := id A0
  obtain ⟨_, b0, b1, b2, b3, _⟩ := id B0
  go_region_held3 (fun W => W.cell? ⟨w.heap.size, 0, none⟩ = some (.int .i64 a) ∧ W.cell? ⟨w.heap.size, 1, none⟩ = some (.int .i64 b) ∧ W.cell? ⟨w.heap.size, 2, none⟩ = some (.int .i64 c) ∧ W.cell? ⟨w.heap.size, 3, none⟩ = some (.int .i64 d)) (refine cells4 ?_ <;> (repeat (first | with_reducible assumption | with_reducible exact Arr.box (by assumption) | with_reducible exact Box.new _ _ _ _ _ _ | with_reducible exact Arr.new _ _ _ _ _ _ | with_reducible refine Arr.drew ?_ | with_reducible refine Arr.drewN ?_ _ | with_reducible refine Arr.store4 ?_ | with_reducible refine Arr.alloc ?_ _ | with_reducible refine Box.drew ?_ | with_reducible refine Box.drewN ?_ _ | with_reducible refine Box.alloc ?_ _ | with_reducible refine Arr.next ?_ (by assumption) | with_reducible refine Box.next ?_ (by assumption) | refine Arr.oth ?_ (by first | (simp; done) | omega | (simp; omega)) _ | refine Box.oth ?_ (by first | (simp; done) | omega | (simp; omega)) _ | with_reducible exact Arr3.box (by assumption) | with_reducible exact Box3.new _ _ _ _ _ | with_reducible exact Arr3.new _ _ _ _ _ | with_reducible refine Arr3.drew ?_ | with_reducible refine Arr3.drewN ?_ _ | with_reducible refine Arr3.store3 ?_ | with_reducible refine Arr3.alloc ?_ _ | with_reducible refine Box3.drew ?_ | with_reducible refine Box3.drewN ?_ _ | with_reducible refine Box3.alloc ?_ _ | with_reducible refine Arr3.next ?_ (by assumption) | with_reducible refine Box3.next ?_ (by assumption) | refine Arr3.oth ?_ (by first | (simp; done) | omega | (simp; omega)) _ | refine Box3.oth ?_ (by first | (simp; done) | omega | (simp; omega)) _))) ((go_at_call 105; refine (cmp4_any w.heap.size (w.heap.size + 1) 4 4 a b c d p q r s _ (by (repeat (first | with_reducible assumption | with_reducible exact Arr.box (by assumption) | with_reducible exact Box.new _ _ _ _ _ _ | with_reducible exact Arr.new _ _ _ _ _ _ | with_reducible refine Arr.drew ?_ | with_reducible refine Arr.drewN ?_ _ | with_reducible refine Arr.store4 ?_ | with_reducible refine Arr.alloc ?_ _ | with_reducible refine Box.drew ?_ | with_reducible refine Box.drewN ?_ _ | with_reducible refine Box.alloc ?_ _ | with_reducible refine Arr.next ?_ (by assumption) | with_reducible refine Box.next ?_ (by assumption) | refine Arr.oth ?_ (by first | (simp; done) | omega | (simp; omega)) _ | refine Box.oth ?_ (by first | (simp; done) | omega | (simp; omega)) _ | with_reducible exact Arr3.box (by assumption) | with_reducible exact Box3.new _ _ _ _ _ | with_reducible exact Arr3.new _ _ _ _ _ | with_reducible refine Arr3.drew ?_ | with_reducible refine Arr3.drewN ?_ _ | with_reducible refine Arr3.store3 ?_ | with_reducible refine Arr3.alloc ?_ _ | with_reducible refine Box3.drew ?_ | with_reducible refine Box3.drewN ?_ _ | with_reducible refine Box3.alloc ?_ _ | with_reducible refine Arr3.next ?_ (by assumption) | with_reducible refine Box3.next ?_ (by assumption) | refine Arr3.oth ?_ (by first | (simp; done) | omega | (simp; omega)) _ | refine Box3.oth ?_ (by first | (simp; done) | omega | (simp; omega)) _))) (by (repeat (first | with_reducible assumption | with_reducible exact Arr.box (by assumption) | with_reducible exact Box.new _ _ _ _ _ _ | with_reducible exact Arr.new _ _ _ _ _ _ | with_reducible refine Arr.drew ?_ | with_reducible refine Arr.drewN ?_ _ | with_reducible refine Arr.store4 ?_ | with_reducible refine Arr.alloc ?_ _ | with_reducible refine Box.drew ?_ | with_reducible refine Box.drewN ?_ _ | with_reducible refine Box.alloc ?_ _ | with_reducible refine Arr.next ?_ (by assumption) | with_reducible refine Box.next ?_ (by assumption) | refine Arr.oth ?_ (by first | (simp; done) | omega | (simp; omega)) _ | refine Box.oth ?_ (by first | (simp; done) | omega | (simp; omega)) _ | with_reducible exact Arr3.box (by assumption) | with_reducible exact Box3.new _ _ _ _ _ | with_reducible exact Arr3.new _ _ _ _ _ | with_reducible refine Arr3.drew ?_ | with_reducible refine Arr3.drewN ?_ _ | with_reducible refine Arr3.store3 ?_ | with_reducible refine Arr3.alloc ?_ _ | with_reducible refine Box3.drew ?_ | with_reducible refine Box3.drewN ?_ _ | with_reducible refine Box3.alloc ?_ _ | with_reducible refine Arr3.next ?_ (by assumption) | with_reducible refine Box3.next ?_ (by assumption) | refine Arr3.oth ?_ (by first | (simp; done) | omega | (simp; omega)) _ | refine Box3.oth ?_ (by first | (simp; done) | omega | (simp; omega)) _)))).mono ?_; rintro e w1 ⟨rfl, hb1⟩))
  all_goals go_wp2_with fail
  all_goals go_ret
  all_goals exact ⟨rfl, by (repeat' (first | with_reducible exact Below.refl _ _ | with_reducible assumption | with_reducible refine gr_alloc ?_ _ | with_reducible refine gr_drew ?_ | with_reducible refine gr_drewN ?_ _ | with_reducible refine gr_trans ?_ (by assumption) | with_reducible refine gr_set ?_ ?_ _ | (simp; done) | omega | (simp; omega)))⟩

end Go.Proofs.Ytikmjefbjejbkaa

/- Chapter 2: the reduced forms of a class by small units; which ways lead to each. Mathematics, and the contracts of the program's steps at them. -/
namespace Go.Proofs.Ytikmjefbjejbkaa
open Go.RowKit
namespace Rd
/-- T changed by u. -/
def ch (T u : Red.F4) : Red.F4 := (Red.fA T.1 T.2.1 T.2.2.1 T.2.2.2 u.1 u.2.2.1, Red.fB T.1 T.2.1 T.2.2.1 T.2.2.2 u.1 u.2.1 u.2.2.1 u.2.2.2, Red.fB T.1 T.2.1 T.2.2.1 T.2.2.2 u.2.1 u.1 u.2.2.2 u.2.2.1, Red.fA T.1 T.2.1 T.2.2.1 T.2.2.2 u.2.1 u.2.2.2)
def dt (u : Red.F4) : Int := u.1 * u.2.2.2 - u.2.1 * u.2.2.1
def Sm (u : Red.F4) : Prop := (-1 ≤ u.1 ∧ u.1 ≤ 1) ∧ (-1 ≤ u.2.1 ∧ u.2.1 ≤ 1) ∧ (-1 ≤ u.2.2.1 ∧ u.2.2.1 ≤ 1) ∧ (-1 ≤ u.2.2.2 ∧ u.2.2.2 ≤ 1)
theorem dg_sm {k : Int} (h0 : 0 ≤ k) (h1 : k ≤ 80) : Sm (dg k) := by
  unfold Sm dg
  dsimp only
  omega
theorem iu_dt {u : Red.F4} (hs : Sm u) : iu u = true ↔ dt u * dt u = 1 := by
  obtain ⟨x, y, z, w⟩ := u
  obtain ⟨h1, h2, h3, h4⟩ := hs
  dsimp only at h1 h2 h3 h4
  have a1 : x = -1 ∨ x = 0 ∨ x = 1 := by omega
  have a2 : y = -1 ∨ y = 0 ∨ y = 1 := by omega
  have a3 : z = -1 ∨ z = 0 ∨ z = 1 := by omega
  have a4 : w = -1 ∨ w = 0 ∨ w = 1 := by omega
  rcases a1 with rfl | rfl | rfl <;> rcases a2 with rfl | rfl | rfl <;> rcases a3 with rfl | rfl | rfl <;> rcases a4 with rfl | rfl | rfl <;> decide +kernel
theorem uni_mem : ∀ {n : Nat}, n ≤ 81 → ∀ {u : Red.F4}, u ∈ uni n → Sm u ∧ dt u * dt u = 1
  | 0, _, u, h => by simp [uni] at h
  | n + 1, hn, u, h => by
    unfold uni at h
    split at h
    · rename_i hi
      rcases List.mem_append.1 h with h | h
      · exact uni_mem (by omega) h
      · rw [List.mem_singleton] at h
        subst h
        have hs := dg_sm (k := n) (by omega) (by omega)
        exact ⟨hs, (iu_dt hs).1 hi⟩
    · exact uni_mem (by omega) h
theorem uni_has {u : Red.F4} (hs : Sm u) (hd : dt u * dt u = 1) : u ∈ uni 81 := by
  have key : ∀ n : Nat, ∀ k : Nat, k < n → iu (dg k) = true → dg k ∈ uni n := by
    intro n
    induction n with
    | zero => intro k h; omega
    | succ n ih =>
      intro k h hi
      unfold uni
      by_cases e : k = n
      · subst e; rw [if_pos hi]; simp
      · have := ih k (by omega) hi
        split
        · exact List.mem_append_left _ this
        · exact this
  obtain ⟨x, y, z, w⟩ := u
  obtain ⟨h1, h2, h3, h4⟩ := id hs
  dsimp only at h1 h2 h3 h4
  have e : dg ((27 * (x + 1) + 9 * (y + 1) + 3 * (z + 1) + (w + 1)).toNat : Int) = (x, y, z, w) := by
    rw [Int.toNat_of_nonneg (by omega)]
    unfold dg
    refine Prod.ext ?_ (Prod.ext ?_ (Prod.ext ?_ ?_)) <;> dsimp only <;> omega
  have := key 81 (27 * (x + 1) + 9 * (y + 1) + 3 * (z + 1) + (w + 1)).toNat (by omega) (by rw [e]; exact (iu_dt hs).2 hd)
  rwa [e] at this
theorem uni_nodup : ∀ {n : Nat}, n ≤ 81 → (uni n).Nodup
  | 0, _ => List.nodup_nil
  | n + 1, hn => by
    unfold uni
    split
    · refine List.nodup_append.2 ⟨uni_nodup (by omega), by simp, fun x hx y hy => ?_⟩
      rw [List.mem_singleton] at hy; subst hy
      have key : ∀ m : Nat, m ≤ n → ∀ x ∈ uni m, ∃ k : Nat, k < m ∧ x = dg k := by
        intro m
        induction m with
        | zero => intro _ x hx; simp [uni] at hx
        | succ m ih =>
          intro hm x hx
          unfold uni at hx
          split at hx
          · rcases List.mem_append.1 hx with h | h
            · obtain ⟨k, h1, h2⟩ := ih (by omega) x h; exact ⟨k, by omega, h2⟩
            · rw [List.mem_singleton] at h; exact ⟨m, by omega, h⟩
          · obtain ⟨k, h1, h2⟩ := ih (by omega) x hx; exact ⟨k, by omega, h2⟩
      obtain ⟨k, h1, rfl⟩ := key n (Nat.le_refl _) x hx
      intro e
      unfold dg at e
      simp only [Prod.mk.injEq] at e
      omega
    · exact uni_nodup (by omega)
theorem ch_bd {T u : Red.F4} (hT : Red.UB T) (hs : Sm u) (hd : dt u * dt u = 1) : Red.Bd (ch T u) := by
  obtain ⟨h1, h2, h3, h4⟩ := hs
  exact hT u.1 u.2.1 u.2.2.1 u.2.2.2 h1 h2 h3 h4 hd
theorem ch_one (T : Red.F4) : ch T (1, 0, 0, 1) = T := by
  obtain ⟨a, b, c, d⟩ := T
  unfold ch Red.fA Red.fB Red.fv
  refine Prod.ext ?_ (Prod.ext ?_ (Prod.ext ?_ ?_)) <;> dsimp only <;> grind
/-- The product of two matrices, whole. -/
def mz (x y : Red.F4) : Red.F4 := (x.1 * y.1 + x.2.1 * y.2.2.1, x.1 * y.2.1 + x.2.1 * y.2.2.2, x.2.2.1 * y.1 + x.2.2.2 * y.2.2.1, x.2.2.1 * y.2.1 + x.2.2.2 * y.2.2.2)
theorem ch_ch (T u v : Red.F4) : ch (ch T u) v = ch T (mz u v) := by
  unfold ch mz
  dsimp only
  rw [Red.fA_ch, Red.fA_ch, Red.fB_ch, Red.fB_ch]
theorem dt_mz (u v : Red.F4) : dt (mz u v) = dt u * dt v := by unfold dt mz; dsimp only; grind
/-- m is laid to the ways of k. -/
def addG : List (Red.F4 × List Red.F4) → Red.F4 → Red.F4 → List (Red.F4 × List Red.F4)
  | [], k, m => [(k, [m])]
  | (k', l) :: r, k, m => if k = k' then (k', l ++ [m]) :: r else (k', l) :: addG r k m
def oneG (s : Bool) (T M : Red.F4) (G : List (Red.F4 × List Red.F4)) (u : Red.F4) : List (Red.F4 × List Red.F4) := if Red.rdF s (ch T u) = true then addG G (ch T u) (mm M u) else G
/-- The ways to each reduced form, by the units of a list. -/
def grp (s : Bool) (T M : Red.F4) (us : List Red.F4) : List (Red.F4 × List Red.F4) := us.foldl (oneG s T M) []
theorem grp_snoc (s : Bool) (T M : Red.F4) (us : List Red.F4) (u : Red.F4) : grp s T M (us ++ [u]) = oneG s T M (grp s T M us) u := by simp [grp]
theorem addG_keys : ∀ (G : List (Red.F4 × List Red.F4)) (k m q : Red.F4), q ∈ (addG G k m).map (·.1) ↔ q ∈ G.map (·.1) ∨ q = k
  | [], k, m, q => by simp [addG]
  | (k', l) :: r, k, m, q => by
    unfold addG
    split
    · rename_i h; subst h; simp only [List.map_cons, List.mem_cons]; constructor
      · exact .inl
      · rintro (h | rfl)
        · exact h
        · exact .inl rfl
    · simp only [List.map_cons, List.mem_cons, addG_keys r k m q, or_assoc]
end Rd

end Go.Proofs.Ytikmjefbjejbkaa
