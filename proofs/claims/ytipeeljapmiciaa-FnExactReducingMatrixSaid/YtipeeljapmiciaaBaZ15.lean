/- Several texts in one: XPn, XPo. -/
import Derived.Test.YtipeeljapmiciaaBaPf

/- Chapter 2: the model's reduction beside the program's: the same reduced forms, the same ways, up to their order. Mathematics. -/
namespace Go.Proofs.Ytipeeljapmiciaa
open Go.RowKit
namespace Rd
theorem fl_ch {α β : Int} (hα : Sg α) (hβ : Sg β) (T : Red.F4) : fl α β T = ch T (α, 0, 0, β) := by
  obtain ⟨a, b, c, d⟩ := T
  unfold fl ch Red.fA Red.fB Red.fv
  dsimp only
  rcases hα with rfl | rfl <;> rcases hβ with rfl | rfl <;> refine Prod.ext ?_ (Prod.ext ?_ (Prod.ext ?_ ?_)) <;> dsimp only <;> grind
/-- A matrix of signs ahead. -/
def sgn (α β : Int) (u : Red.F4) : Red.F4 := (α * u.1, α * u.2.1, β * u.2.2.1, β * u.2.2.2)
theorem sgn_mz (α β : Int) (u : Red.F4) : mz (α, 0, 0, β) u = sgn α β u := by
  unfold mz sgn
  refine Prod.ext ?_ (Prod.ext ?_ (Prod.ext ?_ ?_)) <;> dsimp only <;> omega
theorem ch_fl {α β : Int} (hα : Sg α) (hβ : Sg β) (T u : Red.F4) : ch (fl α β T) u = ch T (sgn α β u) := by
  rw [fl_ch hα hβ, ch_ch, sgn_mz]
theorem sgn_sm {α β : Int} (hα : Sg α) (hβ : Sg β) {u : Red.F4} (h : Sm u) : Sm (sgn α β u) := by
  unfold Sm sgn at *
  dsimp only
  rcases hα with rfl | rfl <;> rcases hβ with rfl | rfl <;> omega
theorem sgn_dt {α β : Int} (hα : Sg α) (hβ : Sg β) {u : Red.F4} (h : dt u * dt u = 1) : dt (sgn α β u) * dt (sgn α β u) = 1 := by
  have e : dt (sgn α β u) = (α * β) * dt u := by unfold dt sgn; dsimp only; grind
  have e2 : (α * β) * (α * β) = 1 := by rcases hα with rfl | rfl <;> rcases hβ with rfl | rfl <;> rfl
  have e3 : (α * β) * dt u * ((α * β) * dt u) = (α * β) * (α * β) * (dt u * dt u) := by grind
  rw [e, e3, e2, h]; rfl
theorem sgn_sgn {α β : Int} (hα : Sg α) (hβ : Sg β) (u : Red.F4) : sgn α β (sgn α β u) = u := by
  unfold sgn
  rcases hα with rfl | rfl <;> rcases hβ with rfl | rfl <;> refine Prod.ext ?_ (Prod.ext ?_ (Prod.ext ?_ ?_)) <;> dsimp only <;> omega
theorem ub_fl {α β : Int} (hα : Sg α) (hβ : Sg β) {T : Red.F4} (h : Red.UB T) : Red.UB (fl α β T) := by
  intro x y z w hx hy hz hw hd
  have hs : Sm (sgn α β (x, y, z, w)) := sgn_sm hα hβ ⟨hx, hy, hz, hw⟩
  have h1 := ch_bd h hs (sgn_dt hα hβ hd)
  rw [← ch_fl hα hβ] at h1
  exact h1
theorem dscF_ch (T u : Red.F4) (h : dt u * dt u = 1) : dscF (ch T u) = dscF T := Red.dsc_ch h
/-- The same forms. -/
theorem got_fl {α β : Int} (hα : Sg α) (hβ : Sg β) {s : Bool} {T : Red.F4} {xs : List Red.F4} (h : Got s (fl α β T) (uni 81) xs) : Got s T (uni 81) xs := by
  refine ⟨h.1, fun q => (h.2 q).trans ?_⟩
  constructor
  · rintro ⟨u, h1, h2, h3⟩
    obtain ⟨k1, k2⟩ := uni_mem (Nat.le_refl _) h1
    rw [ch_fl hα hβ] at h2 h3
    exact ⟨_, uni_has (sgn_sm hα hβ k1) (sgn_dt hα hβ k2), h2, h3⟩
  · rintro ⟨u, h1, h2, h3⟩
    obtain ⟨k1, k2⟩ := uni_mem (Nat.le_refl _) h1
    refine ⟨_, uni_has (sgn_sm hα hβ k1) (sgn_dt hα hβ k2), ?_⟩
    rw [ch_fl hα hβ, sgn_sgn hα hβ]
    exact ⟨h2, h3⟩
/-- The first of them is the normal form. -/
theorem got_nrm {s : Bool} {T : Red.F4} {xs : List Red.F4} (h : Got s T (uni 81) xs) (hr : Red.rdF s T = true) : xs[0]? = some (nrm s T) := by
  have h0 : T ∈ xs := (h.2 T).2 ⟨(1, 0, 0, 1), uni_has (by unfold Sm; decide) (by decide), by rw [ch_one]; exact hr, ch_one T⟩
  cases xs with
  | nil => cases h0
  | cons x r =>
    have hm : mn (x :: r) = x := mn_eq (by simp) (by simp) (fun y hy => by
      rcases List.mem_cons.1 hy with rfl | hy
      · exact Ls.irrefl _
      · exact Ls.asymm ((List.pairwise_cons.1 h.1).1 y hy))
    have hn : mn (x :: r) = nrm s T := by
      unfold nrm
      refine mn_set (by simp) fun q => ?_
      rw [h.2 q]
      simp only [List.mem_map, List.mem_filter]
      constructor
      · rintro ⟨u, h1, h2, h3⟩; exact ⟨u, ⟨h1, h2⟩, h3⟩
      · rintro ⟨u, ⟨h1, h2⟩, h3⟩; exact ⟨u, h1, h2, h3⟩
    rw [← hn, hm]; rfl
theorem mm_fl {α β : Int} (M u : Red.F4) : mm (wf α β M) u = mm M (sgn α β u) := by
  unfold mm wf sgn
  dsimp only
  have e : ∀ x y p r : Int, mp (wrap64 (α * x)) p (wrap64 (β * y)) r = mp x (α * p) y (β * r) := fun x y p r => by
    rw [wmp2, wmp]; congr 1; grind
  rw [e, e, e, e]
/-- The same ways, in some order. -/
theorem wys_fl {α β : Int} (hα : Sg α) (hβ : Sg β) (T M q : Red.F4) : (wys (fl α β T) (wf α β M) (uni 81) q).Perm (wys T M (uni 81) q) := by
  have h1 : wys (fl α β T) (wf α β M) (uni 81) q = (((uni 81).map (sgn α β)).filter fun u => decide (ch T u = q)).map (mm M) := by
    unfold wys
    rw [List.filter_map, List.map_map]
    have e1 : (mm M ∘ sgn α β) = mm (wf α β M) := by funext u; exact (mm_fl M u).symm
    have e2 : ((fun u => decide (ch T u = q)) ∘ sgn α β) = fun u => decide (ch (fl α β T) u = q) := by funext u; simp only [Function.comp]; rw [ch_fl hα hβ]
    rw [e1, e2]
  have h2 : ((uni 81).map (sgn α β)).Perm (uni 81) := by
    refine (List.perm_ext_iff_of_nodup ?_ (uni_nodup (Nat.le_refl _))).2 fun u => ?_
    · refine List.Pairwise.map (sgn α β) (fun x y (hne : x ≠ y) e => ?_) (uni_nodup (Nat.le_refl _))
      have := congrArg (sgn α β) e
      rw [sgn_sgn hα hβ, sgn_sgn hα hβ] at this
      exact hne this
    · rw [List.mem_map]
      constructor
      · rintro ⟨v, h3, rfl⟩
        obtain ⟨k1, k2⟩ := uni_mem (Nat.le_refl _) h3
        exact uni_has (sgn_sm hα hβ k1) (sgn_dt hα hβ k2)
      · intro h3
        obtain ⟨k1, k2⟩ := uni_mem (Nat.le_refl _) h3
        exact ⟨_, uni_has (sgn_sm hα hβ k1) (sgn_dt hα hβ k2), sgn_sgn hα hβ u⟩
  rw [h1]
  unfold wys
  exact (h2.filter _).map _
end Rd

end Go.Proofs.Ytipeeljapmiciaa

/- Chapter 2: the model's l02Normal, l02To. -/
namespace Go.Proofs.Ytipeeljapmiciaa
open Go.RowKit

set_option maxRecDepth 100000 in
set_option maxHeartbeats 4000000 in
theorem sNormal_any (a b c d : Int) (s : Bool) (T M N : Red.F4) (hU : Red.UB T) (hs : ∀ u, Rd.Sm u → Rd.dt u * Rd.dt u = 1 → decide (0 < dsc (Rd.ch T u).1 (Rd.ch T u).2.1 (Rd.ch T u).2.2.1 (Rd.ch T u).2.2.2) = s)
    (hN : ∀ xs, Rd.Got s T (Rd.uni 81) xs → xs[0]? = some N)
    (hR : ∀ w, Calls Try.prog 45 #[.agg #[.int .i64 a, .int .i64 b, .int .i64 c, .int .i64 d]] w fun e w' => e = .returned (.tuple #[vF T, vF M]) ∧ Below w.heap.size w w') (w : World) :
    Calls Try.prog 40 #[.agg #[.int .i64 a, .int .i64 b, .int .i64 c, .int .i64 d]] w fun e w' => e = .returned (vF N) ∧ Below w.heap.size w w' := by
  have HF := hid (fun W => sForms_any s T hU hs W)
  have HR := hid hR; have HN := hid hN
  clear hU hs hR hN
  obtain ⟨ta, tb, tc, td⟩ := T
  obtain ⟨ma, mb, mc, md⟩ := M
  obtain ⟨n0, n1, n2, n3⟩ := N
  unfold vF at HR HF ⊢
  dsimp only at HR HF ⊢
  have A0 := (Arr.new w a b c d 23).alloc (.cells #[.int .i64 0, .int .i64 0, .int .i64 0, .int .i64 0] 23)
  have B0 := Arr.new (w.alloc (.cells #[.int .i64 a, .int .i64 b, .int .i64 c, .int .i64 d] 23)) 0 0 0 0 23
  have U0 := gr_alloc (gr_alloc (Below.refl w.heap.size w) (.cells #[.int .i64 a, .int .i64 b, .int .i64 c, .int .i64 d] 23)) (.cells #[.int .i64 0, .int .i64 0, .int .i64 0, .int .i64 0] 23)
  simp only [World.size_alloc] at B0
  go_enter Try.func40, Try.ntmps40
  obtain ⟨_, a0, a1, a2, a3, _⟩ := id A0
  go_wp2_with fail
  generalize (w.alloc (.cells #[.int .i64 a, .int .i64 b, .int .i64 c, .int .i64 d] 23)).alloc (.cells #[.int .i64 0, .int .i64 0, .int .i64 0, .int .i64 0] 23) = W0 at A0 B0 U0 ⊢
  refine (HR.out _).mono ?_
  rintro e w1 ⟨rfl, hb1⟩
  have B1 := B0.next hb1; have U1 := gr_trans U0 hb1
  clear a0 a1 a2 a3 A0 B0 U0 hb1
  have T2 := (Arr.new w1 ta tb tc td 23).alloc (.cells #[.int .i64 ma, .int .i64 mb, .int .i64 mc, .int .i64 md] 34)
  have B2 := (B1.alloc (.cells #[.int .i64 ta, .int .i64 tb, .int .i64 tc, .int .i64 td] 23)).alloc (.cells #[.int .i64 ma, .int .i64 mb, .int .i64 mc, .int .i64 md] 34)
  have U2 := gr_alloc (gr_alloc U1 (.cells #[.int .i64 ta, .int .i64 tb, .int .i64 tc, .int .i64 td] 23)) (.cells #[.int .i64 ma, .int .i64 mb, .int .i64 mc, .int .i64 md] 34)
  go_upto_region 2 with fail
  generalize hj : w1.heap.size = j at *
  generalize (w1.alloc (.cells #[.int .i64 ta, .int .i64 tb, .int .i64 tc, .int .i64 td] 23)).alloc (.cells #[.int .i64 ma, .int .i64 mb, .int .i64 mc, .int .i64 md] 34) = W2 at T2 B2 U2 ⊢
  clear hj B1 U1
  obtain ⟨_, c0, c1, c2, c3, _⟩ := id T2
  go_wp2_with fail
  refine (HF.out _).mono ?_
  rintro e w3 ⟨g, n, cap, xs, rfl, hgot, hlen, hrow, hb3⟩
  have hx := HN.out xs hgot
  have hrd := hrow.rda
  have hat := hrd.1.at4 0 _ hx
  have hnl : 0 < n := by rw [hrd.2]; exact (List.getElem?_eq_some_iff.1 hx).1
  have hle := hrd.1.le
  have hmx := hrd.1.mx
  unfold maxLen at hmx
  rw [← hrd.2] at hle
  have B3 := B2.next hb3; have U3 := gr_trans U2 hb3
  clear c0 c1 c2 c3 T2 B2 U2 hb3 hgot hlen hrow hx hrd
  simp only [Nat.zero_mul] at hat
  obtain ⟨_, c0, c1, c2, c3⟩ := id hat
  simp only [Nat.zero_add] at c1 c2 c3
  obtain ⟨_, d0, d1, d2, d3, f0, f1, f2, f3⟩ := id B3
  have hn0 : (0 : Int) < (n : Int) := by omega
  go_wp2_with fail
  refine bodyPost_ret (res_A1 (e := 2) rfl Try.underlying23 (by kernel_rfl) rfl (Arr.store4 B3.box)) rfl ?_
  exact ⟨rfl, by (repeat' (first | with_reducible exact Below.refl _ _ | with_reducible assumption | with_reducible refine gr_alloc ?_ _ | with_reducible refine gr_drew ?_ | with_reducible refine gr_drewN ?_ _ | with_reducible refine gr_trans ?_ (by assumption) | with_reducible refine gr_set ?_ ?_ _ | (simp; done) | omega | (simp; omega)))⟩

end Go.Proofs.Ytipeeljapmiciaa
