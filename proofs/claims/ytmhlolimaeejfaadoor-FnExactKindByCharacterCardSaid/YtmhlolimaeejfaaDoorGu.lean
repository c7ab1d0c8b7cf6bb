/- Chapter 5: rational roots, the two lists are one. -/
import Derived.Test.YtmhlolimaeejfaaDoorZ12
import Derived.Test.YtmhlolimaeejfaaDoorZ13
import Derived.Test.YtmhlolimaeejfaaDoorGs
namespace Go.Proofs.YtmhlolimaeejfaaDoor
open Go.RowKit

theorem flS_abs (F L n : Int) : flS ((F.natAbs : Int), (L.natAbs : Int)) n = (((fsS F n).natAbs : Int), ((fsS n L).natAbs : Int)) := by
  unfold flS fsS
  by_cases hn : n = 0
  · subst hn
    by_cases hF : F = 0
    · subst hF; simp
    · simp [hF]
  · by_cases hF : F = 0
    · subst hF; simp [hn]
    · simp [hn, hF]
theorem fsS_as (a b c d : Int) : fsS d (fsS c (fsS b (fsS a 0))) = fsS (fsS (fsS d c) b) a := by
  unfold fsS
  by_cases hd : d = 0 <;> by_cases hc : c = 0 <;> by_cases hb : b = 0 <;> by_cases ha : a = 0 <;> simp [hd, hc, hb, ha]
theorem flK_abs (a b c d : Int) : flK a b c d 4 = (((fsK a b c d 4).natAbs : Int), ((lsK a b c d 3).natAbs : Int)) := by
  have h0 : ((0 : Int), (0 : Int)) = (((0 : Int).natAbs : Int), ((0 : Int).natAbs : Int)) := by simp
  show flS (flS (flS (flS (0, 0) a) b) c) d = _
  rw [h0, flS_abs, flS_abs, flS_abs, flS_abs, fsS_as, fsS_0]
  rfl
theorem fsS_z {F n : Int} (h : fsS F n = 0) : F = 0 ∧ n = 0 := by
  unfold fsS at h
  split at h
  · rename_i h'; exact ⟨h', h⟩
  · rename_i h'; exact absurd h h'
theorem nz_f {a b c d : Int} (hN : mul0 (cnt a b c d) 0 = false) : fsK a b c d 4 ≠ 0 := fun h => by
  obtain ⟨h, hd⟩ := fsS_z (F := fsS (fsS a b) c) (n := d) h
  obtain ⟨h, hc⟩ := fsS_z h
  obtain ⟨h, hb⟩ := fsS_z h
  subst h hb hc hd
  simp [mul0, cnt] at hN
theorem nz_l {a b c d : Int} (hN : mul0 (cnt a b c d) 0 = false) : lsK a b c d 3 ≠ 0 := fun h => by
  obtain ⟨h, ha⟩ := fsS_z (F := fsS (fsS d c) b) (n := a) h
  obtain ⟨h, hb⟩ := fsS_z h
  obtain ⟨h, hc⟩ := fsS_z h
  subst h ha hb hc
  simp [mul0, cnt] at hN
/-- The numbers 1, .., l. -/
def upl (l : Nat) : List Int := (List.range l).map fun j : Nat => (j : Int) + 1
theorem dvK_upl (l : Nat) : dvK l l = (upl l).filter fun y => (l : Int) % y == 0 := rfl
theorem mem_upl {l : Nat} {x : Int} (h : x ∈ upl l) : 1 ≤ x ∧ x ≤ l := by
  obtain ⟨j, hj, rfl⟩ := List.mem_map.1 h
  have := List.mem_range.1 hj
  omega
theorem rng_split (l : Nat) : ((List.range (2 * l + 1)).map fun j : Nat => (j : Int) - l) = (upl l).reverse.map (fun z => -z) ++ [0] ++ upl l := by
  rw [show 2 * l + 1 = l + 1 + l by omega, List.range_add, List.map_append, List.range_succ, List.map_append]
  congr 1
  · congr 1
    · refine List.ext_getElem (by simp [upl]) fun i h1 h2 => ?_
      simp [upl]
      simp at h1
      omega
    · simp
  · unfold upl
    rw [List.map_map]
    refine List.map_congr_left fun j _ => ?_
    simp only [Function.comp_apply]
    omega
theorem fm_congr {α β : Type} {F G : α → List β} : ∀ {X : List α}, (∀ x, x ∈ X → F x = G x) → X.flatMap F = X.flatMap G := by
  intro X
  induction X with
  | nil => intro _; rfl
  | cons x X ih =>
    intro h
    simp only [List.flatMap_cons]
    rw [h x (by simp), ih fun y hy => h y (by simp [hy])]
theorem fm_filter {α β γ : Type} (s : α → β) (p : β → Bool) (h : β → List γ) : ∀ X : List α, ((X.map s).filter p).flatMap h = X.flatMap fun j => if p (s j) = true then h (s j) else [] := by
  intro X
  induction X with
  | nil => rfl
  | cons x X ih =>
    simp only [List.map_cons, List.filter_cons, List.flatMap_cons]
    split <;> simp [ih]
theorem fm_map {β γ : Type} (q : β → Bool) (r : β → γ) : ∀ X : List β, (X.filter q).map r = X.flatMap fun z => if q z = true then [r z] else [] := by
  intro X
  induction X with
  | nil => rfl
  | cons x X ih =>
    simp only [List.filter_cons, List.flatMap_cons]
    split <;> simp [ih]
theorem fm_ff {β γ : Type} (p q : β → Bool) (r : β → γ) (X : List β) : ((X.filter p).filter q).map r = X.flatMap fun z => if (p z && q z) = true then [r z] else [] := by
  rw [List.filter_filter, fm_map]
  refine congrArg (fun F => X.flatMap F) ?_
  funext z
  rw [Bool.and_comm]
/-- The row at a place. -/
def rwg (L : List Int) (q : Int × Int) : List (List Int) := (rt1 0 L q).map rw2
theorem rwg_xy {a b c d x y : Int} (ha : -1000 ≤ a ∧ a ≤ 1000) (hb : -1000 ≤ b ∧ b ≤ 1000) (hc : -1000 ≤ c ∧ c ≤ 1000) (hd : -1000 ≤ d ∧ d ≤ 1000) (hx : -1000 ≤ x ∧ x ≤ 1000) (hy : 1 ≤ y) (hy' : y ≤ 1000) (hg : Int.gcd x y = 1) (hN : mul0 (cnt a b c d) 0 = false) :
    rwg [a, b, c, d] (x, y) = if (vl a b c d x y == 0) = true then [[x, y]] else [] := by
  have hv := vx_bd (A := 1000) (B := 1000) ha hb hc hd hx (by omega : -1000 ≤ y ∧ y ≤ 1000)
  have e : vl a b c d x y = vx a b c d x y := by rw [vl_wr, wr_in (by omega)]
  have h := (stp_r ha hb hc hd hx hy hy' hg hN).2
  unfold rwg rt1
  rw [e]
  by_cases hz : vx a b c d x y = 0
  · have hm : mlt 0 x y 4 [a, b, c, d] ≠ 0 := fun h' => (h.1 h') hz
    simp [hm, hz, rw2]
  · simp [h.2 hz, hz]
theorem rwg_10 {a b c d : Int} (ha : -1000 ≤ a ∧ a ≤ 1000) (hb : -1000 ≤ b ∧ b ≤ 1000) (hc : -1000 ≤ c ∧ c ≤ 1000) (hd : -1000 ≤ d ∧ d ≤ 1000) (hN : mul0 (cnt a b c d) 0 = false) : rwg [a, b, c, d] (1, 0) = m0r a := by
  have h := (mlt_0 ha hb hc hd hN).1
  have hmm : mmu 0 a b c d 1 0 = mm3 0 c b a := by simp [mmu]
  rw [hmm] at h
  unfold rwg rt1 m0r
  by_cases hz : a = 0
  · have hm : mlt 0 1 0 4 [a, b, c, d] ≠ 0 := by
      rw [h]
      have h3 : (a.tmod 0 == 0) = true := by simp [hz]
      cases h4 : (b.tmod 0 == 0) with
      | false => rw [mmF2 h3 h4]; decide
      | true =>
        cases h5 : (c.tmod 0 == 0) with
        | false => rw [mmF1 h3 h4 h5]; decide
        | true => rw [mmF0 h3 h4 h5]; decide
    rw [if_neg hm]
    simp [hz, rw2]
  · have hm : mlt 0 1 0 4 [a, b, c, d] = 0 := by
      rw [h]; exact mmF3 (by simp [hz])
    rw [if_pos hm]
    simp [hz]
theorem row_y {a b c d y : Int} {l : Nat} (ha : -1000 ≤ a ∧ a ≤ 1000) (hb : -1000 ≤ b ∧ b ≤ 1000) (hc : -1000 ≤ c ∧ c ≤ 1000) (hd : -1000 ≤ d ∧ d ≤ 1000) (hy : 1 ≤ y) (hy' : y ≤ 1000) (hl : l ≤ 1000) (hN : mul0 (cnt a b c d) 0 = false) :
    (prY y (xsK l y (2 * (l : Int) + 1).toNat)).flatMap (rwg [a, b, c, d]) = mY a b c d (dvK l l) y := by
  have e1 : (2 * (l : Int) + 1).toNat = 2 * l + 1 := by omega
  have hF : ∀ x : Int, -1000 ≤ x ∧ x ≤ 1000 → (if ((x == 0 || (l : Int) % x == 0) && ((Int.gcd x y : Int) == 1)) = true then rwg [a, b, c, d] (x, y) else []) = if (((x == 0 || (l : Int) % x == 0) && ((Int.gcd x y : Int) == 1)) && (vl a b c d x y == 0)) = true then [[x, y]] else [] := by
    intro x hx
    by_cases h : ((x == 0 || (l : Int) % x == 0) && ((Int.gcd x y : Int) == 1)) = true
    · have hg : Int.gcd x y = 1 := by
        simp only [Bool.and_eq_true, beq_iff_eq] at h
        omega
      rw [if_pos h, rwg_xy ha hb hc hd hx hy hy' hg hN, h]
      simp
    · rw [if_neg h]
      have h' : ((x == 0 || (l : Int) % x == 0) && ((Int.gcd x y : Int) == 1)) = false := by simpa using h
      rw [h']; simp
  unfold prY xsK
  rw [e1, List.flatMap_map, rng_split, List.filter_append, List.filter_append, List.flatMap_append, List.flatMap_append]
  unfold mY
  have hid' : ∀ X : List Int, (X.filter fun x => (x == 0 || (l : Int) % x == 0) && ((Int.gcd x y : Int) == 1)).flatMap (fun x => rwg [a, b, c, d] (x, y)) = X.flatMap fun x => if ((x == 0 || (l : Int) % x == 0) && ((Int.gcd x y : Int) == 1)) = true then rwg [a, b, c, d] (x, y) else [] := by
    intro X
    have := fm_filter (fun x : Int => x) (fun x => (x == 0 || (l : Int) % x == 0) && ((Int.gcd x y : Int) == 1)) (fun x => rwg [a, b, c, d] (x, y)) X
    simpa using this
  rw [hid', hid', hid']
  congr 1
  · congr 1
    · unfold mN
      rw [List.drop_zero, dvK_upl, ← List.filter_reverse, fm_ff, List.flatMap_map]
      refine fm_congr fun z hz => ?_
      obtain ⟨h1, h2⟩ := mem_upl (List.mem_reverse.1 hz)
      rw [hF (-z) (by omega)]
      have q1 : (-z == 0) = false := by simp; omega
      have q2 : (l : Int) % -z = (l : Int) % z := Int.emod_neg _ _
      have q3 : Int.gcd (-z) y = Int.gcd z y := by first | exact Int.neg_gcd | exact Int.gcd_neg_left .. | simp
      rw [q1, q2, q3]
      unfold cnd
      simp [Bool.and_assoc]
    · simp only [List.flatMap_cons, List.flatMap_nil, List.append_nil]
      rw [hF 0 (by omega)]
      unfold mZ
      have q1 : Int.gcd 0 y = y.natAbs := Int.gcd_zero_left y
      by_cases h1 : y = 1
      · subst h1
        have e : vl a b c d 0 1 = d := by
          rw [vl_wr]; simp only [vx]; rw [wr_in (by simp; omega)]; simp
        rw [e]
        simp
      · have q2 : (((y.natAbs : Nat) : Int) == 1) = false := by simp; omega
        have q3 : (y == 1) = false := by simpa using h1
        rw [q1, q2, q3]; simp
  · unfold mP
    rw [List.take_length, dvK_upl, fm_ff]
    refine fm_congr fun z hz => ?_
    obtain ⟨h1, h2⟩ := mem_upl hz
    rw [hF z (by omega)]
    have q1 : (z == 0) = false := by simp; omega
    rw [q1]
    unfold cnd
    simp [Bool.and_assoc]
theorem rr_list {a b c d : Int} (ha : -1000 ≤ a ∧ a ≤ 1000) (hb : -1000 ≤ b ∧ b ≤ 1000) (hc : -1000 ≤ c ∧ c ≤ 1000) (hd : -1000 ≤ d ∧ d ≤ 1000) (hN : mul0 (cnt a b c d) 0 = false) :
    (rrt a b c d).map rw2 = mK a b c d (dvK (fN a b c d) (fN a b c d)) (dvK (lN a b c d) (lN a b c d)) (dvK (fN a b c d) (fN a b c d)).length := by
  obtain ⟨_, hf, hl⟩ := flK_N ha hb hc hd
  unfold rrt rts rpl rpK mK
  generalize fN a b c d = f at hf ⊢
  generalize lN a b c d = l at hl ⊢
  rw [List.map_flatMap, List.flatMap_cons, List.take_length]
  have h10 : (rt1 0 [a, b, c, d] (1, 0)).map rw2 = m0r a := rwg_10 ha hb hc hd hN
  rw [h10, List.flatMap_assoc]
  congr 1
  rw [show dvK f f = ((List.range f).map fun j : Nat => (j : Int) + 1).filter fun y => (f : Int) % y == 0 from rfl, fm_filter]
  refine fm_congr fun j hj => ?_
  have hj' := List.mem_range.1 hj
  unfold rpY
  split
  · exact row_y ha hb hc hd (by omega) (by omega) hl hN
  · rfl


end Go.Proofs.YtmhlolimaeejfaaDoor
