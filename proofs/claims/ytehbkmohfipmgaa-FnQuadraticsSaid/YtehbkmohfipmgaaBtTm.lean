/- Chapter 10: classes are a group; orders divide numbers of classes; third roots. Mathematics alone. -/
import Derived.Test.YtehbkmohfipmgaaBtZ14
import Derived.Test.YtehbkmohfipmgaaBtZa
namespace Go.Proofs.Ytehbkmohfipmgaa
open Go.RowKit

theorem coprime_eqv {D : Int} {r : Qd} (hr : El D r) (n : Int) (hn : 1 ≤ n) : ∃ r', Eqv r r' ∧ 1 ≤ r'.1 ∧ dsq r' = D ∧ Pri r' ∧ Int.gcd r'.1 n = 1 := by
  obtain ⟨j, k, hg⟩ := prim_val hr.pr n.toNat (by omega)
  rw [Int.toNat_of_nonneg (by omega)] at hg
  obtain ⟨e1, e2⟩ := chg_val (t := r) j k
  obtain ⟨r', hr'⟩ : ∃ r', r' = chg r (1 + j * k) j k 1 := ⟨_, rfl⟩
  rw [← hr'] at e1 e2
  have hd : dsq r' = D := e2.dsq.trans hr.ds
  have hp : 1 ≤ r'.1 := by
    rw [e1]
    refine val_pos hr.pos ?_
    by_cases hk : k = 0
    · left; subst hk; simp
    · right; exact hk
  rw [← e1] at hg
  exact ⟨r', e2, hp, hd, hr.pr.eqv e2, hg⟩
theorem eqv_cp {D : Int} {x y m : Qd} (hx : El D x) (hy : El D y) (h : Cmp x y m) : Eqv m (cp x y) := by
  obtain ⟨_, _, f, h2, h3⟩ := hx.comp hy
  exact (h.uniq hx.pr h2).trans h3
theorem cp_of {D : Int} {x y m F : Qd} (hx : Pri x) (he : Eqv m x) (hp : Pos D F) (hc : Cmp m y F) : cp x y = red F :=
  Cpd.cp hx ⟨rdd_red hp, F, hc.left he, Eqv.red F⟩
theorem El.assoc {D : Int} {x y z : Qd} (hx : El D x) (hy : El D y) (hz : El D z) : cp (cp x y) z = cp x (cp y z) := by
  have hx1 : 1 ≤ x.1 := hx.rd.1
  obtain ⟨y', ey, py, dy, qy, gy⟩ := coprime_eqv hy x.1 hx1
  have hxy : 1 ≤ x.1 * y'.1 := by
    have : 1 * 1 ≤ x.1 * y'.1 := Int.mul_le_mul hx1 py (by omega) (by omega)
    omega
  obtain ⟨z', ez, pz, dz, qz, gz⟩ := coprime_eqv hz (x.1 * y'.1) hxy
  obtain ⟨t, _, l, hl⟩ := middle py hx.ds dy gy
  obtain ⟨c12, h12, d12, p12⟩ := unite hx1 py hx.ds dy gy t l rfl hl
  obtain ⟨m, hm⟩ : ∃ m : Qd, m = (x.1 * y'.1, x.2.1 + 2 * x.1 * t, c12) := ⟨_, rfl⟩
  have hm1 : m.1 = x.1 * y'.1 := by rw [hm]
  have hm2 : m.2.1 = x.2.1 + 2 * x.1 * t := by rw [hm]
  have dm : dsq m = D := by rw [hm]; exact d12
  rw [← hm] at h12
  have gz' : Int.gcd z'.1 m.1 = 1 := by rw [hm1]; exact gz
  obtain ⟨t', _, l', hl'⟩ := middle pz dm dz gz'
  obtain ⟨c, h3, d3, _⟩ := unite (by omega) pz dm dz gz' t' l' rfl hl'
  obtain ⟨b, hb⟩ : ∃ b, b = m.2.1 + 2 * m.1 * t' := ⟨_, rfl⟩
  rw [← hb] at h3 d3 hl'
  have hyz : Int.gcd z'.1 y'.1 = 1 := by
    obtain ⟨u, v, huv⟩ := gcd_one.1 gz
    exact gcd_one.2 ⟨u, v * x.1, by rw [← huv]; grind⟩
  have hb1 : b = y'.2.1 + 2 * y'.1 * (l + x.1 * t') := by rw [hb, hm1, hm2, hl]; grind
  obtain ⟨c', h4, d4, _⟩ := unite py pz dy dz hyz (l + x.1 * t') l' hb1 hl'
  have hyz1 : 1 ≤ y'.1 * z'.1 := by
    have : 1 * 1 ≤ y'.1 * z'.1 := Int.mul_le_mul py pz (by omega) (by omega)
    omega
  have gx : Int.gcd (y'.1 * z'.1) x.1 = 1 := by
    obtain ⟨u, v, huv⟩ := gcd_one.1 gy
    obtain ⟨u', v', huv'⟩ := gcd_one.1 gz
    refine gcd_one.2 ⟨u * u', v + u * y'.1 * v' * y'.1, ?_⟩
    have e1 : u * y'.1 * (u' * z'.1 + v' * (x.1 * y'.1)) + v * x.1 = 1 := by rw [huv']; omega
    rw [← e1]; grind
  have hb2 : b = x.2.1 + 2 * x.1 * (t + y'.1 * t') := by rw [hb, hm1, hm2]; grind
  obtain ⟨n, hn⟩ : ∃ n : Qd, n = (y'.1 * z'.1, b, c') := ⟨_, rfl⟩
  have hn1 : n.1 = y'.1 * z'.1 := by rw [hn]
  have hn2 : n.2.1 = b := by rw [hn]
  have dn : dsq n = D := by rw [hn]; exact d4
  rw [← hn] at h4
  obtain ⟨c'', h5, d5, _⟩ := unite (q := x) (r := n) (b := b) hx1 (by omega) hx.ds dn (by rw [hn1]; exact gx) (t + y'.1 * t') 0 hb2 (by rw [hn2]; omega)
  have e0 : x.1 * n.1 = m.1 * z'.1 := by rw [hn1, hm1, Int.mul_assoc]
  rw [e0] at h5 d5
  have hmz : 1 ≤ m.1 * z'.1 := by
    have : 1 * 1 ≤ m.1 * z'.1 := Int.mul_le_mul (by omega) pz (by omega) (by omega)
    omega
  have ec : c'' = c := by
    have : 4 * (m.1 * z'.1) * c'' = 4 * (m.1 * z'.1) * c := by omega
    exact Int.eq_of_mul_eq_mul_left (by omega) this
  subst ec
  have hF : Pos D (m.1 * z'.1, b, c'') := ⟨hmz, d3, hx.ng⟩
  have exy := eqv_cp hx hy (h12.right ey.symm)
  have eyz := eqv_cp hy hz ((h4.left ey.symm).right ez.symm)
  rw [cp_of (hx.comp hy).1.pr exy hF (h3.right ez.symm)]
  exact (cp_of hx.pr (Eqv.refl x) hF (h5.right eyz)).symm
theorem El.cp_un {D : Int} {c : Qd} (hc : El D c) : cp c (un D) = c := by rw [El.comm hc (un_el' hc)]; exact un_cp hc
/-- Steps of a function. -/
def it {α : Type} (φ : α → α) : Nat → α → α
  | 0, x => x
  | k + 1, x => φ (it φ k x)
theorem it_add {α : Type} (φ : α → α) (a b : Nat) (x : α) : it φ (a + b) x = it φ a (it φ b x) := by
  induction a with
  | zero => simp [it]
  | succ a ih => rw [Nat.succ_add]; simp only [it, ih]
theorem it_mul {α : Type} {φ : α → α} {m : Nat} {x : α} (h : it φ m x = x) : ∀ k, it φ (m * k) x = x := by
  intro k
  induction k with
  | zero => rfl
  | succ k ih => rw [Nat.mul_succ, it_add, h, ih]
theorem it_mod {α : Type} {φ : α → α} {m : Nat} {x : α} (h : it φ m x = x) (k : Nat) : it φ k x = it φ (k % m) x := by
  have e := it_add φ (k % m) (m * (k / m)) x
  rw [Nat.mod_add_div, it_mul h] at e
  exact e
theorem fl_len {α : Type} (p : α → Bool) (L : List α) : L.length = (L.filter p).length + (L.filter (fun y => !p y)).length := by
  induction L with
  | nil => rfl
  | cons a L ih =>
    simp only [List.filter_cons, List.length_cons]
    cases p a <;> simp <;> omega
/-- A list that falls into cycles of one length. -/
theorem cyc {α : Type} [DecidableEq α] (φ : α → α) (m : Nat) (hm : 1 ≤ m) : ∀ (n : Nat) (L : List α), L.length = n → L.Nodup → (∀ x ∈ L, φ x ∈ L) → (∀ x ∈ L, it φ m x = x) → (∀ x ∈ L, ∀ j, 1 ≤ j → j < m → it φ j x ≠ x) → m ∣ n := by
  intro n
  induction n using Nat.strongRecOn with
  | ind n ih =>
    intro L hl hnd hcl hid hne
    cases L with
    | nil => simp at hl; subst hl; exact Nat.dvd_zero _
    | cons x T =>
      obtain ⟨L, hL⟩ : ∃ L, L = x :: T := ⟨_, rfl⟩
      rw [← hL] at hl hnd hcl hid hne
      have hx : x ∈ L := by rw [hL]; simp
      have hin : ∀ k, it φ k x ∈ L := by
        intro k
        induction k with
        | zero => exact hx
        | succ k ihk => exact hcl _ ihk
      obtain ⟨O, hO⟩ : ∃ O, O = (List.range m).map (fun k => it φ k x) := ⟨_, rfl⟩
      have hOm : ∀ k, it φ k x ∈ O := by
        intro k
        rw [it_mod (hid x hx) k, hO]
        exact List.mem_map.2 ⟨k % m, List.mem_range.2 (Nat.mod_lt _ (by omega)), rfl⟩
      have hOe : ∀ y ∈ O, ∃ k, y = it φ k x := by
        intro y hy
        rw [hO] at hy
        obtain ⟨k, _, rfl⟩ := List.mem_map.1 hy
        exact ⟨k, rfl⟩
      have hsep : ∀ i j, i < j → j < m → it φ i x ≠ it φ j x := by
        intro i j hij hj e
        have e1 : it φ (m - i) (it φ i x) = x := by rw [← it_add, show m - i + i = m by omega]; exact hid x hx
        rw [e, ← it_add, show m - i + j = (j - i) + m by omega, it_add, hid x hx] at e1
        exact hne x hx (j - i) (by omega) (by omega) e1
      have hOnd : O.Nodup := by
        rw [hO]
        unfold List.Nodup
        rw [List.pairwise_map]
        refine List.Pairwise.imp_of_mem ?_ (List.pairwise_lt_range (n := m))
        intro a b ha hb hab
        exact hsep a b hab (List.mem_range.1 hb)
      have hOl : O.length = m := by rw [hO]; simp
      have hp : (L.filter (fun y => decide (y ∈ O))).Perm O := by
        refine (List.perm_ext_iff_of_nodup (hnd.filter _) hOnd).2 ?_
        intro y
        simp only [List.mem_filter, decide_eq_true_eq]
        refine ⟨fun h => h.2, fun h => ⟨?_, h⟩⟩
        obtain ⟨k, rfl⟩ := hOe y h
        exact hin k
      have hlen := fl_len (fun y => decide (y ∈ O)) L
      rw [hp.length_eq, hOl, hl] at hlen
      have hsub : m ∣ (L.filter (fun y => !decide (y ∈ O))).length := by
        refine ih _ (by omega) (L.filter (fun y => !decide (y ∈ O))) rfl (hnd.filter _) ?_ ?_ ?_
        · intro y hy
          simp only [List.mem_filter, Bool.not_eq_true', decide_eq_false_iff_not] at hy ⊢
          refine ⟨hcl y hy.1, fun hφ => hy.2 ?_⟩
          obtain ⟨k, hk⟩ := hOe _ hφ
          have : y = it φ (m - 1 + k) x := by
            rw [it_add, ← hk]
            have := it_add φ (m - 1) 1 y
            rw [show m - 1 + 1 = m by omega, hid y hy.1] at this
            exact this
          rw [this]
          exact hOm _
        · intro y hy
          exact hid y (List.mem_filter.1 hy).1
        · intro y hy
          exact hne y (List.mem_filter.1 hy).1
      rw [hlen]
      exact Nat.dvd_add (Nat.dvd_refl m) hsub
/-- The classes of a discriminant are all elements, each once. -/
theorem kkn_ex (N : Nat) : ∃ k : Nat, 3 * (k : Int) * k ≤ N ∧ (N : Int) < 3 * ((k : Int) + 1) * (k + 1) := by
  induction N with
  | zero => exact ⟨0, by simp, by simp⟩
  | succ N ih =>
    obtain ⟨k, h1, h2⟩ := ih
    by_cases h : ((N : Int) + 1) < 3 * ((k : Int) + 1) * (k + 1)
    · exact ⟨k, by push_cast; omega, by push_cast; exact h⟩
    · refine ⟨k + 1, by push_cast; omega, ?_⟩
      push_cast
      have : 3 * ((k : Int) + 1 + 1) * ((k : Int) + 1 + 1) = 3 * ((k : Int) + 1) * (k + 1) + 6 * k + 9 := by grind
      omega
theorem Kk.ex {d : Int} (hd : d < 0) : ∃ k : Nat, Kk d k := by
  obtain ⟨k, h1, h2⟩ := kkn_ex (-d).toNat
  exact ⟨k, by omega, by omega⟩
theorem cin_mem {d p : Int} : ∀ (j : Nat), ∀ c ∈ cin d p j, c.1 = p ∧ c.2.1 < 1 - p + j := by
  intro j
  induction j with
  | zero => intro c h; simp [cin] at h
  | succ j ih =>
    intro c h
    simp only [cin, List.mem_append] at h
    rcases h with h | h
    · obtain ⟨h1, h2⟩ := ih c h
      exact ⟨h1, by push_cast; omega⟩
    · split at h
      · have e : c = (p, 1 - p + (j : Int), thd p (1 - p + j) d) := by simpa using h
        subst e
        exact ⟨rfl, by show 1 - p + (j : Int) < _; push_cast; omega⟩
      · simp at h
theorem cin_nd {d p : Int} : ∀ (j : Nat), (cin d p j).Nodup := by
  intro j
  induction j with
  | zero => simp [cin]
  | succ j ih =>
    simp only [cin]
    refine List.nodup_append.2 ⟨ih, by split <;> simp, ?_⟩
    intro a ha b hb e
    subst e
    have h1 := (cin_mem j a ha).2
    split at hb
    · have e : a = (p, 1 - p + (j : Int), thd p (1 - p + j) d) := by simpa using hb
      rw [e] at h1
      have h1 : 1 - p + (j : Int) < 1 - p + j := h1
      omega
    · simp at hb
theorem cou_mem {d : Int} : ∀ (k : Nat), ∀ c ∈ cou d k, c.1 ≤ k := by
  intro k
  induction k with
  | zero => intro c h; simp [cou] at h
  | succ k ih =>
    intro c h
    simp only [cou, List.mem_append] at h
    rcases h with h | h
    · have := ih c h
      push_cast; omega
    · have := (cin_mem _ c h).1
      push_cast; omega
theorem cou_nd {d : Int} : ∀ (k : Nat), (cou d k).Nodup := by
  intro k
  induction k with
  | zero => simp [cou]
  | succ k ih =>
    simp only [cou]
    refine List.nodup_append.2 ⟨ih, cin_nd _, ?_⟩
    intro a ha b hb e
    subst e
    have h1 := cou_mem k a ha
    have h2 := (cin_mem _ a hb).1
    omega
theorem cls_nd {d : Int} (hd : d < 0) : (cls d).Nodup := by
  obtain ⟨k, hk⟩ := Kk.ex hd
  rw [hk.cls]
  exact cou_nd k
theorem el_ckb {d : Int} {c : Qd} (hc : El d c) : thd c.1 c.2.1 d = c.2.2 ∧ ckb d c.1 c.2.1 = true := by
  obtain ⟨p, q, r⟩ := c
  have hp : 1 ≤ p := hc.rd.1
  have hd : q * q - 4 * p * r = d := hc.ds
  have ht : thd p q d = r := by
    unfold thd
    have : q * q - d = 4 * p * r := by omega
    rw [this]
    exact Int.mul_tdiv_cancel_left _ (by omega)
  have hr : rdb p q r = true := hc.rd.2.2.2
  have hg : Int.gcd (Int.gcd p q) r = 1 := hc.pr
  refine ⟨ht, ?_⟩
  show ckb d p q = true
  simp only [ckb, ht, Bool.and_eq_true, decide_eq_true_eq, beq_iff_eq]
  exact ⟨hd, hr, by unfold cnt3; omega⟩
theorem cin_all {d p : Int} {c : Qd} (hc : El d c) (hp : c.1 = p) : ∀ j : Nat, c.2.1 < 1 - p + j → c ∈ cin d p j := by
  intro j
  induction j with
  | zero =>
    intro h
    have := hc.rd.2.1
    omega
  | succ j ih =>
    intro h
    simp only [cin, List.mem_append]
    by_cases h1 : c.2.1 < 1 - p + j
    · exact .inl (ih h1)
    · right
      have h2 : 1 - p + (j : Int) = c.2.1 := by push_cast at h; omega
      obtain ⟨h3, h4⟩ := el_ckb hc
      subst hp
      rw [h2, h4, h3]
      simp
theorem cou_all {d : Int} {c : Qd} (hc : El d c) : ∀ k : Nat, c.1 ≤ k → c ∈ cou d k := by
  intro k
  induction k with
  | zero =>
    intro h
    have := hc.rd.1
    omega
  | succ k ih =>
    intro h
    simp only [cou, List.mem_append]
    by_cases h1 : c.1 ≤ k
    · exact .inl (ih h1)
    · right
      have e : c.1 = (k : Int) + 1 := by push_cast at h; omega
      refine cin_all hc e _ ?_
      have := hc.rd.2.2.1
      push_cast; omega
theorem cls_all {d : Int} {c : Qd} (hc : El d c) : c ∈ cls d := by
  obtain ⟨k, hk⟩ := Kk.ex hc.ng
  rw [hk.cls]
  refine cou_all hc k ?_
  obtain ⟨p, q, r⟩ := c
  have h1 : 1 ≤ p := hc.rd.1
  have h2 : -p < q := hc.rd.2.1
  have h3 : q ≤ p := hc.rd.2.2.1
  have h4 : p ≤ r := hc.rd.le.1
  have hd : q * q - 4 * p * r = d := hc.ds
  show p ≤ k
  have h5 := sq_le (m := q) (p := p) (by omega) h3
  have h6 : p * p ≤ p * r := Int.mul_le_mul_of_nonneg_left h4 (by omega)
  have h8 : 4 * p * r = 4 * (p * r) := Int.mul_assoc _ _ _
  rcases Int.lt_or_le (k : Int) p with h | h
  · exfalso
    have h9 : ((k : Int) + 1) * (k + 1) ≤ p * p := Int.mul_le_mul h h (by omega) (by omega)
    have h10 := hk.2
    have h11 : 3 * ((k : Int) + 1) * (k + 1) = 3 * (((k : Int) + 1) * (k + 1)) := Int.mul_assoc _ _ _
    omega
  · exact h
theorem cls_head {d : Int} (hd : d < 0) (h4 : d % 4 < 2) : ∃ rest, cls d = un d :: rest := by
  have hu := un_el hd h4
  obtain ⟨k, hk⟩ := Kk.ex hd
  rw [hk.cls]
  have hk1 : 1 ≤ k := by
    rcases Nat.lt_or_ge k 1 with h | h
    · exfalso
      have e : k = 0 := by omega
      subst e
      have := hk.2
      simp at this
      omega
    · exact h
  have hpre : ∀ k : Nat, 1 ≤ k → ∃ rest, cou d k = cou d 1 ++ rest := by
    intro k
    induction k with
    | zero => intro h; omega
    | succ k ih =>
      intro _
      by_cases hk : k = 0
      · subst hk; exact ⟨[], by simp⟩
      · obtain ⟨rest, hr⟩ := ih (by omega)
        exact ⟨rest ++ cin d (k + 1) (2 * (k + 1)), by rw [← List.append_assoc, ← hr]; rfl⟩
  obtain ⟨rest, hr⟩ := hpre k hk1
  have hin : un d ∈ cou d 1 := cou_all hu 1 (Int.le_refl 1)
  have hall : ∀ c ∈ cou d 1, c = un d := fun c hc => el_one (cou_el hd 1 c hc) (by
    have h1 := cou_mem 1 c hc
    have h2 := (cou_el hd 1 c hc).rd.1
    omega)
  rw [hr]
  cases hq : cou d 1 with
  | nil => rw [hq] at hin; simp at hin
  | cons a T =>
    have := hall a (by rw [hq]; simp)
    rw [this]
    exact ⟨T ++ rest, rfl⟩

end Go.Proofs.Ytehbkmohfipmgaa
