/- Several texts in one: XIm, XFj2. -/
import Derived.Test.YtihcmgjfkiaelaaDoorSf
import Derived.Test.YtihcmgjfkiaelaaDoorYu
import Derived.Test.YtihcmgjfkiaelaaDoorZ5
import Derived.Deep.RegionHeld3

/- Chapter 9: what FnIdeals asks of the numbers. Mathematics; no Go function in sight. -/
namespace Go.Proofs.YtihcmgjfkiaelaaDoor
open Go.RowKit

theorem mu_swap (a b x : Int) : mu (mu a x) b = mu (mu a b) x := by
  unfold mu
  simp only [wr_ml]
  congr 1
  grind
theorem mu_assoc (a b x : Int) : mu a (mu b x) = mu (mu a b) x := by
  unfold mu
  simp only [wr_ml, wr_mr]
  congr 1
  grind
theorem pw_ex {q : Nat} (hq : 2 ≤ q) : ∀ n, 1 ≤ n → ∃ k u, n = q ^ k * u ∧ u % q ≠ 0 := by
  intro n
  induction n using Nat.strongRecOn with
  | ind n ih =>
    intro h
    by_cases hz : n % q = 0
    · obtain ⟨m, rfl⟩ := Nat.dvd_of_mod_eq_zero hz
      have hm : 1 ≤ m := Nat.pos_of_ne_zero fun e => by subst e; simp at h
      have h2 : 2 * m ≤ q * m := Nat.mul_le_mul_right _ hq
      obtain ⟨k, u, e, hu⟩ := ih m (by omega) hm
      exact ⟨k + 1, u, by rw [Nat.pow_succ, Nat.mul_comm (q ^ k) q, Nat.mul_assoc, ← e], hu⟩
    · exact ⟨0, n, by simp, hz⟩
theorem chf_s {v : Nat → Nat → Int} {n q k u : Nat} {N : List (Nat × Nat)} (h : Nod n N) (hq : Prm q) (e : n = q ^ k * u) (hu : u % q ≠ 0) : chf v (q + 1) N = if k = 0 then chf v q N else mu (chf v q N) (v q k) := by
  split
  · rename_i hk
    subst hk
    refine chq_same fun x hx ex => hu ?_
    have h1 := (h.prm x hx).2
    rw [ex, e, Nat.pow_zero, Nat.one_mul] at h1
    exact Nat.mod_eq_zero_of_dvd h1
  · exact chq_step h.asc (h.mem hq e hu (by omega))
theorem Nod.np {v : Nat → Nat → Int} {n q : Nat} {N : List (Nat × Nat)} (h : Nod n N) (hp : ¬ Prm q) : chf v (q + 1) N = chf v q N :=
  chq_same fun x hx ex => hp (by rw [← ex]; exact (h.prm x hx).1)
theorem chf_mul {v : Nat → Nat → Int} {a b : Nat} {A B N : List (Nat × Nat)} (hA : Nod a A) (hB : Nod b B) (hN : Nod (a * b) N) (hco : ∀ q, 2 ≤ q → q ∣ a → q ∣ b → False) : ∀ q, 2 ≤ q → chf v q N = mu (chf v q A) (chf v q B) := by
  intro q
  induction q with
  | zero => omega
  | succ q ih =>
    intro hq
    by_cases h1 : q = 1
    · subst h1
      rw [chq_2 fun x hx => (hN.prm x hx).1.1, chq_2 fun x hx => (hA.prm x hx).1.1, chq_2 fun x hx => (hB.prm x hx).1.1]
      exact (wr_in (x := 1 * 1) (by omega)).symm
    · have ih := ih (by omega)
      by_cases hp : Prm q
      · obtain ⟨k, u, ea, hu⟩ := pw_ex hp.1 a hA.pos
        obtain ⟨l, t, eb, ht⟩ := pw_ex hp.1 b hB.pos
        have hut : (u * t) % q ≠ 0 := fun e => by
          rcases euclid hp (Nat.dvd_of_mod_eq_zero e) with h | h
          · exact hu (Nat.mod_eq_zero_of_dvd h)
          · exact ht (Nat.mod_eq_zero_of_dvd h)
        have eab : a * b = q ^ (k + l) * (u * t) := by rw [ea, eb, Nat.pow_add]; grind
        rw [chf_s hN hp eab hut, chf_s hA hp ea hu, chf_s hB hp eb ht, ih]
        rcases Nat.eq_zero_or_pos k with hk | hk
        · subst hk
          rw [if_pos rfl, Nat.zero_add]
          split
          · rfl
          · exact (mu_assoc _ _ _).symm
        · rcases Nat.eq_zero_or_pos l with hl | hl
          · subst hl
            rw [if_neg (by omega), if_neg (by omega), if_pos rfl, Nat.add_zero]
            exact (mu_swap _ _ _).symm
          · exact (hco q hp.1 (ea ▸ Nat.dvd_trans (pow_dvd_self hk) (Nat.dvd_mul_right _ _)) (eb ▸ Nat.dvd_trans (pow_dvd_self hl) (Nat.dvd_mul_right _ _))).elim
      · rw [hN.np hp, hA.np hp, hB.np hp, ih]
theorem chl_q {v : Nat → Nat → Int} {n q : Nat} {N : List (Nat × Nat)} (h : Nod n N) (hq : n < q) : chl v 1 N = chf v q N := by
  refine (chq_all fun x hx => ?_).symm
  have := Nat.le_of_dvd h.pos (h.prm x hx).2
  omega
theorem chl_mul {v : Nat → Nat → Int} {a b : Nat} {A B N : List (Nat × Nat)} (hA : Nod a A) (hB : Nod b B) (hN : Nod (a * b) N) (hco : ∀ q, 2 ≤ q → q ∣ a → q ∣ b → False) : chl v 1 N = mu (chl v 1 A) (chl v 1 B) := by
  have h1 : a ≤ a * b := Nat.le_mul_of_pos_right _ hB.pos
  have h2 : b ≤ a * b := Nat.le_mul_of_pos_left _ hA.pos
  rw [chl_q hN (q := a * b + 2) (by omega), chl_q hA (q := a * b + 2) (by omega), chl_q hB (q := a * b + 2) (by omega)]
  exact chf_mul hA hB hN hco _ (by omega)
/-- The ideal numbers of i and i + 1 make that of their product. -/
theorem idn_mul {a b c d : Int} {ND : Nat → List (Nat × Nat)} (h : Nds ND) {i : Nat} (hi : 1 ≤ i) : idn a b c d ND (i * (i + 1) - 1) = mu (idn a b c d ND (i - 1)) (idn a b c d ND i) := by
  have h0 : 1 ≤ i * (i + 1) := Nat.mul_pos hi (by omega)
  unfold idn
  rw [Nat.sub_add_cancel h0, Nat.sub_add_cancel hi]
  refine chl_mul (h.2 i hi) (h.2 (i + 1) (by omega)) (h.2 _ h0) fun q h2 d1 d2 => ?_
  have h3 := (Nat.dvd_add_right d1).1 d2
  have := Nat.le_of_dvd (by omega) h3
  omega
theorem nod_prm {p : Nat} (h : Prm p) : Nod p [(p, 1)] := .cons (m := 1) (by simp) h.1 h.2 (by omega) (by have := h.1; rw [Nat.mod_eq_of_lt (by omega)]; omega) .one
/-- .. and at a prime it is told by the kind. -/
def due (k : Int) : Int := if k = 1 then 3 else if k = 2 then 1 else if k = 3 then 0 else if k = 4 then 2 else 1
theorem due_bd (k : Int) : 0 ≤ due k ∧ due k ≤ 3 := by unfold due; (repeat' split) <;> omega
theorem lcl_due {k : Int} : mu 1 (lcl k 1) = due k := by
  have h : lcl k 1 = due k := by
    unfold lcl due
    (repeat' split) <;> first | rfl | omega
  have := due_bd k
  rw [h]
  unfold mu
  rw [Int.one_mul]
  exact wr_in (by omega)
theorem idn_prm {a b c d : Int} {ND : Nat → List (Nat × Nat)} (h : Nds ND) {p : Nat} (hp : Prm p) : idn a b c d ND (p - 1) = due (kdn a b c d p) := by
  have h2 := hp.1
  unfold idn
  rw [Nat.sub_add_cancel (by omega), (h.2 p (by omega)).uniq (nod_prm hp)]
  exact lcl_due
theorem prm_2 : Prm 2 := ⟨by omega, fun j h1 h2 => by omega⟩
theorem prm_3 : Prm 3 := ⟨by omega, fun j h1 h2 => (by decide : ∀ j, j < 3 → 2 ≤ j → 3 % j ≠ 0) j h2 h1⟩
theorem prm_5 : Prm 5 := ⟨by omega, fun j h1 h2 => (by decide : ∀ j, j < 5 → 2 ≤ j → 5 % j ≠ 0) j h2 h1⟩
theorem prm_7 : Prm 7 := ⟨by omega, fun j h1 h2 => (by decide : ∀ j, j < 7 → 2 ≤ j → 7 % j ≠ 0) j h2 h1⟩
theorem kdn_pos {a b c d p : Int} (hc : cnt a b c d = 1) (hp : 2 ≤ p) : 1 ≤ kdn a b c d p ∧ kdn a b c d p ≤ 5 := by
  have hm : mul0 (cnt a b c d) p = false := by
    rw [hc, mul0_p hp]
    refine decide_eq_false fun h => ?_
    rw [Int.tmod_eq_emod_of_nonneg (by omega), Int.emod_eq_of_lt (by omega) (by omega)] at h
    omega
  unfold kdn
  rw [hm]
  simp only [Bool.false_eq_true, if_false]
  unfold kdp
  (repeat' split) <;> omega
theorem idc_c {a b c d n : Int} (h : idc a b c d n = 0) : cnt a b c d = 1 := by
  unfold idc at h
  split at h
  · split at h
    · rename_i hc; exact hc
    · omega
  · rename_i hg
    exact absurd h hg
/-- The counts of all kinds add up to the number of primes. -/
theorem cto_sum (L : List Int) (hL : ∀ k ∈ L, 0 ≤ k ∧ k ≤ 5) : ∀ g : Nat → Int, cto g L 0 + cto g L 1 + cto g L 2 + cto g L 3 + cto g L 4 + cto g L 5 = g 0 + g 1 + g 2 + g 3 + g 4 + g 5 + L.length := by
  induction L with
  | nil => intro g; simp [cto]
  | cons k L ih =>
    intro g
    have h1 := ih (fun x hx => hL x (List.mem_cons_of_mem _ hx)) (fun j => if j = k.toNat then g k.toNat + 1 else g j)
    have h2 := hL k (List.mem_cons_self ..)
    simp only [cto, List.length_cons]
    rw [h1]
    have hk : k.toNat = 0 ∨ k.toNat = 1 ∨ k.toNat = 2 ∨ k.toNat = 3 ∨ k.toNat = 4 ∨ k.toNat = 5 := by omega
    rcases hk with e | e | e | e | e | e <;> rw [e] <;> simp <;> omega
theorem pl_s {x y : Int} (h0 : 0 ≤ x + y) (h1 : x + y ≤ 100000) : pl x y = x + y := by
  unfold pl; exact wr_in (by omega)
theorem sms_ctz {L : List Int} (hL : ∀ k ∈ L, 0 ≤ k ∧ k ≤ 5) (hb : L.length ≤ 10000) : sms (ctz L) 6 = L.length := by
  have h0 := ctz_bd L 0; have h1 := ctz_bd L 1; have h2 := ctz_bd L 2; have h3 := ctz_bd L 3; have h4 := ctz_bd L 4; have h5 := ctz_bd L 5
  have hs := cto_sum L hL (fun _ => 0)
  have hs : ctz L 0 + ctz L 1 + ctz L 2 + ctz L 3 + ctz L 4 + ctz L 5 = L.length := by unfold ctz; omega
  simp only [sms]
  rw [pl_s (x := 0) (y := ctz L 0) (by omega) (by omega)]
  rw [pl_s (x := 0 + ctz L 0) (y := ctz L 1) (by omega) (by omega)]
  rw [pl_s (y := ctz L 2) (by omega) (by omega)]
  rw [pl_s (y := ctz L 3) (by omega) (by omega)]
  rw [pl_s (y := ctz L 4) (by omega) (by omega)]
  rw [pl_s (y := ctz L 5) (by omega) (by omega)]
  omega
theorem kul_sum (a b c d n : Int) (hn : n ≤ 97) : sms (ctz (kul a b c d n)) 6 = (prl (n.toNat + 1)).length := by
  have hl : (kul a b c d n).length = (prl (n.toNat + 1)).length := by unfold kul; rw [List.length_map]
  rw [sms_ctz, hl]
  · intro k hk
    unfold kul at hk
    obtain ⟨p, _, rfl⟩ := List.mem_map.1 hk
    exact kdn_bd a b c d p
  · have := prl_len (n.toNat + 1)
    omega


end Go.Proofs.YtihcmgjfkiaelaaDoor

/- Lists that are the same, as the laws with draws compare them (without rows). -/
namespace Go.Proofs.YtihcmgjfkiaelaaDoor
open Go.RowKit

set_option maxRecDepth 100000 in
set_option maxHeartbeats 1000000 in
theorem likeI_any (u v : Value) (n : Nat) (g : Nat → Int) (w : World) (hu : Rd w u n g) (hv : Rd w v n g) :
    Calls Tryd.prog 31 #[u, v] w fun e w' => e = .returned (.bool true) ∧ Below w.heap.size w w' := by
  rcases hu with ⟨rfl, hn⟩ | ⟨b, cap, rfl, hc1, hm1, hb1, hcell1⟩
  · rcases hv with ⟨rfl, _⟩ | ⟨b', cap', rfl, hc2, hm2, hb2, hcell2⟩
    · go_enter Tryd.func31, Tryd.ntmps31
      go_wp2
      refine wp_loop_rounds 1 ?_
      rw [rounds_succ]; go_wp2
      go_ret
      exact ⟨rfl, Below.refl _ _⟩
    · subst hn
      go_enter Tryd.func31, Tryd.ntmps31
      go_wp2
      refine wp_loop_rounds 1 ?_
      rw [rounds_succ]; go_wp2
      go_ret
      exact ⟨rfl, Below.refl _ _⟩
  · unfold maxLen at hm1
    have hlen : ∃ a' cap', v = .slice a' n cap' := by
      rcases hv with ⟨rfl, rfl⟩ | ⟨b', cap', rfl, _⟩
      · exact ⟨_, _, rfl⟩
      · exact ⟨_, _, rfl⟩
    obtain ⟨a', cap', rfl⟩ := hlen
    have HV := hid hv
    have HC := hid hcell1
    clear hv hcell1
    go_enter Tryd.func31, Tryd.ntmps31
    go_wp2
    go_loopw [5] (fun i wr => ∃ k : Nat, k ≤ n ∧ i = .int .i64 k ∧ Below w.heap.size w wr) (fun i _ => n - (intOf i).toNat)
    case atStart => exact ⟨0, Nat.zero_le _, rfl, Below.refl _ _⟩
    case round =>
      obtain ⟨k, hk, rfl, hB⟩ := hrel
      by_cases hlt : k < n
      · rcases HV.out with ⟨h0, rfl⟩ | ⟨b', cap'', h0, hc2, hm2, hb2, hcell2⟩
        · omega
        · cases h0
          have c1 : wr.cell? ⟨b, k, none⟩ = some (.int .i64 (g k)) := (hB.cell (p := ⟨b, k, none⟩) hb1).trans (HC.out k hlt)
          have c2 : wr.cell? ⟨b', k, none⟩ = some (.int .i64 (g k)) := (hB.cell (p := ⟨b', k, none⟩) hb2).trans (hcell2 k hlt)
          unfold maxLen at hm2
          clear hcell2
          go_wp2
          go_quiet (fail)
          go_wp2
          go_roundw
          case rel => exact ⟨k + 1, by omega, by go_num, gr_drewN hB _⟩
          case measure => simp [intOf]; omega
      · go_wp2
        go_ret
        exact ⟨rfl, hB⟩


end Go.Proofs.YtihcmgjfkiaelaaDoor
