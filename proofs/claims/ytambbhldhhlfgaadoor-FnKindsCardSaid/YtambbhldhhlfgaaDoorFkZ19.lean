/- Several texts in one: XKk, XFj2. -/
import Derived.Test.YtambbhldhhlfgaaDoorFkKj
import Derived.Test.YtambbhldhhlfgaaDoorFkRv
import Derived.Test.YtambbhldhhlfgaaDoorFkPk
import Derived.Test.YtambbhldhhlfgaaDoorFkZ4
import Derived.Deep.RegionHeld3

/- Chapter 5: what FnKinds asks of the numbers. Mathematics; no Go function in sight. -/
namespace Go.Proofs.YtambbhldhhlfgaaDoor
open Go.RowKit

/-- Kinds, counts, totals, whether ramified, and the code of the roots. -/
structure LawOk (kd ct tt p rm : Int) (ra : Bool) : Prop where
  rng : kd = 0 ∨ kd = 1 ∨ kd = 2 ∨ kd = 3 ∨ kd = 4 ∨ kd = 5
  z : kd = 0 → ct = p + 1
  k1 : kd = 1 → ct = 3 ∧ tt = 3
  k2 : kd = 2 → ct = 1 ∧ tt = 1
  k3 : kd = 3 → ct = 0
  k4 : kd = 4 → ct = 2 ∧ tt = 3
  k5 : kd = 5 → ct = 1 ∧ tt = 3
  ra : ra = (kd == 0 || kd == 4 || kd == 5)
  rm : (rm == 0) = !(kd == 0)
def ttl (R : List (List Int)) : Int := (R.map fun r => r.getD 2 0).sum
theorem ttl_rw3 (R : List (Int × Int × Int)) : ttl (R.map rw3) = rtt R := by
  unfold ttl rtt
  rw [List.map_map]
  rfl
theorem ttl_s {R : List (List Int)} {k : Nat} (h : k < R.length) : ttl (R.take (k + 1)) = ttl (R.take k) + (R.getD k []).getD 2 0 := by
  unfold ttl
  rw [List.take_succ_eq_append_getElem h, List.map_append, List.sum_append]
  simp [List.getD, h]
theorem law_ok {a b c d p : Int} (h : fpc a b c d p = 0) : LawOk (kmv a b c d p) (crv a b c d p) (ttl (if rmc a b c d p = 0 then (rtp a b c d p).map rw3 else [])) p (rmc a b c d p) (rmf a b c d p) := by
  obtain ⟨hF, hp⟩ := fpc_0.1 h
  have e1 : kmv a b c d p = kdn a b c d p := by simp [kmv, h]
  have hp0 : p ≠ 0 := by have := (prm_rng hp).1; omega
  have e3 : rmf a b c d p = mul0 (dsc a b c d) p := by simp [rmf, h, mul0, hp0]
  rw [e1, e3]
  cases hN : mul0 (cnt a b c d) p with
  | true =>
    have k0 : kdn a b c d p = 0 := by simp [kdn, hN]
    have hd : mul0 (dsc a b c d) p = true := by
      rw [mul0_d, decide_eq_true_eq] at hN ⊢
      obtain ⟨h0, h1, h2, h3⟩ := cnt_dvd.1 hN
      rw [dsc_eq hF, show dsx a b c d = a * (-4 * c * c * c - 27 * a * d * d + 18 * b * c * d) + b * (b * c * c - 4 * b * b * d) by unfold dsx; grind]
      exact Int.dvd_add (Int.dvd_mul_of_dvd_left h0) (Int.dvd_mul_of_dvd_left h1)
    rw [k0, hd, rmc_5 h hN]
    refine ⟨.inl rfl, fun _ => by simp [crv, h, hN], ?_, ?_, ?_, ?_, ?_, rfl, rfl⟩ <;> (intro h; omega)
  | false =>
    have hk := kd_ok hF hp hN
    have ec : crv a b c d p = (rtp a b c d p).length := by simp [crv, h, hN]
    rw [rmc_0 h hN, if_pos rfl, ttl_rw3, ec]
    generalize kdn a b c d p = kd at hk
    generalize rtt (rtp a b c d p) = tt at hk
    generalize (rtp a b c d p).length = n at hk
    generalize mul0 (dsc a b c d) p = ra at hk
    obtain ⟨k1, k2, k3, k4, k5, ⟨r1, r2⟩, hra⟩ := hk
    refine ⟨by omega, fun h => by omega, fun h => ?_, fun h => ?_, fun h => ?_, fun h => ?_, fun h => ?_, ?_, ?_⟩
    · have := k1 h; omega
    · have := k2 h; omega
    · have := k3 h; omega
    · have := k4 h; omega
    · have := k5 h; omega
    · rw [hra]
      rcases (show kd = 1 ∨ kd = 2 ∨ kd = 3 ∨ kd = 4 ∨ kd = 5 by omega) with rfl | rfl | rfl | rfl | rfl <;> rfl
    · rcases (show kd = 1 ∨ kd = 2 ∨ kd = 3 ∨ kd = 4 ∨ kd = 5 by omega) with rfl | rfl | rfl | rfl | rfl <;> rfl
theorem LawOk.tb {kd ct tt p rm : Int} {ra : Bool} (h : LawOk kd ct tt p rm ra) (hk : kd ≠ 0) (h3 : kd ≠ 3) : 1 ≤ tt ∧ tt ≤ 3 := by
  rcases h.rng with h0 | h0 | h0 | h0 | h0 | h0
  · exact absurd h0 hk
  · have := h.k1 h0; omega
  · have := h.k2 h0; omega
  · exact absurd h0 h3
  · have := h.k4 h0; omega
  · have := h.k5 h0; omega
/-- The counts of the kinds, added up. -/
def skn (p : Int) : Nat → Int
  | 0 => 0
  | k + 1 => skn p k + ck0 p k
theorem sk_all : ∀ q < 98, prmN q = true → skn q 6 = (q : Int) * q * q * q ∧ ∀ k < 7, 0 ≤ skn q k ∧ skn q k ≤ 100000000 := by decide +kernel
theorem sk_ok {p : Int} (h : prm p = true) : skn p 6 = p * p * p * p ∧ ∀ k, k < 7 → 0 ≤ skn p k ∧ skn p k ≤ 100000000 := by
  obtain ⟨h2, h97⟩ := prm_rng h
  obtain ⟨n, rfl⟩ : ∃ n : Nat, p = n := ⟨p.toNat, by omega⟩
  obtain ⟨h1, h3⟩ := sk_all n (by omega) (by simpa [prm] using h)
  exact ⟨h1, fun k hk => h3 k hk⟩
theorem ckc_0 {p : Int} (h : prm p = true) {k : Int} (h0 : 0 ≤ k) (h5 : k ≤ 5) : ckc p k = 0 := by
  simp [ckc, h, rng_mk h0 h5]
theorem kuc_0 {a b c d n : Int} (h : kuc a b c d n = 0) : nco n = 0 := by
  unfold kuc at h
  split at h
  · exact h
  · omega
theorem kul_ln (a b c d n : Int) : (kul a b c d n).length = (prl (n.toNat + 1)).length := by simp [kul]
/-- A form moved by 1, 1, 0, 1 has the same kind. -/
theorem kmv_mv {a b c d p : Int} (h : fpc a b c d p = 0) (hc : chc a b c d 1 1 0 1 = 0) : kmv (cA a b c d 1 0) (cB a b c d 1 1 0 1) (cC a b c d 1 1 0 1) (cA a b c d 1 1) p = kmv a b c d p ∧ fpc (cA a b c d 1 0) (cB a b c d 1 1 0 1) (cC a b c d 1 1 0 1) (cA a b c d 1 1) p = 0 := by
  obtain ⟨hF, hp⟩ := fpc_0.1 h
  obtain ⟨_, _, hF'⟩ := chc_0 hc
  have h' : fpc (cA a b c d 1 0) (cB a b c d 1 1 0 1) (cC a b c d 1 1 0 1) (cA a b c d 1 1) p = 0 := fpc_0.2 ⟨hF', hp⟩
  refine ⟨?_, h'⟩
  unfold kmv
  rw [if_pos h, if_pos h', kdn_ch (g := 1) hF hF' hp (by rfl) (.inl rfl)]


end Go.Proofs.YtambbhldhhlfgaaDoor

/- Lists that are the same, as the laws with draws compare them (without rows). -/
namespace Go.Proofs.YtambbhldhhlfgaaDoor
open Go.RowKit

set_option maxRecDepth 100000 in
set_option maxHeartbeats 1000000 in
theorem likeI_any (u v : Value) (n : Nat) (g : Nat → Int) (w : World) (hu : Rd w u n g) (hv : Rd w v n g) :
    Calls Tryd.prog 19 #[u, v] w fun e w' => e = .returned (.bool true) ∧ Below w.heap.size w w' := by
  rcases hu with ⟨rfl, hn⟩ | ⟨b, cap, rfl, hc1, hm1, hb1, hcell1⟩
  · rcases hv with ⟨rfl, _⟩ | ⟨b', cap', rfl, hc2, hm2, hb2, hcell2⟩
    · go_enter Tryd.func19, Tryd.ntmps19
      go_wp2
      refine wp_loop_rounds 1 ?_
      rw [rounds_succ]; go_wp2
      go_ret
      exact ⟨rfl, Below.refl _ _⟩
    · subst hn
      go_enter Tryd.func19, Tryd.ntmps19
      go_wp2
      refine wp_loop_rounds 1 ?_
      rw [rounds_succ]; go_wp2
      go_ret
      exact ⟨rfl, Below.refl _ _⟩
  · unfold maxLen at hm1
    have hlen : ∃ a' cap', v = .slice a' n cap' := by
      rcases hv with ⟨rfl, rfl⟩ | ⟨b', cap', rfl, _⟩
      · exact ⟨_, _, rfl⟩
      · exact ⟨_, _, rfl⟩
    obtain ⟨a', cap', rfl⟩ := hlen
    have HV := hid hv
    have HC := hid hcell1
    clear hv hcell1
    go_enter Tryd.func19, Tryd.ntmps19
    go_wp2
    go_loopw [5] (fun i wr => ∃ k : Nat, k ≤ n ∧ i = .int .i64 k ∧ Below w.heap.size w wr) (fun i _ => n - (intOf i).toNat)
    case atStart => exact ⟨0, Nat.zero_le _, rfl, Below.refl _ _⟩
    case round =>
      obtain ⟨k, hk, rfl, hB⟩ := hrel
      by_cases hlt : k < n
      · rcases HV.out with ⟨h0, rfl⟩ | ⟨b', cap'', h0, hc2, hm2, hb2, hcell2⟩
        · omega
        · cases h0
          have c1 : wr.cell? ⟨b, k, none⟩ = some (.int .i64 (g k)) := (hB.cell (p := ⟨b, k, none⟩) hb1).trans (HC.out k hlt)
          have c2 : wr.cell? ⟨b', k, none⟩ = some (.int .i64 (g k)) := (hB.cell (p := ⟨b', k, none⟩) hb2).trans (hcell2 k hlt)
          unfold maxLen at hm2
          clear hcell2
          go_wp2
          go_quiet (fail)
          go_wp2
          go_roundw
          case rel => exact ⟨k + 1, by omega, by go_num, gr_drewN hB _⟩
          case measure => simp [intOf]; omega
      · go_wp2
        go_ret
        exact ⟨rfl, hB⟩


end Go.Proofs.YtambbhldhhlfgaaDoor
