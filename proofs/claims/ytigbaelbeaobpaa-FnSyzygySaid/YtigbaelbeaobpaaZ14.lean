/- Several texts in one: XSz, XFj2. -/
import Derived.Test.YtigbaelbeaobpaaSyz2
import Derived.Test.YtigbaelbeaobpaaZ11
import Derived.Test.YtigbaelbeaobpaaQ3
import Derived.Test.YtigbaelbeaobpaaZ12
import Derived.Test.YtigbaelbeaobpaaH
import Derived.Test.YtigbaelbeaobpaaCov
import Derived.Test.YtigbaelbeaobpaaZ10
import Derived.Test.YtigbaelbeaobpaaZ4
import Derived.Test.YtigbaelbeaobpaaRsl2
import Derived.Test.YtigbaelbeaobpaaZ8
import Derived.Deep.RegionHeld3

/- Chapter 3: what FnSyzygy asks of the numbers: the syzygy, Hessians of changed forms, pairings, resultants. Mathematics; no Go function in sight. -/
namespace Go.Proofs.Ytigbaelbeaobpaa
open Go.RowKit

/-- Equal modulo 2^64. -/
def WE (x y : Int) : Prop := wrap64 x = wrap64 y
theorem wr_w (x : Int) : wrap64 (wrap64 x) = wrap64 x := by simpa using wr_al x 0
theorem WE.r (x : Int) : WE x x := rfl
theorem WE.w {x y : Int} (h : WE x y) : WE (wrap64 x) y := (wr_w x).trans h
theorem WE.a {x y u v : Int} (h : WE x u) (h' : WE y v) : WE (x + y) (u + v) := by unfold WE at *; rw [← wr_al, ← wr_ar, h, h', wr_al, wr_ar]
theorem WE.s {x y u v : Int} (h : WE x u) (h' : WE y v) : WE (x - y) (u - v) := by unfold WE at *; rw [← wr_sl, ← wr_sr, h, h', wr_sl, wr_sr]
theorem WE.m {x y u v : Int} (h : WE x u) (h' : WE y v) : WE (x * y) (u * v) := by unfold WE at *; rw [← wr_ml, ← wr_mr, h, h', wr_ml, wr_mr]
theorem WE.pl {x y u v : Int} (h : WE x u) (h' : WE y v) : WE (pl x y) (u + v) := (h.a h').w
theorem WE.mi {x y u v : Int} (h : WE x u) (h' : WE y v) : WE (mi x y) (u - v) := (h.s h').w
theorem WE.mu {x y u v : Int} (h : WE x u) (h' : WE y v) : WE (mu x y) (u * v) := (h.m h').w
theorem WE.vl {a b c d x y A B C D : Int} (ha : WE a A) (hb : WE b B) (hc : WE c C) (hd : WE d D) : WE (vl a b c d x y) (vx A B C D x y) := by
  have r := WE.r
  unfold Go.Proofs.Ytigbaelbeaobpaa.vl vx
  exact (((((ha.mu (r x)).mu (r x)).mu (r x)).pl (((hb.mu (r x)).mu (r x)).mu (r y))).pl (((hc.mu (r x)).mu (r y)).mu (r y))).pl (((hd.mu (r y)).mu (r y)).mu (r y))
theorem WE.qv {a b c x y A B C : Int} (ha : WE a A) (hb : WE b B) (hc : WE c C) : WE (qv a b c x y) (A * x * x + B * x * y + C * y * y) := by
  have r := WE.r
  unfold Go.Proofs.Ytigbaelbeaobpaa.qv
  exact (((ha.mu (r x)).mu (r x)).pl ((hb.mu (r x)).mu (r y))).pl ((hc.mu (r y)).mu (r y))
/-- The syzygy. -/
theorem syz_p (a b c d x y P Q R : Int) (hP : P = b * b - 3 * a * c) (hQ : Q = b * c - 9 * a * d) (hR : R = c * c - 3 * b * d) :
    4 * (P * x * x + Q * x * y + R * y * y) * (P * x * x + Q * x * y + R * y * y) * (P * x * x + Q * x * y + R * y * y) =
    (vx (3 * a * Q - 2 * b * P) (6 * a * R + b * Q - 4 * c * P) (4 * b * R - c * Q - 6 * d * P) (2 * c * R - 3 * d * Q) x y) * (vx (3 * a * Q - 2 * b * P) (6 * a * R + b * Q - 4 * c * P) (4 * b * R - c * Q - 6 * d * P) (2 * c * R - 3 * d * Q) x y) + 27 * dx a b c d * vx a b c d x y * vx a b c d x y := by
  subst hP; subst hQ; subst hR
  unfold vx dx
  grind
theorem syz_w {a b c d : Int} (x y : Int) (hF : isF a b c d = true) : wrap64 (z2 (cv a b c d x y) + z3 (dsc0 a b c d) (vl a b c d x y)) = z1 (hv a b c d x y) := by
  have r := WE.r
  obtain ⟨P, hP⟩ : ∃ P, P = b * b - 3 * a * c := ⟨_, rfl⟩
  obtain ⟨Q, hQ⟩ : ∃ Q, Q = b * c - 9 * a * d := ⟨_, rfl⟩
  obtain ⟨R, hR⟩ : ∃ R, R = c * c - 3 * b * d := ⟨_, rfl⟩
  have e1 : WE (h1 a b c) P := by rw [hP]; exact (r _).w
  have e2 : WE (h2 a b c d) Q := by rw [hQ]; exact (r _).w
  have e3 : WE (h3 b c d) R := by rw [hR]; exact (r _).w
  have H : WE (hv a b c d x y) (P * x * x + Q * x * y + R * y * y) := WE.qv e1 e2 e3
  have C1 : WE (cc1 a b c d) (3 * a * Q - 2 * b * P) := (((r 3).mu (r a)).mu e2).mi (((r 2).mu (r b)).mu e1)
  have C2 : WE (cc2 a b c d) (6 * a * R + b * Q - 4 * c * P) := ((((r 6).mu (r a)).mu e3).pl ((r b).mu e2)).mi (((r 4).mu (r c)).mu e1)
  have C3 : WE (cc3 a b c d) (4 * b * R - c * Q - 6 * d * P) := ((((r 4).mu (r b)).mu e3).mi ((r c).mu e2)).mi (((r 6).mu (r d)).mu e1)
  have C4 : WE (cc4 a b c d) (2 * c * R - 3 * d * Q) := (((r 2).mu (r c)).mu e3).mi (((r 3).mu (r d)).mu e2)
  have C := WE.vl (x := x) (y := y) C1 C2 C3 C4
  have F := WE.vl (x := x) (y := y) (r a) (r b) (r c) (r d)
  have D : WE (dsc0 a b c d) (dx a b c d) := by
    have : dsc0 a b c d = dsc a b c d := by simp [dsc0, hF]
    rw [this, dsc_wr]; exact (r _).w
  have Z1 : WE (z1 (hv a b c d x y)) _ := (((r 4).mu H).mu H).mu H
  have Z2 : WE (z2 (cv a b c d x y)) _ := C.mu C
  have Z3 : WE (z3 (dsc0 a b c d) (vl a b c d x y)) _ := (((r 27).mu D).mu F).mu F
  have e := syz_p a b c d x y P Q R hP hQ hR
  have t : WE (z2 (cv a b c d x y) + z3 (dsc0 a b c d) (vl a b c d x y)) (z1 (hv a b c d x y)) := by
    refine (Z2.a Z3).trans ?_
    rw [← e]; exact Z1.symm
  refine Eq.trans t ?_
  unfold z1
  exact wr_w _
theorem szc_0 {a b c d x y : Int} (h : szc a b c d x y = 0) : isF a b c d = true ∧ plcn 100 a b c d x y = 0 := by
  unfold szc at h
  split at h
  · rename_i hF
    split at h
    · rename_i hs
      rw [Bool.and_eq_true, Bool.and_eq_true] at hs
      obtain ⟨⟨hx, hy⟩, _⟩ := hs
      have hx' := rng_t hx
      have hy' := rng_t hy
      refine ⟨hF, ?_⟩
      unfold plcn
      rw [hF, rng_mk (show -100 ≤ x by omega) (show x ≤ 100 by omega), rng_mk (show -100 ≤ y by omega) (show y ≤ 100 by omega)]
      rfl
    · omega
  · omega
theorem prg_sw (a b c d e f g h : Int) : prg e f g h a b c d = wrap64 (-prg a b c d e f g h) := by
  have r := WE.r
  have h1 : WE (prg e f g h a b c d) (3 * e * d - f * c + g * b - 3 * h * a) := (((((r 3).mu (r e)).mu (r d)).mi ((r f).mu (r c))).pl ((r g).mu (r b))).mi (((r 3).mu (r h)).mu (r a))
  have h2 : WE (prg a b c d e f g h) (3 * a * h - b * g + c * f - 3 * d * e) := (((((r 3).mu (r a)).mu (r h)).mi ((r b).mu (r g))).pl ((r c).mu (r f))).mi (((r 3).mu (r d)).mu (r e))
  have h3 : WE (0 - prg a b c d e f g h) (0 - (3 * a * h - b * g + c * f - 3 * d * e)) := (r 0).s h2
  rw [show 0 - (3 * a * h - b * g + c * f - 3 * d * e) = 3 * e * d - f * c + g * b - 3 * h * a by grind] at h3
  have h4 : WE (prg e f g h a b c d) (-prg a b c d e f g h) := by
    rw [show -prg a b c d e f g h = 0 - prg a b c d e f g h by omega]; exact h1.trans h3.symm
  refine Eq.trans ?_ h4
  unfold prg
  exact (wr_w _).symm
theorem prc_sw (a b c d e f g h : Int) : prc e f g h a b c d = prc a b c d e f g h := by unfold prc; rw [Bool.and_comm]
theorem rsc_sw {a b c d e f g h : Int} (h0 : rsc a b c d e f g h = 0) : rsc e f g h a b c d = 0 ∧ rsc a b c d a b c d = 0 := by
  unfold rsc at *
  split at h0
  · rename_i h1
    split at h0
    · rename_i h2
      rw [Bool.and_eq_true] at h1 h2
      simp [h1.1, h1.2, h2.1, h2.2]
    · omega
  · omega
theorem rsl_sw (a b c d e f g h : Int) : wrap64 (rsl e f g h a b c d) = wrap64 (-wrap64 (rsl a b c d e f g h)) := by rw [rsl_swap, wr_n]
theorem rsl_se (a b c d : Int) : wrap64 (rsl a b c d a b c d) = 0 := by rw [rsl_self]; exact wr_in (by omega)
/-- The Hessian of a form changed by a unit matrix is the changed Hessian. -/
theorem sz_hes {a b c d P Q R S g n0 n1 n2 n3 : Int} (h : chc a b c d P Q R S = 0) (hg : g = P * S - Q * R) (hu : g = 1 ∨ g = -1) (e0 : n0 = cA a b c d P R) (e1 : n1 = cB a b c d P Q R S) (e2 : n2 = cC a b c d P Q R S) (e3 : n3 = cA a b c d Q S) :
    cif a b c d = 0 ∧ cif n0 n1 n2 n3 = 0 ∧
    cqc (ifF a b c d (h1 a b c)) (ifF a b c d (h2 a b c d)) (ifF a b c d (h3 b c d)) P Q R S = 0 ∧
    qv (ifF a b c d (h1 a b c)) (ifF a b c d (h2 a b c d)) (ifF a b c d (h3 b c d)) P R = ifF n0 n1 n2 n3 (h1 n0 n1 n2) ∧
    qm (ifF a b c d (h1 a b c)) (ifF a b c d (h2 a b c d)) (ifF a b c d (h3 b c d)) P Q R S = ifF n0 n1 n2 n3 (h2 n0 n1 n2 n3) ∧
    qv (ifF a b c d (h1 a b c)) (ifF a b c d (h2 a b c d)) (ifF a b c d (h3 b c d)) Q S = ifF n0 n1 n2 n3 (h3 n1 n2 n3) := by
  obtain ⟨hf, hm, hn⟩ := chc_0 h
  have hs := sq_one hu
  have w1 : ∀ a b c : Int, h1 a b c = wrap64 (hP a b c) := fun a b c => by simp only [h1, hs1, hP]
  have w2 : ∀ a b c d : Int, h2 a b c d = wrap64 (hQ a b c d) := fun a b c d => by simp only [h2, hs2, hQ]
  have w3 : ∀ b c d : Int, h3 b c d = wrap64 (hR b c d) := fun b c d => by simp only [h3, hs3, hR]
  have q : qv (h1 a b c) (h2 a b c d) (h3 b c d) P R = h1 (cA a b c d P R) (cB a b c d P Q R S) (cC a b c d P Q R S) ∧
      qm (h1 a b c) (h2 a b c d) (h3 b c d) P Q R S = h2 (cA a b c d P R) (cB a b c d P Q R S) (cC a b c d P Q R S) (cA a b c d Q S) ∧
      qv (h1 a b c) (h2 a b c d) (h3 b c d) Q S = h3 (cB a b c d P Q R S) (cC a b c d P Q R S) (cA a b c d Q S) := by
    rw [w1, w2, w3, w1, w2, w3, hess_P, hess_Q, hess_R, ← hg, hs]
    simp only [Int.one_mul]
    refine ⟨?_, ?_, ?_⟩
    · simp only [qv, pl, mu, wr_al, wr_ar, wr_ml]
    · simp only [qm, pl, mu, wr_al, wr_ar, wr_ml, wr_mr]
    · simp only [qv, pl, mu, wr_al, wr_ar, wr_ml]
  obtain ⟨q1, q2, q3⟩ := q
  rw [← e0, ← e1, ← e2, ← e3] at hn q2
  rw [← e0, ← e1, ← e2] at q1
  rw [← e1, ← e2, ← e3] at q3
  obtain ⟨b1, b2, b3⟩ := h_bd hf
  obtain ⟨c1, c2, c3⟩ := h_bd hn
  refine ⟨by simp [cif, hf], by simp [cif, hn], ?_, ?_, ?_, ?_⟩
  · have k1 := isQ_mk (a := h1 a b c) (b := h2 a b c d) (c := h3 b c d) (by omega) (by omega) (by omega)
    have k2 := isQ_mk (a := h1 n0 n1 n2) (b := h2 n0 n1 n2 n3) (c := h3 n1 n2 n3) (by omega) (by omega) (by omega)
    simp [ifF, hf, cqc, q1, q2, q3, k1, k2, hm]
  · simp [ifF, hf, hn, q1]
  · simp [ifF, hf, hn, q2]
  · simp [ifF, hf, hn, q3]


end Go.Proofs.Ytigbaelbeaobpaa

/- Lists that are the same, as the laws with draws compare them (without rows). -/
namespace Go.Proofs.Ytigbaelbeaobpaa
open Go.RowKit

set_option maxRecDepth 100000 in
set_option maxHeartbeats 1000000 in
theorem likeI_any (u v : Value) (n : Nat) (g : Nat → Int) (w : World) (hu : Rd w u n g) (hv : Rd w v n g) :
    Calls Try.prog 8 #[u, v] w fun e w' => e = .returned (.bool true) ∧ Below w.heap.size w w' := by
  rcases hu with ⟨rfl, hn⟩ | ⟨b, cap, rfl, hc1, hm1, hb1, hcell1⟩
  · rcases hv with ⟨rfl, _⟩ | ⟨b', cap', rfl, hc2, hm2, hb2, hcell2⟩
    · go_enter Try.func8, Try.ntmps8
      go_wp2
      refine wp_loop_rounds 1 ?_
      rw [rounds_succ]; go_wp2
      go_ret
      exact ⟨rfl, Below.refl _ _⟩
    · subst hn
      go_enter Try.func8, Try.ntmps8
      go_wp2
      refine wp_loop_rounds 1 ?_
      rw [rounds_succ]; go_wp2
      go_ret
      exact ⟨rfl, Below.refl _ _⟩
  · unfold maxLen at hm1
    have hlen : ∃ a' cap', v = .slice a' n cap' := by
      rcases hv with ⟨rfl, rfl⟩ | ⟨b', cap', rfl, _⟩
      · exact ⟨_, _, rfl⟩
      · exact ⟨_, _, rfl⟩
    obtain ⟨a', cap', rfl⟩ := hlen
    have HV := hid hv
    have HC := hid hcell1
    clear hv hcell1
    go_enter Try.func8, Try.ntmps8
    go_wp2
    go_loopw [5] (fun i wr => ∃ k : Nat, k ≤ n ∧ i = .int .i64 k ∧ Below w.heap.size w wr) (fun i _ => n - (intOf i).toNat)
    case atStart => exact ⟨0, Nat.zero_le _, rfl, Below.refl _ _⟩
    case round =>
      obtain ⟨k, hk, rfl, hB⟩ := hrel
      by_cases hlt : k < n
      · rcases HV.out with ⟨h0, rfl⟩ | ⟨b', cap'', h0, hc2, hm2, hb2, hcell2⟩
        · omega
        · cases h0
          have c1 : wr.cell? ⟨b, k, none⟩ = some (.int .i64 (g k)) := (hB.cell (p := ⟨b, k, none⟩) hb1).trans (HC.out k hlt)
          have c2 : wr.cell? ⟨b', k, none⟩ = some (.int .i64 (g k)) := (hB.cell (p := ⟨b', k, none⟩) hb2).trans (hcell2 k hlt)
          unfold maxLen at hm2
          clear hcell2
          go_wp2
          go_quiet (fail)
          go_wp2
          go_roundw
          case rel => exact ⟨k + 1, by omega, by go_num, gr_drewN hB _⟩
          case measure => simp [intOf]; omega
      · go_wp2
        go_ret
        exact ⟨rfl, hB⟩


end Go.Proofs.Ytigbaelbeaobpaa
