/- Chapter 10: the classes of a discriminant, by the program. -/
import Derived.Test.YtehbkmohfipmgaaBtZ8
import Derived.Deep.RegionWith
import Derived.Deep.RegionHeld3
import Derived.Deep.DeepCutAuto
namespace Go.Proofs.Ytehbkmohfipmgaa
open Go.RowKit

/-- Does p, q begin a class of d? -/
def ckb (d p q : Int) : Bool := decide (q * q - 4 * p * thd p q d = d) && (rdb p q (thd p q d) && (cnt3 p q (thd p q d) == 1))
/-- The classes with this p, the first j values of q. -/
def cin (d p : Int) : Nat → List Qd
  | 0 => []
  | j + 1 => cin d p j ++ (if ckb d p (1 - p + j) then [(p, 1 - p + (j : Int), thd p (1 - p + j) d)] else [])
def cou (d : Int) : Nat → List Qd
  | 0 => []
  | k + 1 => cou d k ++ cin d (k + 1) (2 * (k + 1))
def Kk (d : Int) (k : Nat) : Prop := 3 * (k : Int) * k ≤ -d ∧ -d < 3 * ((k : Int) + 1) * (k + 1)
theorem Kk.uniq {d : Int} {k l : Nat} (h : Kk d k) (h' : Kk d l) : k = l := by
  rcases Nat.lt_trichotomy k l with e | e | e
  · have : ((k : Int) + 1) * (k + 1) ≤ (l : Int) * l := Int.mul_le_mul (by omega) (by omega) (by omega) (by omega)
    have h1 := h.2; have h2 := h'.1
    simp only [Int.mul_assoc] at h1 h2
    omega
  · exact e
  · have : ((l : Int) + 1) * (l + 1) ≤ (k : Int) * k := Int.mul_le_mul (by omega) (by omega) (by omega) (by omega)
    have h1 := h'.2; have h2 := h.1
    simp only [Int.mul_assoc] at h1 h2
    omega
noncomputable def kk (d : Int) : Nat := Classical.epsilon (Kk d)
theorem Kk.kk {d : Int} {k : Nat} (h : Kk d k) : kk d = k := (Classical.epsilon_spec (p := Kk d) ⟨k, h⟩).uniq h
noncomputable def cls (d : Int) : List Qd := cou d (kk d)
theorem Kk.cls {d : Int} {k : Nat} (h : Kk d k) : cls d = cou d k := by unfold Go.Proofs.Ytehbkmohfipmgaa.cls; rw [h.kk]
theorem cin_le (d p : Int) (j : Nat) : (cin d p j).length ≤ j := by
  induction j with
  | zero => simp [cin]
  | succ j ih => simp only [cin, List.length_append]; split <;> simp <;> omega
theorem cou_le (d : Int) (k : Nat) : (cou d k).length ≤ k * (k + 1) := by
  induction k with
  | zero => simp [cou]
  | succ k ih =>
    simp only [cou, List.length_append]
    have := cin_le d (k + 1) (2 * (k + 1))
    have e : (k + 1) * (k + 1 + 1) = k * (k + 1) + 2 * (k + 1) := by rw [Nat.mul_comm, ← Nat.add_mul]
    omega
theorem k_le {k : Nat} {d : Int} (h : 3 * (k : Int) * k ≤ -d) (hd : -2000 ≤ d) : k ≤ 25 := by
  rcases Nat.lt_or_ge 25 k with h2 | h2
  · have : (26 : Int) * 26 ≤ (k : Int) * k := Int.mul_le_mul (by omega) (by omega) (by omega) (by omega)
    simp only [Int.mul_assoc] at h
    omega
  · exact h2
theorem cou_len {k : Nat} {d : Int} (h : 3 * (k : Int) * k ≤ -d) (hd : -2000 ≤ d) : (cou d k).length ≤ 650 := by
  have h1 := cou_le d k
  have h2 := k_le h hd
  have : k * (k + 1) ≤ 25 * 26 := Nat.mul_le_mul h2 (by omega)
  omega
theorem thd_bd {p q d : Int} (hp : 1 ≤ p ∧ p ≤ 26) (hq : -26 ≤ q ∧ q ≤ 26) (hd : -2000 ≤ d ∧ d ≤ -1) : 0 ≤ thd p q d ∧ thd p q d ≤ 3000 ∧ 4 * p * thd p q d ≤ 3000 ∧ 0 ≤ q * q ∧ q * q ≤ 676 := by
  have h1 := mulb (A := 26) (B := 26) hq hq
  have h0 : 0 ≤ q * q := by
    rcases Int.le_total 0 q with h | h
    · exact Int.mul_nonneg h h
    · exact Int.mul_nonneg_of_nonpos_of_nonpos h h
  have e : thd p q d = (q * q - d) / (4 * p) := Int.tdiv_eq_ediv_of_nonneg (by omega)
  have h2 : 0 ≤ (q * q - d) / (4 * p) := Int.ediv_nonneg (by omega) (by omega)
  have h3 : 4 * p * ((q * q - d) / (4 * p)) ≤ q * q - d := Int.mul_ediv_self_le (by omega)
  have h4 : (q * q - d) / (4 * p) ≤ q * q - d := Int.ediv_le_self _ (by omega)
  rw [e]
  omega

/-- The test of a candidate, as the program has it. -/
theorem dq_thd {p q d : Int} (hp : 1 ≤ p ∧ p ≤ 26) (hq : -26 ≤ q ∧ q ≤ 26) (hd : -2000 ≤ d ∧ d ≤ -1) : dq p q (thd p q d) = q * q - 4 * p * thd p q d := by
  have h := thd_bd hp hq hd
  have h5 : 0 ≤ 4 * p * thd p q d := Int.mul_nonneg (by omega) h.1
  exact dq_in (by omega) (by omega)

set_option maxRecDepth 100000 in
set_option maxHeartbeats 4000000 in
theorem iClassesOf_any (d : Int) (w : World) : Calls Try.prog 15 #[.int .i64 d] w (QlsOut (if dcl d then 0 else 2) (cls d).length (fun i => ((cls d).flatMap qi3).getD i 0) w) := by
  cases hd : dcl d with
  | false =>
    have hC := fun W => hasClasses_any d W
    rw [hd] at hC
    have HC := hid hC
    clear hC
    go_enter Try.func15, Try.ntmps15
    go_wp2_with fail
    refine (HC.out _).mono ?_
    rintro e w1 ⟨rfl, rfl⟩
    go_wp2
    go_ret2
    exact ⟨_, rfl, .inl ⟨rfl, by simp⟩, by (repeat' (first | with_reducible exact Below.refl _ _ | with_reducible assumption | with_reducible refine gr_alloc ?_ _ | with_reducible refine gr_drew ?_ | with_reducible refine gr_drewN ?_ _ | with_reducible refine gr_trans ?_ (by assumption) | with_reducible refine gr_set ?_ ?_ _ | (simp; done) | omega | (simp; omega)))⟩
  | true =>
    have hC := fun W => hasClasses_any d W
    obtain ⟨⟨d1, d2⟩, _⟩ := dcl_t hd
    rw [hd] at hC
    have HC := hid hC
    have HK := hid (fun k h => @Kk.cls d k h)
    clear hC
    go_enter Try.func15, Try.ntmps15
    go_wp2_with fail
    refine (HC.out _).mono ?_
    rintro e w1 ⟨rfl, rfl⟩
    go_wp2_with fail
    go_loopw [4, 5] (fun v s wr => ∃ (k : Nat) (p : Int), s = .int .i64 p ∧ p = (k : Int) + 1 ∧ 3 * (k : Int) * k ≤ -d ∧ RowQ w.heap.size wr v (cou d k) ∧ Below w.heap.size w wr) (fun _ s _ => (30 - intOf s).toNat)
    case atStart => exact ⟨0, 1, rfl, rfl, by omega, RowQ.nil _ _, Below.refl _ _⟩
    case round =>
      obtain ⟨k, p, rfl, hp, hk, hR, hU⟩ := hrel
      obtain ⟨wo, hwo⟩ : ∃ wo, wo = wr := ⟨_, rfl⟩
      subst hwo
      have hk25 := k_le hk d1
      have hL := cou_len hk d1
      have HP := hid hp
      have p1 : 1 ≤ p := by omega
      have p2 : p ≤ 26 := by omega
      clear hp
      have b := mulb (x := p) (y := p) (A := 26) (B := 26) (by omega) (by omega)
      obtain ⟨T, hT⟩ : ∃ T, T = 3 * p * p := ⟨_, rfl⟩
      have HT := hid hT
      have t1 : -9000 ≤ 3 * p * p := by rw [Int.mul_assoc]; omega
      have t2 : 3 * p * p ≤ 9000 := by rw [Int.mul_assoc]; omega
      have hw : IntKind.i64.wrap (3 * p * p) = T := by
        rw [hT]
        have := wr_in (x := 3 * p * p) ⟨by omega, by omega⟩
        simpa only [IntWalk.i64_left] using this
      rw [← hT] at t1 t2
      clear b hT
      by_cases hle : T ≤ -d
      · have HR := hid hR; have HU := hid hU; have HKK := hid hk; have HL := hid hL
        clear hR hU hk hL
        go_wp2_with fail
        go_loopw [4, 6] (fun v s wr => ∃ (j : Nat) (q : Int), s = .int .i64 q ∧ q = 1 - p + (j : Int) ∧ j ≤ 2 * (k + 1) ∧ RowQ w.heap.size wr v (cou d k ++ cin d p j) ∧ Below w.heap.size w wr) (fun _ s _ => (30 - intOf s).toNat)
        case atStart => exact ⟨0, 1 - p, rfl, by simp, by omega, by simpa [cin] using HR.out, HU.out⟩
        case round =>
          obtain ⟨j, q, rfl, hq, hj, hR, hU⟩ := hrel
          have HQ := hid hq
          have HP' := HP.out
          have q1 : -26 ≤ q := by omega
          have q2 : q ≤ 27 := by omega
          clear hq HP'
          by_cases hqp : q ≤ p
          · have q3 : q ≤ 26 := by omega
            have hB := thd_bd (p := p) (q := q) (d := d) ⟨p1, p2⟩ ⟨q1, q3⟩ ⟨d1, d2⟩
            have hE := dq_thd (p := p) (q := q) (d := d) ⟨p1, p2⟩ ⟨q1, q3⟩ ⟨d1, d2⟩
            have hcl : cin d p (j + 1) = cin d p j ++ (if ckb d p q then [(p, q, thd p q d)] else []) := by rw [HQ.out]; rfl
            have hck : ckb d p q = (decide (dq p q (thd p q d) = d) && (rdb p q (thd p q d) && (cnt3 p q (thd p q d) == 1))) := by rw [hE]; rfl
            have hlen : (cou d k ++ cin d p j).length ≤ 1000000 := by
              rw [List.length_append]
              have := cin_le d p j
              have := HL.out
              omega
            have c1 := fun W => wdisc_any p q d W ⟨p1, by omega⟩ ⟨by omega, by omega⟩ ⟨by omega, by omega⟩
            have c2 := fun W => iQd_any p q (thd p q d) W
            have c3 := fun W => isReduced_any p q (thd p q d) W
            have c4 := fun W => isPrimitive_any p q (thd p q d) W ⟨by omega, by omega⟩ ⟨by omega, by omega⟩ ⟨by omega, by omega⟩
            clear hB hE
            generalize thd p q d = r at c1 c2 c3 c4 hcl hck
            generalize dq p q r = D at c2 hck
            generalize rdb p q r = y1 at c3 hck
            generalize (cnt3 p q r == 1) = y2 at c4 hck
            have C1 := hid c1; have C2 := hid c2; have C3 := hid c3; have C4 := hid c4
            have HCL := hid hcl; have HCK := hid hck
            have HR' := hid hR; have HU' := hid hU
            clear c1 c2 c3 c4 hcl hck hR hU
            go_wp2_with fail
            refine (C1.out _).mono ?_
            rintro e w2 ⟨rfl, hb2⟩
            have hR2 := RowQ.next HR'.out hb2
            have hU2 := gr_trans HU'.out hb2
            have A2 := Arr3.new w2 p q r 25
            have HR2 := hid (World.ownsRow.alloc hR2 (.cells #[.int .i64 p, .int .i64 q, .int .i64 r] 25))
            have HU2 := hid (gr_alloc hU2 (.cells #[.int .i64 p, .int .i64 q, .int .i64 r] 25))
            clear hR2 hU2 hb2
            go_wp2_with fail
            refine (C2.out _).mono ?_
            rintro e w3 ⟨rfl, hb3⟩
            have A3 := A2.next hb3
            have HR3 := hid (RowQ.next HR2.out hb3)
            obtain ⟨_, c0, c1, c2, _⟩ := id A3
            cases hD : (D == d) with
            | false =>
              go_wp2_with fail
              go_roundw
              case rel => exact ⟨j + 1, q + 1, rfl, by rw [HQ.out]; push_cast; omega, by have := HQ.out; have := HP.out; omega, by rw [HCL.out, HCK.out]; simpa [← beq_dec, hD] using HR3.out, by have hU := HU2.out; (repeat' (first | with_reducible exact Below.refl _ _ | with_reducible assumption | with_reducible refine gr_alloc ?_ _ | with_reducible refine gr_drew ?_ | with_reducible refine gr_drewN ?_ _ | with_reducible refine gr_trans ?_ (by assumption) | with_reducible refine gr_set ?_ ?_ _ | (simp; done) | omega | (simp; omega)))⟩
              case measure => simp [intOf]; omega
            | true =>
              go_wp2_with fail
              refine (C3.out _).mono ?_
              rintro e w4 ⟨rfl, hb4⟩
              have A4 := A3.next hb4
              have HR4 := hid (RowQ.next HR3.out hb4)
              clear c0 c1 c2
              obtain ⟨_, c0, c1, c2, _⟩ := id A4
              cases y1 with
              | false =>
                go_wp2_with fail
                go_roundw
                case rel => exact ⟨j + 1, q + 1, rfl, by rw [HQ.out]; push_cast; omega, by have := HQ.out; have := HP.out; omega, by rw [HCL.out, HCK.out]; simpa [← beq_dec, hD] using HR4.out, by have hU := HU2.out; (repeat' (first | with_reducible exact Below.refl _ _ | with_reducible assumption | with_reducible refine gr_alloc ?_ _ | with_reducible refine gr_drew ?_ | with_reducible refine gr_drewN ?_ _ | with_reducible refine gr_trans ?_ (by assumption) | with_reducible refine gr_set ?_ ?_ _ | (simp; done) | omega | (simp; omega)))⟩
                case measure => simp [intOf]; omega
              | true =>
                go_wp2_with fail
                refine (C4.out _).mono ?_
                rintro e w5 ⟨rfl, hb5⟩
                have A5 := A4.next hb5
                have HR5 := hid (RowQ.next HR4.out hb5)
                clear c0 c1 c2
                obtain ⟨_, c0, c1, c2, _⟩ := id A5
                cases y2 with
                | false =>
                  go_wp2_with fail
                  go_roundw
                  case rel => exact ⟨j + 1, q + 1, rfl, by rw [HQ.out]; push_cast; omega, by have := HQ.out; have := HP.out; omega, by rw [HCL.out, HCK.out]; simpa [← beq_dec, hD] using HR5.out, by have hU := HU2.out; (repeat' (first | with_reducible exact Below.refl _ _ | with_reducible assumption | with_reducible refine gr_alloc ?_ _ | with_reducible refine gr_drew ?_ | with_reducible refine gr_drewN ?_ _ | with_reducible refine gr_trans ?_ (by assumption) | with_reducible refine gr_set ?_ ?_ _ | (simp; done) | omega | (simp; omega)))⟩
                  case measure => simp [intOf]; omega
                | true =>
                  have hU5 : Below w.heap.size w w5 := by have hU := HU2.out; (repeat' (first | with_reducible exact Below.refl _ _ | with_reducible assumption | with_reducible refine gr_alloc ?_ _ | with_reducible refine gr_drew ?_ | with_reducible refine gr_drewN ?_ _ | with_reducible refine gr_trans ?_ (by assumption) | with_reducible refine gr_set ?_ ?_ _ | (simp; done) | omega | (simp; omega)))
                  have hs5 := hU5.size
                  go_wp2_with (at_builtin; refine app_q rfl _ _ rfl w.heap.size rfl HR5.out rfl hlen hs5 ?_)
                  intro v' w6 hrow hgrow
                  have hU6 := RowQ.grown (W := w) (RowQ.next HR5.out ((Below.refl _ w5).alloc (Nat.le_refl _) _)) (gr_alloc hU5 _) hgrow (Nat.le_refl _)
                  go_wp2_with fail
                  go_roundw
                  case rel => exact ⟨j + 1, q + 1, rfl, by rw [HQ.out]; push_cast; omega, by have := HQ.out; have := HP.out; omega, by rw [HCL.out, HCK.out]; simpa [← beq_dec, hD] using hrow, hU6⟩
                  case measure => simp [intOf]; omega
          · have hj2 : j = 2 * (k + 1) := by have := HQ.out; have := HP.out; omega
            subst hj2
            go_wp2_with fail
            go_roundw
            case rel => exact ⟨k + 1, p + 1, rfl, by rw [HP.out]; push_cast; omega, by have h := hle; rw [HT.out, HP.out] at h; push_cast; exact h, by rw [HP.out] at hR; exact hR, hU⟩
            case measure => simp [intOf]; omega
      · have hKk : Kk d k := ⟨hk, by have h := hle; rw [HT.out, HP.out] at h; omega⟩
        rw [← HK.out k hKk] at hR
        obtain ⟨a, cap, rfl⟩ := hR.val
        go_wp2_with fail
        go_ret2
        exact ⟨_, rfl, hR.out, hU⟩

end Go.Proofs.Ytehbkmohfipmgaa
