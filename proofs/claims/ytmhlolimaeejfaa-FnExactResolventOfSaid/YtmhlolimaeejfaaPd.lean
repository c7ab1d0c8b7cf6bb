/- Chapter 5: a form and a prime; multiples; ramified primes. -/
import Derived.Test.YtmhlolimaeejfaaPc
import Derived.Test.YtmhlolimaeejfaaC1d
import Derived.Test.YtmhlolimaeejfaaMul
namespace Go.Proofs.Ytmhlolimaeejfaa
open Go.RowKit

theorem tmod_97 (n m : Int) (h1 : 1 ≤ m) (h : m ≤ 97) : -97 ≤ n.tmod m ∧ n.tmod m ≤ 97 := by
  have := Int.natAbs_tmod n m
  have hb : n.natAbs % m.natAbs < m.natAbs := Nat.mod_lt _ (by omega)
  omega

theorem tmod_499 (n m : Int) (h1 : 1 ≤ m) (h : m ≤ 499) : -499 ≤ n.tmod m ∧ n.tmod m ≤ 499 := by
  have := Int.natAbs_tmod n m
  have hb : n.natAbs % m.natAbs < m.natAbs := Nat.mod_lt _ (by omega)
  omega

set_option maxHeartbeats 400000 in
theorem iCheckFP_any (a b c d p : Int) (w : World) : Calls Try.prog 81 #[.agg #[.int .i64 a, .int .i64 b, .int .i64 c, .int .i64 d], .int .i64 p] w fun e w' => e = .returned (.int .i64 (fpc a b c d p)) ∧ Below w.heap.size w w' := by
  go_enter Try.func81, Try.ntmps81
  go_wp2_with fail
  refine (iIsForm_any a b c d _).mono ?_
  rintro e w1 ⟨rfl, hb1⟩
  cases hF : isF a b c d with
  | false =>
    go_wp2_with fail
    go_ret
    exact ⟨ret_int (by simp [fpc, hF]), by (repeat' (first | with_reducible exact Below.refl _ _ | with_reducible assumption | with_reducible refine gr_alloc ?_ _ | with_reducible refine gr_drew ?_ | with_reducible refine gr_drewN ?_ _ | with_reducible refine gr_trans ?_ (by assumption) | with_reducible refine gr_set ?_ ?_ _ | (simp; done) | omega | (simp; omega)))⟩
  | true =>
    cases hp : prm p with
    | false =>
      go_wp2_with (go_at_call 77; refine (isPrime_any _ _).mono ?_; rintro e w' ⟨rfl, rfl⟩)
      go_ret
      exact ⟨ret_int (by simp [fpc, hF, hp]), by (repeat' (first | with_reducible exact Below.refl _ _ | with_reducible assumption | with_reducible refine gr_alloc ?_ _ | with_reducible refine gr_drew ?_ | with_reducible refine gr_drewN ?_ _ | with_reducible refine gr_trans ?_ (by assumption) | with_reducible refine gr_set ?_ ?_ _ | (simp; done) | omega | (simp; omega)))⟩
    | true =>
      go_wp2_with (go_at_call 77; refine (isPrime_any _ _).mono ?_; rintro e w' ⟨rfl, rfl⟩)
      go_ret
      exact ⟨ret_int (by simp [fpc, hF, hp]), by (repeat' (first | with_reducible exact Below.refl _ _ | with_reducible assumption | with_reducible refine gr_alloc ?_ _ | with_reducible refine gr_drew ?_ | with_reducible refine gr_drewN ?_ _ | with_reducible refine gr_trans ?_ (by assumption) | with_reducible refine gr_set ?_ ?_ _ | (simp; done) | omega | (simp; omega)))⟩

set_option maxHeartbeats 400000 in
theorem l05Code_any (a b c d p : Int) (w : World) : Calls Try.prog 79 #[.agg #[.int .i64 a, .int .i64 b, .int .i64 c, .int .i64 d], .int .i64 p] w fun e w' => e = .returned (.int .i64 (fpc a b c d p)) ∧ Below w.heap.size w w' := by
  go_enter Try.func79, Try.ntmps79
  go_wp2_with fail
  refine (l01Is_any a b c d _).mono ?_
  rintro e w1 ⟨rfl, hb1⟩
  cases hF : isF a b c d with
  | false =>
    go_wp2_with fail
    go_ret
    exact ⟨ret_int (by simp [fpc, hF]), by (repeat' (first | with_reducible exact Below.refl _ _ | with_reducible assumption | with_reducible refine gr_alloc ?_ _ | with_reducible refine gr_drew ?_ | with_reducible refine gr_drewN ?_ _ | with_reducible refine gr_trans ?_ (by assumption) | with_reducible refine gr_set ?_ ?_ _ | (simp; done) | omega | (simp; omega)))⟩
  | true =>
    cases hp : prm p with
    | false =>
      go_wp2_with (go_at_call 75; refine (l05Prime_any _ _).mono ?_; rintro e w' ⟨rfl, rfl⟩)
      go_ret
      exact ⟨ret_int (by simp [fpc, hF, hp]), by (repeat' (first | with_reducible exact Below.refl _ _ | with_reducible assumption | with_reducible refine gr_alloc ?_ _ | with_reducible refine gr_drew ?_ | with_reducible refine gr_drewN ?_ _ | with_reducible refine gr_trans ?_ (by assumption) | with_reducible refine gr_set ?_ ?_ _ | (simp; done) | omega | (simp; omega)))⟩
    | true =>
      go_wp2_with (go_at_call 75; refine (l05Prime_any _ _).mono ?_; rintro e w' ⟨rfl, rfl⟩)
      go_ret
      exact ⟨ret_int (by simp [fpc, hF, hp]), by (repeat' (first | with_reducible exact Below.refl _ _ | with_reducible assumption | with_reducible refine gr_alloc ?_ _ | with_reducible refine gr_drew ?_ | with_reducible refine gr_drewN ?_ _ | with_reducible refine gr_trans ?_ (by assumption) | with_reducible refine gr_set ?_ ?_ _ | (simp; done) | omega | (simp; omega)))⟩

/-- Is p ramified? -/
def rmf (a b c d p : Int) : Bool := decide (fpc a b c d p = 0) && decide ((dsc a b c d).tmod p = 0)
theorem rmf_0 {a b c d p : Int} (h : isF a b c d = true) (hp : prm p = true) : rmf a b c d p = decide ((dsc a b c d).tmod p = 0) := by simp [rmf, fpc, h, hp]
theorem rmf_n {a b c d p : Int} (h : fpc a b c d p ≠ 0) : rmf a b c d p = false := by simp [rmf, h]

set_option maxHeartbeats 400000 in
theorem iIsRamified_any (a b c d p : Int) (w : World) : Calls Try.prog 33 #[.agg #[.int .i64 a, .int .i64 b, .int .i64 c, .int .i64 d], .int .i64 p] w fun e w' => e = .returned (.tuple #[.bool (rmf a b c d p), .int .i64 (fpc a b c d p)]) ∧ Below w.heap.size w w' := by
  have hd := fun W => iDisc0_any a b c d W
  have hr0 : isF a b c d = true → prm p = true → rmf a b c d p = decide ((dsc a b c d).tmod p = 0) := rmf_0
  have hrn : fpc a b c d p ≠ 0 → rmf a b c d p = false := rmf_n
  have hk : fpc a b c d p = 0 → isF a b c d = true ∧ prm p = true := fpc_0.1
  generalize dsc a b c d = D at hd hr0
  generalize rmf a b c d p = R at hr0 hrn ⊢
  have hc := fun W => iCheckFP_any a b c d p W
  generalize fpc a b c d p = k at hc hk hrn ⊢
  have HD := hid hd; have HR0 := hid hr0; have HRN := hid hrn; have HK := hid hk; have HC := hid hc
  clear hd hr0 hrn hk hc
  go_enter Try.func33, Try.ntmps33
  go_wp2_with fail
  refine (HC.out _).mono ?_
  rintro e w1 ⟨rfl, hb1⟩
  obtain ⟨_, c0, c1, c2, c3, _⟩ := (Arr.new w a b c d 23).next hb1
  by_cases h0 : k = 0
  · subst h0
    obtain ⟨hF, hp⟩ := HK.out rfl
    obtain ⟨h2, h97⟩ := prm_rng hp
    have HE := hid (HR0.out hF hp)
    clear hF hp
    go_wp2_with fail
    refine (HD.out _).mono ?_
    rintro e w2 ⟨rfl, hb2⟩
    go_wp2_with (go_at_call 82; refine (isMultiple_any _ _ _ (by omega) (by omega)).mono ?_; rintro e w' ⟨rfl, rfl⟩)
    go_ret2
    rw [HE.out, mul0_p h2]
    exact ⟨rfl, by (repeat' (first | with_reducible exact Below.refl _ _ | with_reducible assumption | with_reducible refine gr_alloc ?_ _ | with_reducible refine gr_drew ?_ | with_reducible refine gr_drewN ?_ _ | with_reducible refine gr_trans ?_ (by assumption) | with_reducible refine gr_set ?_ ?_ _ | (simp; done) | omega | (simp; omega)))⟩
  · have HE := hid (HRN.out h0)
    have h0' : (k == 0) = false := by simpa using h0
    clear h0
    go_wp2_with fail
    go_ret2
    rw [HE.out]
    exact ⟨rfl, by (repeat' (first | with_reducible exact Below.refl _ _ | with_reducible assumption | with_reducible refine gr_alloc ?_ _ | with_reducible refine gr_drew ?_ | with_reducible refine gr_drewN ?_ _ | with_reducible refine gr_trans ?_ (by assumption) | with_reducible refine gr_set ?_ ?_ _ | (simp; done) | omega | (simp; omega)))⟩

set_option maxHeartbeats 400000 in
theorem sIsRamified_any (a b c d p : Int) (w : World) : Calls Try.prog 31 #[.agg #[.int .i64 a, .int .i64 b, .int .i64 c, .int .i64 d], .int .i64 p] w fun e w' => e = .returned (.tuple #[.bool (rmf a b c d p), .int .i64 (fpc a b c d p)]) ∧ Below w.heap.size w w' := by
  have hd := fun W => sDisc0_any a b c d W
  have hr0 : isF a b c d = true → prm p = true → rmf a b c d p = decide ((dsc a b c d).tmod p = 0) := rmf_0
  have hrn : fpc a b c d p ≠ 0 → rmf a b c d p = false := rmf_n
  have hk : fpc a b c d p = 0 → isF a b c d = true ∧ prm p = true := fpc_0.1
  generalize dsc a b c d = D at hd hr0
  generalize rmf a b c d p = R at hr0 hrn ⊢
  have hc := fun W => l05Code_any a b c d p W
  generalize fpc a b c d p = k at hc hk hrn ⊢
  have HD := hid hd; have HR0 := hid hr0; have HRN := hid hrn; have HK := hid hk; have HC := hid hc
  clear hd hr0 hrn hk hc
  go_enter Try.func31, Try.ntmps31
  go_wp2_with fail
  refine (HC.out _).mono ?_
  rintro e w1 ⟨rfl, hb1⟩
  obtain ⟨_, c0, c1, c2, c3, _⟩ := (Arr.new w a b c d 23).next hb1
  by_cases h0 : k = 0
  · subst h0
    obtain ⟨hF, hp⟩ := HK.out rfl
    obtain ⟨h2, h97⟩ := prm_rng hp
    obtain ⟨hb1', hb2'⟩ := tmod_97 D p (by omega) h97
    have HE := hid (HR0.out hF hp)
    clear hF hp
    go_wp2_with fail
    refine (HD.out _).mono ?_
    rintro e w2 ⟨rfl, hb2⟩
    go_wp2_with fail
    go_ret2
    rw [HE.out]
    exact ⟨by simp [beq_dec], by (repeat' (first | with_reducible exact Below.refl _ _ | with_reducible assumption | with_reducible refine gr_alloc ?_ _ | with_reducible refine gr_drew ?_ | with_reducible refine gr_drewN ?_ _ | with_reducible refine gr_trans ?_ (by assumption) | with_reducible refine gr_set ?_ ?_ _ | (simp; done) | omega | (simp; omega)))⟩
  · have HE := hid (HRN.out h0)
    have h0' : (k == 0) = false := by simpa using h0
    clear h0
    go_wp2_with fail
    go_ret2
    rw [HE.out]
    exact ⟨rfl, by (repeat' (first | with_reducible exact Below.refl _ _ | with_reducible assumption | with_reducible refine gr_alloc ?_ _ | with_reducible refine gr_drew ?_ | with_reducible refine gr_drewN ?_ _ | with_reducible refine gr_trans ?_ (by assumption) | with_reducible refine gr_set ?_ ?_ _ | (simp; done) | omega | (simp; omega)))⟩


end Go.Proofs.Ytmhlolimaeejfaa
