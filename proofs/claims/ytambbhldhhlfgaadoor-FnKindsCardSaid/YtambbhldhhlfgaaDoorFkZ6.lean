/- Several texts in one: XPd, XRa, XRb. -/
import Derived.Test.YtambbhldhhlfgaaDoorFkZ3
import Derived.Test.YtambbhldhhlfgaaDoorFkZ5
import Derived.Test.YtambbhldhhlfgaaDoorFkMul
import Derived.Test.YtambbhldhhlfgaaDoorFkZ4

/- Chapter 5: a form and a prime; multiples; ramified primes. -/
namespace Go.Proofs.YtambbhldhhlfgaaDoor
open Go.RowKit

theorem tmod_97 (n m : Int) (h1 : 1 ≤ m) (h : m ≤ 97) : -97 ≤ n.tmod m ∧ n.tmod m ≤ 97 := by
  have := Int.natAbs_tmod n m
  have hb : n.natAbs % m.natAbs < m.natAbs := Nat.mod_lt _ (by omega)
  omega

theorem tmod_499 (n m : Int) (h1 : 1 ≤ m) (h : m ≤ 499) : -499 ≤ n.tmod m ∧ n.tmod m ≤ 499 := by
  have := Int.natAbs_tmod n m
  have hb : n.natAbs % m.natAbs < m.natAbs := Nat.mod_lt _ (by omega)
  omega

set_option maxHeartbeats 400000 in
theorem iCheckFP_any (a b c d p : Int) (w : World) : Calls Tryd.prog 84 #[.agg #[.int .i64 a, .int .i64 b, .int .i64 c, .int .i64 d], .int .i64 p] w fun e w' => e = .returned (.int .i64 (fpc a b c d p)) ∧ Below w.heap.size w w' := by
  go_enter Tryd.func84, Tryd.ntmps84
  go_wp2_with fail
  refine (iIsForm_any a b c d _).mono ?_
  rintro e w1 ⟨rfl, hb1⟩
  cases hF : isF a b c d with
  | false =>
    go_wp2_with fail
    go_ret
    exact ⟨ret_int (by simp [fpc, hF]), by (repeat' (first | with_reducible exact Below.refl _ _ | with_reducible assumption | with_reducible refine gr_alloc ?_ _ | with_reducible refine gr_drew ?_ | with_reducible refine gr_drewN ?_ _ | with_reducible refine gr_trans ?_ (by assumption) | with_reducible refine gr_set ?_ ?_ _ | (simp; done) | omega | (simp; omega)))⟩
  | true =>
    cases hp : prm p with
    | false =>
      go_wp2_with (go_at_call 144; refine (isPrime_any _ _).mono ?_; rintro e w' ⟨rfl, rfl⟩)
      go_ret
      exact ⟨ret_int (by simp [fpc, hF, hp]), by (repeat' (first | with_reducible exact Below.refl _ _ | with_reducible assumption | with_reducible refine gr_alloc ?_ _ | with_reducible refine gr_drew ?_ | with_reducible refine gr_drewN ?_ _ | with_reducible refine gr_trans ?_ (by assumption) | with_reducible refine gr_set ?_ ?_ _ | (simp; done) | omega | (simp; omega)))⟩
    | true =>
      go_wp2_with (go_at_call 144; refine (isPrime_any _ _).mono ?_; rintro e w' ⟨rfl, rfl⟩)
      go_ret
      exact ⟨ret_int (by simp [fpc, hF, hp]), by (repeat' (first | with_reducible exact Below.refl _ _ | with_reducible assumption | with_reducible refine gr_alloc ?_ _ | with_reducible refine gr_drew ?_ | with_reducible refine gr_drewN ?_ _ | with_reducible refine gr_trans ?_ (by assumption) | with_reducible refine gr_set ?_ ?_ _ | (simp; done) | omega | (simp; omega)))⟩

set_option maxHeartbeats 400000 in
theorem l05Code_any (a b c d p : Int) (w : World) : Calls Tryd.prog 142 #[.agg #[.int .i64 a, .int .i64 b, .int .i64 c, .int .i64 d], .int .i64 p] w fun e w' => e = .returned (.int .i64 (fpc a b c d p)) ∧ Below w.heap.size w w' := by
  go_enter Tryd.func142, Tryd.ntmps142
  go_wp2_with fail
  refine (l01Is_any a b c d _).mono ?_
  rintro e w1 ⟨rfl, hb1⟩
  cases hF : isF a b c d with
  | false =>
    go_wp2_with fail
    go_ret
    exact ⟨ret_int (by simp [fpc, hF]), by (repeat' (first | with_reducible exact Below.refl _ _ | with_reducible assumption | with_reducible refine gr_alloc ?_ _ | with_reducible refine gr_drew ?_ | with_reducible refine gr_drewN ?_ _ | with_reducible refine gr_trans ?_ (by assumption) | with_reducible refine gr_set ?_ ?_ _ | (simp; done) | omega | (simp; omega)))⟩
  | true =>
    cases hp : prm p with
    | false =>
      go_wp2_with (go_at_call 152; refine (l05Prime_any _ _).mono ?_; rintro e w' ⟨rfl, rfl⟩)
      go_ret
      exact ⟨ret_int (by simp [fpc, hF, hp]), by (repeat' (first | with_reducible exact Below.refl _ _ | with_reducible assumption | with_reducible refine gr_alloc ?_ _ | with_reducible refine gr_drew ?_ | with_reducible refine gr_drewN ?_ _ | with_reducible refine gr_trans ?_ (by assumption) | with_reducible refine gr_set ?_ ?_ _ | (simp; done) | omega | (simp; omega)))⟩
    | true =>
      go_wp2_with (go_at_call 152; refine (l05Prime_any _ _).mono ?_; rintro e w' ⟨rfl, rfl⟩)
      go_ret
      exact ⟨ret_int (by simp [fpc, hF, hp]), by (repeat' (first | with_reducible exact Below.refl _ _ | with_reducible assumption | with_reducible refine gr_alloc ?_ _ | with_reducible refine gr_drew ?_ | with_reducible refine gr_drewN ?_ _ | with_reducible refine gr_trans ?_ (by assumption) | with_reducible refine gr_set ?_ ?_ _ | (simp; done) | omega | (simp; omega)))⟩

/-- Is p ramified? -/
def rmf (a b c d p : Int) : Bool := decide (fpc a b c d p = 0) && decide ((dsc a b c d).tmod p = 0)
theorem rmf_0 {a b c d p : Int} (h : isF a b c d = true) (hp : prm p = true) : rmf a b c d p = decide ((dsc a b c d).tmod p = 0) := by simp [rmf, fpc, h, hp]
theorem rmf_n {a b c d p : Int} (h : fpc a b c d p ≠ 0) : rmf a b c d p = false := by simp [rmf, h]

set_option maxHeartbeats 400000 in
theorem iIsRamified_any (a b c d p : Int) (w : World) : Calls Tryd.prog 60 #[.agg #[.int .i64 a, .int .i64 b, .int .i64 c, .int .i64 d], .int .i64 p] w fun e w' => e = .returned (.tuple #[.bool (rmf a b c d p), .int .i64 (fpc a b c d p)]) ∧ Below w.heap.size w w' := by
  have hd := fun W => iDisc0_any a b c d W
  have hr0 : isF a b c d = true → prm p = true → rmf a b c d p = decide ((dsc a b c d).tmod p = 0) := rmf_0
  have hrn : fpc a b c d p ≠ 0 → rmf a b c d p = false := rmf_n
  have hk : fpc a b c d p = 0 → isF a b c d = true ∧ prm p = true := fpc_0.1
  generalize dsc a b c d = D at hd hr0
  generalize rmf a b c d p = R at hr0 hrn ⊢
  have hc := fun W => iCheckFP_any a b c d p W
  generalize fpc a b c d p = k at hc hk hrn ⊢
  have HD := hid hd; have HR0 := hid hr0; have HRN := hid hrn; have HK := hid hk; have HC := hid hc
  clear hd hr0 hrn hk hc
  go_enter Tryd.func60, Tryd.ntmps60
  go_wp2_with fail
  refine (HC.out _).mono ?_
  rintro e w1 ⟨rfl, hb1⟩
  obtain ⟨_, c0, c1, c2, c3, _⟩ := (Arr.new w a b c d 25).next hb1
  by_cases h0 : k = 0
  · subst h0
    obtain ⟨hF, hp⟩ := HK.out rfl
    obtain ⟨h2, h97⟩ := prm_rng hp
    have HE := hid (HR0.out hF hp)
    clear hF hp
    go_wp2_with fail
    refine (HD.out _).mono ?_
    rintro e w2 ⟨rfl, hb2⟩
    go_wp2_with (go_at_call 85; refine (isMultiple_any _ _ _ (by omega) (by omega)).mono ?_; rintro e w' ⟨rfl, rfl⟩)
    go_ret2
    rw [HE.out, mul0_p h2]
    exact ⟨rfl, by (repeat' (first | with_reducible exact Below.refl _ _ | with_reducible assumption | with_reducible refine gr_alloc ?_ _ | with_reducible refine gr_drew ?_ | with_reducible refine gr_drewN ?_ _ | with_reducible refine gr_trans ?_ (by assumption) | with_reducible refine gr_set ?_ ?_ _ | (simp; done) | omega | (simp; omega)))⟩
  · have HE := hid (HRN.out h0)
    have h0' : (k == 0) = false := by simpa using h0
    clear h0
    go_wp2_with fail
    go_ret2
    rw [HE.out]
    exact ⟨rfl, by (repeat' (first | with_reducible exact Below.refl _ _ | with_reducible assumption | with_reducible refine gr_alloc ?_ _ | with_reducible refine gr_drew ?_ | with_reducible refine gr_drewN ?_ _ | with_reducible refine gr_trans ?_ (by assumption) | with_reducible refine gr_set ?_ ?_ _ | (simp; done) | omega | (simp; omega)))⟩




end Go.Proofs.YtambbhldhhlfgaaDoor

/- Chapter 5: values and quotients of forms of any degree, the program's. -/
namespace Go.Proofs.YtambbhldhhlfgaaDoor
open Go.RowKit

/-- A slice, not nil, that reads as a list. -/
def RdP (w : World) (v : Value) (L : List Int) : Prop := ∃ b cap, v = .slice (some ⟨b, 0, none⟩) L.length cap ∧ L.length ≤ cap ∧ cap ≤ maxLen ∧ b < w.heap.size ∧ ∀ i, i < L.length → w.cell? ⟨b, i, none⟩ = some (.int .i64 (L.getD i 0))
theorem RdP.next {w w' : World} {v : Value} {L : List Int} (h : RdP w v L) (hb : Below w.heap.size w w') : RdP w' v L := by
  obtain ⟨b, cap, h1, h2, h3, h4, h5⟩ := h
  exact ⟨b, cap, h1, h2, h3, Nat.lt_of_lt_of_le h4 hb.size, fun i hi => (hb.cell (p := ⟨b, i, none⟩) h4).trans (h5 i hi)⟩
theorem OwnV.rdP {B : Nat} {w : World} {v : Value} {L : List Int} (h : OwnV B w v L.length (fun i => L.getD i 0)) (hL : L ≠ []) : RdP w v L := by
  rcases h with ⟨_, h⟩ | ⟨k, cap, h1, _, h2, h3, h4, h5⟩
  · exact absurd (List.length_eq_zero_iff.1 h) hL
  · exact ⟨k, cap, h1, h3, h4, h2, fun i hi => (h5 i hi).1⟩
theorem RdP.arr {w : World} {k : Nat} {a b c d : Int} (h : Arr w k a b c d) : RdP w (.slice (some ⟨k, 0, none⟩) 4 4) [a, b, c, d] := by
  refine ⟨k, 4, rfl, Nat.le_refl _, by decide, h.lt, fun i hi => ?_⟩
  match i, hi with
  | 0, _ => exact h.c0
  | 1, _ => exact h.c1
  | 2, _ => exact h.c2
  | 3, _ => exact h.c3

/-- One step of a value: the value so far, the power of y. -/
def nst (x y : Int) (s : Int × Int) (n : Int) : Int × Int := (pl (mu s.1 x) (mu n s.2), mu s.2 y)
def nsK (x y : Int) (L : List Int) (k : Nat) : Int × Int := (L.take k).foldl (nst x y) (0, 1)
/-- The value of a form of any degree, as int64 has it. -/
def nva (L : List Int) (x y : Int) : Int := (L.foldl (nst x y) (0, 1)).1
theorem take_succ_getD (L : List Int) (k : Nat) (h : k < L.length) : L.take (k + 1) = L.take k ++ [L.getD k 0] := by
  rw [List.take_succ_eq_append_getElem h]; simp [List.getD, h]
theorem nsK_0 (x y : Int) (L : List Int) : nsK x y L 0 = (0, 1) := rfl
theorem nsK_s {x y : Int} {L : List Int} {k : Nat} (h : k < L.length) : nsK x y L (k + 1) = (pl (mu (nsK x y L k).1 x) (mu (L.getD k 0) (nsK x y L k).2), mu (nsK x y L k).2 y) := by
  unfold nsK; rw [take_succ_getD L k h, List.foldl_append]; rfl
theorem nsK_e {x y : Int} {L : List Int} : (nsK x y L L.length).1 = nva L x y := by unfold nsK nva; rw [List.take_length]

set_option maxRecDepth 100000 in
set_option maxHeartbeats 1000000 in
theorem numbersAt_any (v : Value) (L : List Int) (x y : Int) (w : World) (h : RdP w v L) :
    Calls Tryd.prog 187 #[v, .agg #[.int .i64 x, .int .i64 y]] w fun e w' => e = .returned (.int .i64 (nva L x y)) ∧ Below w.heap.size w w' := by
  obtain ⟨b, cap, rfl, hlc, hcm, hb, hc⟩ := h
  have HC := hid hc
  have HE := hid (@nsK_e x y L)
  have HS := hid (fun k => @nsK_s x y L k)
  have HZ := hid (nsK_0 x y L)
  clear hc
  generalize hn : L.length = n at hlc HC HE HS ⊢
  clear hn
  generalize nva L x y = V at HE ⊢
  generalize nsK x y L = S at HE HS HZ
  generalize L.getD = G at HC HS
  unfold maxLen at hcm
  go_enter Tryd.func187, Tryd.ntmps187
  go_wp2
  have hX := Bx.new w #[.int .i64 x, .int .i64 y] 136
  have U0 := gr_alloc (Below.refl w.heap.size w) (.cells #[.int .i64 x, .int .i64 y] 136)
  go_loop [5, 6, 11] (fun s5 s6 s11 => ∃ k : Nat, k ≤ n ∧ s11 = .int .i64 ((k : Int)) ∧ s5 = .int .i64 ((S k).1) ∧ s6 = .int .i64 ((S k).2)) (fun _ _ s11 => n - (intOf s11).toNat)
  case atStart => exact ⟨0, Nat.zero_le _, rfl, by rw [HZ.out], by rw [HZ.out]⟩
  case round =>
    obtain ⟨k, hk, rfl, rfl, rfl⟩ := hrel
    by_cases hlt : k < n
    · have hck : (w.alloc (.cells #[.int .i64 x, .int .i64 y] 136)).cell? ⟨b, k, none⟩ = some (.int .i64 (G k 0)) := (U0.cell (p := ⟨b, k, none⟩) hb).trans (HC.out k hlt)
      have hx0 := hX.cell 0
      have hx1 := hX.cell 1
      have HSk := hid (HS.out k hlt)
      generalize G k 0 = q at hck HSk
      clear hX U0 HS HZ
      go_wp2
      go_round
      case rel => exact ⟨k + 1, by omega, by go_num, by rw [HSk.out]; rfl, by rw [HSk.out]; rfl⟩
      case measure => simp [intOf]; omega
    · have e : k = n := by omega
      subst e
      go_wp2
      go_ret
      exact ⟨ret_int HE.out, U0⟩

/-- One step of a quotient: the number before, all so far. -/
def dst (x y : Int) (s : Int × List Int) (n : Int) : Int × List Int := (wrap64 ((pl n (mu x s.1)).tdiv y), s.2 ++ [wrap64 ((pl n (mu x s.1)).tdiv y)])
def dsK (x y : Int) (L : List Int) (k : Nat) : Int × List Int := (L.take k).foldl (dst x y) (0, [])
/-- The quotient by y X - x Y. -/
def dvd (L : List Int) (x y : Int) : List Int := if y = 0 then (L.drop 1).map (fun n => wrap64 (-n)) else (L.dropLast.foldl (dst x y) (0, [])).2
theorem dsK_0 (x y : Int) (L : List Int) : dsK x y L 0 = (0, []) := rfl
theorem dsK_s {x y : Int} {L : List Int} {k : Nat} (h : k < L.length) : dsK x y L (k + 1) = (wrap64 ((pl (L.getD k 0) (mu x (dsK x y L k).1)).tdiv y), (dsK x y L k).2 ++ [wrap64 ((pl (L.getD k 0) (mu x (dsK x y L k).1)).tdiv y)]) := by
  unfold dsK; rw [take_succ_getD L k h, List.foldl_append]; rfl
theorem dsK_len {x y : Int} {L : List Int} {k : Nat} (h : k ≤ L.length) : (dsK x y L k).2.length = k := by
  induction k with
  | zero => rfl
  | succ k ih => rw [dsK_s (by omega)]; simp [ih (by omega)]
theorem dsK_e {x y : Int} {L : List Int} {n : Nat} (hL : L.length = n + 1) (hy : y ≠ 0) : (dsK x y L n).2 = dvd L x y := by
  unfold dsK dvd; rw [if_neg hy, List.dropLast_eq_take, hL]; rfl
theorem dvd_len {x y : Int} {L : List Int} {n : Nat} (hL : L.length = n + 1) : (dvd L x y).length = n := by
  by_cases hy : y = 0
  · simp [dvd, hy, hL]
  · rw [← dsK_e hL hy]; exact dsK_len (by omega)


end Go.Proofs.YtambbhldhhlfgaaDoor

/- Chapter 5: quotients of forms of any degree, the program's. -/
namespace Go.Proofs.YtambbhldhhlfgaaDoor
open Go.RowKit

def ngK (L : List Int) (k : Nat) : List Int := ((L.drop 1).take k).map (fun n => wrap64 (-n))
theorem ngK_s {L : List Int} {n k : Nat} (hL : L.length = n + 1) (h : k < n) : ngK L (k + 1) = ngK L k ++ [wrap64 (-(L.getD (k + 1) 0))] := by
  unfold ngK
  rw [take_succ_getD _ k (by simp; omega)]
  simp [List.getD]
theorem ngK_len {L : List Int} {n k : Nat} (hL : L.length = n + 1) (h : k ≤ n) : (ngK L k).length = k := by
  unfold ngK; simp; omega
theorem ngK_e {L : List Int} {n : Nat} (hL : L.length = n + 1) {x : Int} : ngK L n = dvd L x 0 := by
  unfold ngK dvd; simp; rw [List.take_of_length_le (by simp; omega)]
theorem own_app {w : World} {B : Nat} {t : TypeId} {v : Value} {k : Nat} {M M' : List Int} {z : Int} (hl : M.length = k) (hs : M' = M ++ [z]) (h : w.ownsRow B t 1 v (k + 1) (M.map (Value.int .i64) ++ [.int .i64 z])) : w.ownsRow B t 1 v M'.length (M'.map (Value.int .i64)) := by
  subst hs; simpa [hl] using h
theorem own_len {w : World} {B : Nat} {t : TypeId} {v : Value} {k : Nat} {M : List Int} (hl : M.length = k) (h : w.ownsRow B t 1 v M.length (M.map (Value.int .i64))) : w.ownsRow B t 1 v k (M.map (Value.int .i64)) := by
  subst hl; exact h

set_option maxRecDepth 100000 in
set_option maxHeartbeats 2000000 in
theorem dividedAt_any (v : Value) (L : List Int) (x y : Int) (n : Nat) (w : World) (h : RdP w v L) (hL : L.length = n + 1) (hn : 1 ≤ n) (hn9 : n ≤ 9) :
    Calls Tryd.prog 188 #[v, .agg #[.int .i64 x, .int .i64 y]] w (LstV (dvd L x y).length (fun i => (dvd L x y).getD i 0) w) := by
  obtain ⟨b, cap, rfl, hlc, hcm, hb, hc⟩ := h
  have HC := hid hc
  have HL := hid hL
  obtain ⟨i0, hi, hi0, hi1, hi2⟩ := info_parts info_l64
  have HI := hid hi; have HZ0 := hid hi0; have HZ1 := hid hi1; have HZ2 := hid hi2
  clear hc hi hi0 hi1 hi2
  rw [hL] at hlc ⊢
  clear hL
  unfold maxLen at hcm
  have hX := Bx.new w #[.int .i64 x, .int .i64 y] 136
  have U0 := gr_alloc (Below.refl w.heap.size w) (.cells #[.int .i64 x, .int .i64 y] 136)
  have O0 := World.ownsRow_nil (w.alloc (.cells #[.int .i64 x, .int .i64 y] 136)) w.heap.size 2 1
  have hx0 := hX.cell 0
  have hx1 := hX.cell 1
  by_cases hy : y = 0
  · subst hy
    have HE := hid (@ngK_e L n HL.out x)
    generalize dvd L x 0 = D at HE ⊢
    go_enter Tryd.func188, Tryd.ntmps188
    go_upto_region 1 with fail
    have U1 := gr_drewN U0 1
    clear hX
    go_quiet (fail)
    rename_i nq
    have U1 := hid (gr_drewN U0 nq)
    have O1 := World.ownsRow_nil ((w.alloc (.cells #[.int .i64 x, .int .i64 0] 136)).drewN nq) w.heap.size 2 1
    clear U0 O0 hx0 hx1
    have HO1 := hid O1
    clear O1
    go_wp2
    go_loopw [7, 9, 22] (fun s7 _ s22 wr => ∃ k : Nat, k ≤ n ∧ s22 = .int .i64 ((k : Int)) ∧ wr.ownsRow w.heap.size 2 1 s7 k ((ngK L k).map (Value.int .i64)) ∧ Below w.heap.size w wr) (fun _ _ s22 _ => n - (intOf s22).toNat)
    case atStart => exact ⟨0, Nat.zero_le _, rfl, HO1.out, U1.out⟩
    case round =>
      obtain ⟨k, hk, rfl, hO, hU⟩ := hrel
      have HO := hid hO; have HU := hid hU
      have hv := hU.size
      clear hO hU
      by_cases hlt : k < n
      · have hck : wr.cell? ⟨b, 1 + k, none⟩ = some (.int .i64 (L.getD (k + 1) 0)) := (HU.out.cell (p := ⟨b, 1 + k, none⟩) hb).trans (by rw [Nat.add_comm 1 k]; exact HC.out (k + 1) (by rw [HL.out]; omega))
        have HS := hid (ngK_s HL.out hlt)
        have HN := hid (ngK_len HL.out hk)
        generalize L.getD (k + 1) 0 = q at hck HS
        clear HE HO1 U1
        go_wp2_with (at_builtin; refine wpList_append_own _ rfl _ _ 32 rfl w.heap.size 2 i0 (.int .i64 0) 1 8 Tryd.underlying32 HI.out HZ0.out HZ1.out HZ2.out rfl (by decide) _ _ _ rfl (HO.out.alloc _) ⟨wr.heap.size, 0, none⟩ 1 1 [.int .i64 (wrap64 (-q))] rfl rfl ?a1 ?b1 ?c1 ?d1 ?e1 ?_)
        case a1 =>
          intro j u hj
          match j, hj with
          | 0, hj => simp at hj; subst hj; simp [Addr.add, go_sem]
        case b1 => first | (intro u hu; simp at hu; subst hu; rfl) | rfl | simp [Value.oneCell']
        case c1 => unfold maxLen; omega
        case d1 => omega
        case e1 => first | omega | (simp; omega)
        intro y1 W1 O1 hg1 _
        have HO2 := hid (own_app HN.out HS.out O1)
        have HU1 := hid (gr_own (gr_alloc HU.out _) hg1 (fun j hj => (HO.out.lt j hj).1))
        clear O1 hg1
        go_wp2
        go_roundw
        case rel => exact ⟨k + 1, by omega, by go_num, own_len (ngK_len HL.out (by omega)) HO2.out, HU1.out⟩
        case measure => simp [intOf]; omega
      · have e : k = n := by omega
        subst e
        have HO3 := hid (HE.out ▸ HO.out)
        have HN := hid (show D.length = k by rw [← HE.out]; exact ngK_len HL.out (Nat.le_refl _))
        clear HO
        go_wp2
        go_ret
        exact ⟨_, rfl, OwnV.of_owns (by rw [HN.out]; exact HO3.out), HU.out⟩
  · have HY := hid hy
    have hy' : (y == 0) = false := by simpa using hy
    have HE := hid (@dsK_e x y L n HL.out hy)
    clear hy
    generalize dvd L x y = D at HE ⊢
    go_enter Tryd.func188, Tryd.ntmps188
    go_upto_region 1 with fail
    clear hX
    go_quiet (fail)
    rename_i nq
    have U1 := hid (gr_drewN U0 nq)
    have O1 := World.ownsRow_nil ((w.alloc (.cells #[.int .i64 x, .int .i64 y] 136)).drewN nq) w.heap.size 2 1
    have HO1 := hid O1
    clear U0 O0 hx0 hx1 O1
    go_wp2
    go_loopw [7, 10, 12, 39] (fun s7 s10 _ s39 wr => ∃ k : Nat, k ≤ n ∧ s39 = .int .i64 ((k : Int)) ∧ s10 = .int .i64 ((dsK x y L k).1) ∧ wr.ownsRow w.heap.size 2 1 s7 k ((dsK x y L k).2.map (Value.int .i64)) ∧ Below w.heap.size w wr) (fun _ _ _ s39 _ => n - (intOf s39).toNat)
    case atStart => exact ⟨0, Nat.zero_le _, rfl, rfl, HO1.out, U1.out⟩
    case round =>
      obtain ⟨k, hk, rfl, rfl, hO, hU⟩ := hrel
      have HO := hid hO; have HU := hid hU
      have hv := hU.size
      clear hO hU
      by_cases hlt : k < n
      · have hck : wr.cell? ⟨b, k, none⟩ = some (.int .i64 (L.getD k 0)) := (HU.out.cell (p := ⟨b, k, none⟩) hb).trans (HC.out k (by rw [HL.out]; omega))
        have HS := hid (@dsK_s x y L k (by rw [HL.out]; omega))
        have HN := hid (@dsK_len x y L k (by rw [HL.out]; omega))
        generalize L.getD k 0 = q at hck HS
        generalize (dsK x y L k).1 = s at HS ⊢
        clear HE HO1 U1
        go_wp2_with (at_builtin; refine wpList_append_own _ rfl _ _ 32 rfl w.heap.size 2 i0 (.int .i64 0) 1 8 Tryd.underlying32 HI.out HZ0.out HZ1.out HZ2.out rfl (by decide) _ _ _ rfl (HO.out.alloc _) ⟨wr.heap.size, 0, none⟩ 1 1 [.int .i64 (wrap64 ((pl q (mu x s)).tdiv y))] rfl rfl ?a2 ?b2 ?c2 ?d2 ?e2 ?_)
        case a2 =>
          intro j u hj
          match j, hj with
          | 0, hj => simp at hj; subst hj; simp [Addr.add, go_sem, pl, mu]
        case b2 => first | (intro u hu; simp at hu; subst hu; rfl) | rfl | simp [Value.oneCell']
        case c2 => unfold maxLen; omega
        case d2 => omega
        case e2 => first | omega | (simp; omega)
        intro y1 W1 O1 hg1 _
        have HO2 := hid (own_app HN.out (congrArg Prod.snd HS.out) O1)
        have HU1 := hid (gr_own (gr_alloc HU.out _) hg1 (fun j hj => (HO.out.lt j hj).1))
        clear O1 hg1
        go_wp2
        go_roundw
        case rel => exact ⟨k + 1, by omega, by go_num, by rw [HS.out]; rfl, own_len (dsK_len (by rw [HL.out]; omega)) HO2.out, HU1.out⟩
        case measure => simp [intOf]; omega
      · have e : k = n := by omega
        subst e
        have HO3 := hid (HE.out ▸ HO.out)
        have HN := hid (show D.length = k by rw [← HE.out]; exact dsK_len (by rw [HL.out]; omega))
        clear HO
        go_wp2
        go_ret
        exact ⟨_, rfl, OwnV.of_owns (by rw [HN.out]; exact HO3.out), HU.out⟩


end Go.Proofs.YtambbhldhhlfgaaDoor
