/- Chapter 9: IdealNumbers of the model; SumOfIdeals, the program's and the model's. -/
import Derived.Test.YtihcmgjfkiaelaaDoorSe
namespace Go.Proofs.YtihcmgjfkiaelaaDoor
open Go.RowKit

set_option maxRecDepth 100000 in
set_option maxHeartbeats 2000000 in
theorem l09Many_any (a b c d n : Int) (w : World) : Calls Tryd.prog 77 #[.agg #[.int .i64 a, .int .i64 b, .int .i64 c, .int .i64 d], .int .i64 n] w fun e w' => e = .returned (.int .i64 (idc a b c d n)) ∧ Below w.heap.size w w' := by
  have HC := hid (fun W => l01Is_any a b c d W)
  have HW := hid (fun W => l01In_any n 1 500 W)
  have HI := hid (fun hF W => l05Irreducible_any a b c d W hF)
  have HN : Hid (isF a b c d = true → ∀ W, Calls Tryd.prog 101 #[.agg #[.int .i64 a, .int .i64 b, .int .i64 c, .int .i64 d]] W fun e w' => e = .returned (.int .i64 (cnt a b c d)) ∧ Below W.heap.size W w') := hid fun h W => by
    obtain ⟨ha, hb, hc, hd⟩ := isF_t h
    exact sCnt_any a b c d W ha hb hc hd
  have g1 := hid (@gvc_1 a b c d (rng 1 500 n))
  have g2 : Hid (isF a b c d = true → rng 1 500 n = false → gvc a b c d (rng 1 500 n) = 2) := hid fun h h' => by rw [h']; exact gvc_2 h
  have g5 : Hid (isF a b c d = true → rng 1 500 n = true → irb a b c d = false → gvc a b c d (rng 1 500 n) = 5) := hid fun h h' hi => by rw [h']; exact gvc_5 h hi
  have g0 : Hid (isF a b c d = true → rng 1 500 n = true → irb a b c d = true → gvc a b c d (rng 1 500 n) = 0) := hid fun h h' hi => by rw [h']; exact gvc_0 h hi
  have HI0 := hid (@idc_0 a b c d n); have HI5 := hid (@idc_5 a b c d n); have HIk := hid (@idc_k a b c d n)
  generalize gvc a b c d (rng 1 500 n) = gk at g1 g2 g5 g0 HI0 HI5 HIk
  generalize idc a b c d n = ic at HI0 HI5 HIk ⊢
  generalize irb a b c d = ib at HI g5 g0
  generalize cnt a b c d = cn at HN HI0 HI5
  have A0 := Arr.new w a b c d 25
  have U0 := gr_alloc (Below.refl w.heap.size w) (.cells #[.int .i64 a, .int .i64 b, .int .i64 c, .int .i64 d] 25)
  go_enter Tryd.func77, Tryd.ntmps77
  go_wp2_with fail
  refine (HC.out _).mono ?_
  rintro e w1 ⟨rfl, hb1⟩
  have A1 := A0.next hb1
  have U1 := gr_trans U0 hb1
  clear A0 U0
  cases hF : isF a b c d with
  | false =>
    have HE := hid (show ic = 1 by rw [HIk.out (by rw [g1.out hF]; omega), g1.out hF])
    go_wp2_with fail
    go_ret
    exact ⟨ret_int HE.out.symm, U1⟩
  | true =>
    cases hr : rng 1 500 n with
    | false =>
      have HE := hid (show ic = 2 by rw [HIk.out (by rw [g2.out hF hr]; omega), g2.out hF hr])
      go_wp2_with fail
      refine (HW.out _).mono ?_
      rintro e w2 ⟨rfl, rfl⟩
      go_wp2_with fail
      go_ret
      exact ⟨ret_int HE.out.symm, U1⟩
    | true =>
      have HI1 := hid (HI.out hF)
      have HN1 := hid (HN.out hF)
      clear HN
      obtain ⟨_, c0, c1, c2, c3, _⟩ := id A1
      cases ib with
      | false =>
        have HE := hid (show ic = 5 by rw [HIk.out (by rw [g5.out hF hr rfl]; omega), g5.out hF hr rfl])
        clear hF
        go_wp2_with fail
        refine (HW.out _).mono ?_
        rintro e w2 ⟨rfl, rfl⟩
        go_wp2_with fail
        refine (HI1.out _).mono ?_
        rintro e w2 ⟨rfl, hb2⟩
        go_wp2_with fail
        go_ret
        exact ⟨ret_int HE.out.symm, gr_trans U1 hb2⟩
      | true =>
        have hgk := g0.out hF hr rfl
        have HJ0 := hid (fun h => HI0.out hgk h); have HJ5 := hid (fun h => HI5.out hgk h)
        clear hF hgk HI0 HI5 HIk g1 g2 g5 g0
        go_wp2_with fail
        refine (HW.out _).mono ?_
        rintro e w2 ⟨rfl, rfl⟩
        go_wp2_with fail
        refine (HI1.out _).mono ?_
        rintro e w2 ⟨rfl, hb2⟩
        have A2 := A1.next hb2
        have U2 := gr_trans U1 hb2
        clear c0 c1 c2 c3 A1 U1
        obtain ⟨_, c0, c1, c2, c3, _⟩ := id A2
        go_wp2_with fail
        refine (HN1.out _).mono ?_
        rintro e w3 ⟨rfl, hb3⟩
        have U3 := gr_trans U2 hb3
        by_cases hc : cn = 1
        · have HE := hid (HJ0.out hc)
          have hcb : (cn == 1) = true := by simpa using hc
          clear hc
          go_wp2_with fail
          go_ret
          exact ⟨ret_int HE.out.symm, U3⟩
        · have HE := hid (HJ5.out hc)
          have hcb : (cn == 1) = false := by simpa using hc
          clear hc
          go_wp2_with fail
          go_ret
          exact ⟨ret_int HE.out.symm, U3⟩

theorem idc_t {a b c d n : Int} (h : idc a b c d n = 0) : isF a b c d = true ∧ 1 ≤ n ∧ n ≤ 500 := by
  unfold idc at h
  split at h
  · rename_i h0
    obtain ⟨h1, h2, _⟩ := gvc_t h0
    exact ⟨h1, rng_t h2⟩
  · omega
/-- A list behind the first number of a row, and a code. -/
def LstOff (code : Int) (len : Nat) (g : Nat → Int) (w : World) (e : Ending) (w' : World) : Prop :=
  ∃ v, e = .returned (.tuple #[v, .int .i64 code]) ∧ Rd1 w'.heap.size w' v (if code = 0 then len else 0) g ∧ Below w.heap.size w w'

set_option maxRecDepth 100000 in
set_option maxHeartbeats 2000000 in
theorem sIdeals_any (a b c d n : Int) (ND : Nat → List (Nat × Nat)) (hND : Nds ND) (w : World) : Calls Tryd.prog 30 #[.agg #[.int .i64 a, .int .i64 b, .int .i64 c, .int .i64 d], .int .i64 n] w (LstOff (idc a b c d n) n.toNat (idn a b c d ND) w) := by
  have HM := hid (fun W => l09Many_any a b c d n W)
  have HT := hid (@idc_t a b c d n)
  have HL : Hid (isF a b c d = true → ∀ m : Nat, 1 ≤ m → m ≤ 500 → ∀ W, Calls Tryd.prog 78 #[.agg #[.int .i64 a, .int .i64 b, .int .i64 c, .int .i64 d], .int .i64 ((m : Int))] W fun e w' => ∃ v, e = .returned v ∧ Rd1 w'.heap.size w' v m (idn a b c d ND) ∧ Below W.heap.size W w') := hid fun hF m h1 h5 W => l09Ideals_any a b c d m ND W hND hF h1 h5
  generalize idc a b c d n = ic at HM HT ⊢
  generalize idn a b c d ND = g at HL ⊢
  clear hND
  have A0 := Arr.new w a b c d 25
  have U0 := gr_alloc (Below.refl w.heap.size w) (.cells #[.int .i64 a, .int .i64 b, .int .i64 c, .int .i64 d] 25)
  go_enter Tryd.func30, Tryd.ntmps30
  go_wp2_with fail
  refine (HM.out _).mono ?_
  rintro e w1 ⟨rfl, hb1⟩
  have A1 := A0.next hb1
  have U1 := gr_trans U0 hb1
  clear A0 U0
  by_cases hk : ic = 0
  · obtain ⟨hF, h1, h5⟩ := HT.out hk
    obtain ⟨m, rfl⟩ : ∃ m : Nat, n = m := ⟨n.toNat, by omega⟩
    have HL1 := hid (HL.out hF m (by omega) (by omega))
    subst hk
    obtain ⟨_, c0, c1, c2, c3, _⟩ := id A1
    clear hF HL HT
    go_wp2_with fail
    refine (HL1.out _).mono ?_
    rintro e w2 ⟨v, rfl, hR, hb2⟩
    have HR := hid hR
    have hform : ∃ va cap, v = .slice va m cap := by
      rcases hR with ⟨rfl, h0⟩ | ⟨b, cap, rfl, _⟩
      · exact ⟨none, 0, by rw [h0]⟩
      · exact ⟨_, cap, rfl⟩
    obtain ⟨va, cap, rfl⟩ := hform
    clear hR
    go_wp2_with fail
    go_ret2
    exact ⟨_, rfl, by rw [if_pos rfl]; exact HR.out, gr_trans U1 hb2⟩
  · have hk' : (ic == 0) = false := by simpa using hk
    have HK := hid hk
    clear hk
    go_wp2_with fail
    go_ret2
    exact ⟨_, rfl, .inl ⟨rfl, by rw [if_neg HK.out]⟩, U1⟩

/-- The sum of the first numbers of a list. -/
def sms (g : Nat → Int) : Nat → Int
  | 0 => 0
  | k + 1 => pl (sms g k) (g k)
/-- What SumOfIdeals answers. -/
def smi (code : Int) (n : Nat) (g : Nat → Int) : Int := if code = 0 then sms g n else 0
theorem smi_e (code : Int) (n : Nat) (g : Nat → Int) : smi code n g = sms g (if code = 0 then n else 0) := by unfold smi; split <;> rfl

set_option maxRecDepth 100000 in
set_option maxHeartbeats 2000000 in
theorem iSum_any (a b c d n : Int) (ND : Nat → List (Nat × Nat)) (hND : Nds ND) (pv : Value) (w : World) (hg : Sen w pv) : Calls Tryd.prog 32 #[.agg #[.int .i64 a, .int .i64 b, .int .i64 c, .int .i64 d], .int .i64 n] w fun e w' => e = .returned (.tuple #[.int .i64 (smi (idc a b c d n) n.toNat (idn a b c d ND)), .int .i64 (idc a b c d n)]) ∧ Below w.heap.size w w' := by
  have HL := hid (fun W hg => iIdeals_any a b c d n ND hND pv W hg)
  rw [smi_e]
  unfold LstOut at HL
  have hlb : (if idc a b c d n = 0 then n.toNat else 0) ≤ 1000 := by
    split
    · rename_i h; have := idc_t h; omega
    · omega
  generalize idn a b c d ND = g at HL ⊢
  generalize (if idc a b c d n = 0 then n.toNat else 0) = len at HL hlb ⊢
  generalize idc a b c d n = ic at HL ⊢
  clear hND
  have HS := hid (show ∀ k, sms g (k + 1) = pl (sms g k) (g k) from fun _ => rfl)
  have HS0 := hid (show sms g 0 = 0 from rfl)
  generalize sms g = s at HS HS0 ⊢
  obtain ⟨_, c0, c1, c2, c3, _⟩ := Arr.new w a b c d 25
  have U0 := gr_alloc (Below.refl w.heap.size w) (.cells #[.int .i64 a, .int .i64 b, .int .i64 c, .int .i64 d] 25)
  have G0 := hg.alloc (.cells #[.int .i64 a, .int .i64 b, .int .i64 c, .int .i64 d] 25)
  go_enter Tryd.func32, Tryd.ntmps32
  go_wp2_with fail
  refine (HL.out _ G0).mono ?_
  rintro e w1 ⟨v, rfl, hV, hb1⟩
  have U1 := gr_trans U0 hb1
  have hform : ∃ va cap, v = .slice va len cap := by
    rcases hV with ⟨rfl, h⟩ | ⟨kb, cap, rfl, _⟩
    · exact ⟨none, 0, by rw [h]⟩
    · exact ⟨_, cap, rfl⟩
  obtain ⟨va, cap, rfl⟩ := hform
  have HV := hid hV.rdB
  clear hV c0 c1 c2 c3 U0 G0
  go_wp2_with fail
  go_loopw [8, 19] (fun s8 s19 wr => ∃ k : Nat, k ≤ len ∧ s19 = .int .i64 ((k : Int)) ∧ s8 = .int .i64 (s k) ∧ Below w1.heap.size w1 wr) (fun _ s19 _ => len - (intOf s19).toNat)
  case atStart => exact ⟨0, Nat.zero_le _, rfl, by rw [HS0.out], Below.refl _ _⟩
  case round =>
    obtain ⟨k, hk, rfl, rfl, hU⟩ := hrel
    have HU := hid hU
    clear hU
    by_cases hlt : k < len
    · rcases HV.out with ⟨_, h0⟩ | ⟨kb, cap', e', h7, h8, h9, hcell⟩
      · omega
      · cases e'
        have y0 : wr.cell? ⟨kb, k, none⟩ = some (.int .i64 (g k)) := (HU.out.cell (p := ⟨kb, k, none⟩) h9).trans (hcell k hlt)
        have HSk := hid (HS.out k)
        generalize g k = y at y0 HSk
        unfold maxLen at h8
        clear hcell
        go_wp2_with fail
        go_roundw
        case rel => exact ⟨k + 1, by omega, by go_num, by rw [HSk.out]; rfl, HU.out⟩
        case measure => simp [intOf]; omega
    · have e : k = len := by omega
      subst e
      go_wp2_with fail
      go_ret2
      exact ⟨rfl, gr_trans U1 HU.out⟩

set_option maxRecDepth 100000 in
set_option maxHeartbeats 2000000 in
theorem sSum_any (a b c d n : Int) (ND : Nat → List (Nat × Nat)) (hND : Nds ND) (w : World) : Calls Tryd.prog 35 #[.agg #[.int .i64 a, .int .i64 b, .int .i64 c, .int .i64 d], .int .i64 n] w fun e w' => e = .returned (.tuple #[.int .i64 (smi (idc a b c d n) n.toNat (idn a b c d ND)), .int .i64 (idc a b c d n)]) ∧ Below w.heap.size w w' := by
  have HM := hid (fun W => l09Many_any a b c d n W)
  have HT := hid (@idc_t a b c d n)
  have HL : Hid (isF a b c d = true → ∀ m : Nat, 1 ≤ m → m ≤ 500 → ∀ W, Calls Tryd.prog 78 #[.agg #[.int .i64 a, .int .i64 b, .int .i64 c, .int .i64 d], .int .i64 ((m : Int))] W fun e w' => ∃ v, e = .returned v ∧ Rd1 w'.heap.size w' v m (idn a b c d ND) ∧ Below W.heap.size W w') := hid fun hF m h1 h5 W => l09Ideals_any a b c d m ND W hND hF h1 h5
  generalize idc a b c d n = ic at HM HT ⊢
  generalize idn a b c d ND = g at HL ⊢
  clear hND
  have A0 := Arr.new w a b c d 25
  have U0 := gr_alloc (Below.refl w.heap.size w) (.cells #[.int .i64 a, .int .i64 b, .int .i64 c, .int .i64 d] 25)
  have HX := hid (fun (h : ¬ ic = 0) => (show smi ic n.toNat g = 0 by simp [smi, h]))
  have HY := hid (fun (h : ic = 0) => (show smi ic n.toNat g = sms g n.toNat by simp [smi, h]))
  generalize smi ic n.toNat g = y at HX HY ⊢
  go_enter Tryd.func35, Tryd.ntmps35
  go_wp2_with fail
  refine (HM.out _).mono ?_
  rintro e w1 ⟨rfl, hb1⟩
  have A1 := A0.next hb1
  have U1 := gr_trans U0 hb1
  clear A0 U0
  by_cases hk : ic = 0
  · obtain ⟨hF, h1, h5⟩ := HT.out hk
    obtain ⟨m, rfl⟩ : ∃ m : Nat, n = m := ⟨n.toNat, by omega⟩
    have HL1 := hid (HL.out hF m (by omega) (by omega))
    have HYe := hid (show y = sms g m from (HY.out hk))
    subst hk
    obtain ⟨_, c0, c1, c2, c3, _⟩ := id A1
    clear hF HL HT HX HY
    have HS := hid (show ∀ k, sms g (k + 1) = pl (sms g k) (g k) from fun _ => rfl)
    have HS0 := hid (show sms g 0 = 0 from rfl)
    generalize sms g = s at HS HS0 HYe
    go_wp2_with fail
    refine (HL1.out _).mono ?_
    rintro e w2 ⟨v, rfl, hR, hb2⟩
    have HR := hid hR
    have U2 := gr_trans U1 hb2
    have hform : ∃ va cap, v = .slice va m cap := by
      rcases hR with ⟨rfl, h0⟩ | ⟨b, cap, rfl, _⟩
      · exact ⟨none, 0, by rw [h0]⟩
      · exact ⟨_, cap, rfl⟩
    obtain ⟨va, cap, rfl⟩ := hform
    clear hR c0 c1 c2 c3
    go_wp2_with fail
    go_loopw [8, 9] (fun s8 s9 wr => ∃ k : Nat, k ≤ m ∧ s9 = .int .i64 ((k : Int)) ∧ s8 = .int .i64 (s k) ∧ Below w2.heap.size w2 wr) (fun _ s9 _ => m - (intOf s9).toNat)
    case atStart => exact ⟨0, Nat.zero_le _, rfl, by rw [HS0.out], Below.refl _ _⟩
    case round =>
      obtain ⟨k, hk, rfl, rfl, hU⟩ := hrel
      have HU := hid hU
      clear hU
      by_cases hlt : k < m
      · rcases HR.out with ⟨_, h0⟩ | ⟨kb, cap', e', h7, h8, h9, hcell⟩
        · omega
        · cases e'
          have y0 : wr.cell? ⟨kb, 1 + k, none⟩ = some (.int .i64 (g k)) := (HU.out.cell (p := ⟨kb, 1 + k, none⟩) h9).trans (hcell k hlt)
          have HSk := hid (HS.out k)
          generalize g k = y at y0 HSk
          unfold maxLen at h8
          clear hcell
          go_wp2_with fail
          go_roundw
          case rel => exact ⟨k + 1, by omega, by go_num, by rw [HSk.out]; rfl, HU.out⟩
          case measure => simp [intOf]; omega
      · have e : k = m := by omega
        subst e
        go_wp2_with fail
        go_ret2
        exact ⟨ret_tup2 HYe.out.symm rfl, gr_trans U2 HU.out⟩
  · have hk' : (ic == 0) = false := by simpa using hk
    have HK := hid (HX.out hk)
    clear hk HX HY HT
    go_wp2_with fail
    go_ret2
    exact ⟨ret_tup2 HK.out.symm rfl, U1⟩




end Go.Proofs.YtihcmgjfkiaelaaDoor
