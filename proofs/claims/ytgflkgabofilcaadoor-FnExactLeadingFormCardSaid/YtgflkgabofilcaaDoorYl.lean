/- Chapter 9: signatures, groups, leading forms, pure fields. -/
import Derived.Test.YtgflkgabofilcaaDoorYk
namespace Go.Proofs.YtgflkgabofilcaaDoor
open Go.RowKit

theorem dx_b9 {a b c d A : Int} (ha : -A ≤ a ∧ a ≤ A) (hb : -A ≤ b ∧ b ≤ A) (hc : -A ≤ c ∧ c ≤ A) (hd : -A ≤ d ∧ d ≤ A) : -(54 * (A * A * A * A)) ≤ dx a b c d ∧ dx a b c d ≤ 54 * (A * A * A * A) := by
  have h1 := mulb4 hb hb hc hc
  have h2 := mulb4 ha hc hc hc
  have h3 := mulb4 hb hb hb hd
  have h4 := mulb4 ha ha hd hd
  have h5 := mulb4 ha hb hc hd
  have e : dx a b c d = b * b * c * c - 4 * (a * c * c * c) - 4 * (b * b * b * d) - 27 * (a * a * d * d) + 18 * (a * b * c * d) := by
    unfold dx; grind
  omega
theorem dsc_b9 {a b c d : Int} (h : isF a b c d = true) : dsc a b c d = dx a b c d ∧ -54000000000000 ≤ dsc a b c d ∧ dsc a b c d ≤ 54000000000000 := by
  obtain ⟨ha, hb, hc, hd⟩ := isF_t h
  have h1 := dx_b9 ha hb hc hd
  simp only [Int.reduceMul] at h1
  have e : dsc a b c d = dx a b c d := by rw [dsc_wr]; exact wr_in (by omega)
  rw [e]
  exact ⟨rfl, by omega, by omega⟩

/-- The signature, 0 where the code is not 0. -/
def sgA (k D : Int) : Int := if k = 0 then (if 0 < D then 3 else 1) else 0
def sgB (k D : Int) : Int := if k = 0 then (if 0 < D then 0 else 1) else 0
def grO (k D : Int) : Int := if k = 0 then (if sqb D then 3 else 6) else 0
def puB (k D : Int) : Bool := decide (k = 0) && sqb (-3 * D)
theorem sg_pos {x : Int} : decide (0 < sg x) = decide (0 < x) := by
  unfold sg; split
  · simp; omega
  · split <;> simp <;> omega

set_option maxRecDepth 100000 in
set_option maxHeartbeats 1000000 in
theorem iSig_any (a b c d : Int) (pv : Value) (w : World) (hg : Sen w pv) : Calls Tryd.prog 13 #[.agg #[.int .i64 a, .int .i64 b, .int .i64 c, .int .i64 d]] w fun e w' => e = .returned (.tuple #[.int .i64 (sgA (gvc a b c d true) (dsc a b c d)), .int .i64 (sgB (gvc a b c d true) (dsc a b c d)), .int .i64 (gvc a b c d true)]) ∧ Below w.heap.size w w' := by
  have HI := hid (fun W hg => iGiven_any a b c d true pv W hg)
  have HS := hid (fun W => iSign_any a b c d W)
  have H2 := hid (@sg_pos (dsc a b c d))
  generalize dsc a b c d = D at HS H2 ⊢
  generalize gvc a b c d true = k at HI ⊢
  generalize sg D = s at HS H2
  have A0 := Arr.new w a b c d 25
  have U0 := gr_alloc (Below.refl w.heap.size w) (.cells #[.int .i64 a, .int .i64 b, .int .i64 c, .int .i64 d] 25)
  have G0 := hg.alloc (.cells #[.int .i64 a, .int .i64 b, .int .i64 c, .int .i64 d] 25)
  go_enter Tryd.func13, Tryd.ntmps13
  go_wp2_with fail
  refine (HI.out _ G0).mono ?_
  rintro e w1 ⟨rfl, hb1⟩
  have A1 := A0.next hb1
  have U1 := gr_trans U0 hb1
  clear A0 U0 G0
  by_cases hk : k = 0
  · subst hk
    obtain ⟨_, c0, c1, c2, c3, _⟩ := id A1
    go_wp2_with fail
    refine (HS.out _).mono ?_
    rintro e w2 ⟨rfl, hb2⟩
    have U2 := gr_trans U1 hb2
    by_cases hD : 0 < D
    · have hs : 0 < s := by have := H2.out; simpa [hD] using this
      have HD := hid hD
      clear hD
      go_wp2_with fail
      go_ret3
      exact ⟨ret_tup3 (by simp [sgA, HD.out]) (by simp [sgB, HD.out]) rfl, U2⟩
    · have hs : ¬ 0 < s := by have := H2.out; simpa [hD] using this
      have HD := hid hD
      clear hD
      go_wp2_with fail
      go_ret3
      exact ⟨ret_tup3 (by simp [sgA, HD.out]) (by simp [sgB, HD.out]) rfl, U2⟩
  · have hk' : (k == 0) = false := by simpa using hk
    have HK := hid hk
    clear hk
    go_wp2_with fail
    go_ret3
    exact ⟨ret_tup3 (by simp [sgA, HK.out]) (by simp [sgB, HK.out]) rfl, U1⟩

set_option maxRecDepth 100000 in
set_option maxHeartbeats 1000000 in
theorem sSig_any (a b c d : Int) (w : World) : Calls Tryd.prog 11 #[.agg #[.int .i64 a, .int .i64 b, .int .i64 c, .int .i64 d]] w fun e w' => e = .returned (.tuple #[.int .i64 (sgA (gvc a b c d true) (dsc a b c d)), .int .i64 (sgB (gvc a b c d true) (dsc a b c d)), .int .i64 (gvc a b c d true)]) ∧ Below w.heap.size w w' := by
  have HI := hid (fun W => sGiven_any a b c d W)
  have HS := hid (fun W => sDisc0_any a b c d W)
  generalize dsc a b c d = D at HS ⊢
  generalize gvc a b c d true = k at HI ⊢
  have A0 := Arr.new w a b c d 25
  have U0 := gr_alloc (Below.refl w.heap.size w) (.cells #[.int .i64 a, .int .i64 b, .int .i64 c, .int .i64 d] 25)
  go_enter Tryd.func11, Tryd.ntmps11
  go_wp2_with fail
  refine (HI.out _).mono ?_
  rintro e w1 ⟨rfl, hb1⟩
  have A1 := A0.next hb1
  have U1 := gr_trans U0 hb1
  clear A0 U0
  by_cases hk : k = 0
  · subst hk
    obtain ⟨_, c0, c1, c2, c3, _⟩ := id A1
    go_wp2_with fail
    refine (HS.out _).mono ?_
    rintro e w2 ⟨rfl, hb2⟩
    have U2 := gr_trans U1 hb2
    by_cases hD : 0 < D
    · have HD := hid hD
      go_wp2_with fail
      go_ret3
      exact ⟨ret_tup3 (by simp [sgA, HD.out]) (by simp [sgB, HD.out]) rfl, U2⟩
    · have HD := hid hD
      go_wp2_with fail
      go_ret3
      exact ⟨ret_tup3 (by simp [sgA, HD.out]) (by simp [sgB, HD.out]) rfl, U2⟩
  · have hk' : (k == 0) = false := by simpa using hk
    have HK := hid hk
    clear hk
    go_wp2_with fail
    go_ret3
    exact ⟨ret_tup3 (by simp [sgA, HK.out]) (by simp [sgB, HK.out]) rfl, U1⟩

set_option maxRecDepth 100000 in
set_option maxHeartbeats 1000000 in
theorem iGrp_any (a b c d : Int) (pv : Value) (w : World) (hg : Sen w pv) : Calls Tryd.prog 15 #[.agg #[.int .i64 a, .int .i64 b, .int .i64 c, .int .i64 d]] w fun e w' => e = .returned (.tuple #[.int .i64 (grO (gvc a b c d true) (dsc a b c d)), .int .i64 (gvc a b c d true)]) ∧ Below w.heap.size w w' := by
  have HI := hid (fun W hg => iGiven_any a b c d true pv W hg)
  have HS := hid (fun W => iDisc0_any a b c d W)
  have HB := hid (fun h => dsc_b9 (gvc_t (a := a) (b := b) (c := c) (d := d) (r := true) h).1)
  generalize dsc a b c d = D at HS HB ⊢
  generalize gvc a b c d true = k at HI HB ⊢
  have A0 := Arr.new w a b c d 25
  have U0 := gr_alloc (Below.refl w.heap.size w) (.cells #[.int .i64 a, .int .i64 b, .int .i64 c, .int .i64 d] 25)
  have G0 := hg.alloc (.cells #[.int .i64 a, .int .i64 b, .int .i64 c, .int .i64 d] 25)
  go_enter Tryd.func15, Tryd.ntmps15
  go_wp2_with fail
  refine (HI.out _ G0).mono ?_
  rintro e w1 ⟨rfl, hb1⟩
  have A1 := A0.next hb1
  have U1 := gr_trans U0 hb1
  clear A0 U0 G0
  by_cases hk : k = 0
  · have hB := (HB.out hk).2
    subst hk
    obtain ⟨_, c0, c1, c2, c3, _⟩ := id A1
    go_wp2_with fail
    refine (HS.out _).mono ?_
    rintro e w2 ⟨rfl, hb2⟩
    have U2 := gr_trans U1 hb2
    go_wp2_with fail
    refine (isSquare_any D _ (by omega)).mono ?_
    rintro e w3 ⟨rfl, rfl⟩
    cases hD : sqb D with
    | true =>
      have HD := hid hD
      clear hD
      go_wp2_with fail
      go_ret2
      exact ⟨ret_tup2 (by simp [grO, HD.out]) rfl, U2⟩
    | false =>
      have HD := hid hD
      clear hD
      go_wp2_with fail
      go_ret2
      exact ⟨ret_tup2 (by simp [grO, HD.out]) rfl, U2⟩
  · have hk' : (k == 0) = false := by simpa using hk
    have HK := hid hk
    clear hk
    go_wp2_with fail
    go_ret2
    exact ⟨ret_tup2 (by simp [grO, HK.out]) rfl, U1⟩

set_option maxRecDepth 100000 in
set_option maxHeartbeats 1000000 in
theorem sGrp_any (a b c d : Int) (w : World) : Calls Tryd.prog 14 #[.agg #[.int .i64 a, .int .i64 b, .int .i64 c, .int .i64 d]] w fun e w' => e = .returned (.tuple #[.int .i64 (grO (gvc a b c d true) (dsc a b c d)), .int .i64 (gvc a b c d true)]) ∧ Below w.heap.size w w' := by
  have HI := hid (fun W => sGiven_any a b c d W)
  have HS := hid (fun W => sDisc0_any a b c d W)
  have HB := hid (fun h => dsc_b9 (gvc_t (a := a) (b := b) (c := c) (d := d) (r := true) h).1)
  generalize dsc a b c d = D at HS HB ⊢
  generalize gvc a b c d true = k at HI HB ⊢
  have A0 := Arr.new w a b c d 25
  have U0 := gr_alloc (Below.refl w.heap.size w) (.cells #[.int .i64 a, .int .i64 b, .int .i64 c, .int .i64 d] 25)
  go_enter Tryd.func14, Tryd.ntmps14
  go_wp2_with fail
  refine (HI.out _).mono ?_
  rintro e w1 ⟨rfl, hb1⟩
  have A1 := A0.next hb1
  have U1 := gr_trans U0 hb1
  clear A0 U0
  by_cases hk : k = 0
  · have hB := (HB.out hk).2
    subst hk
    obtain ⟨_, c0, c1, c2, c3, _⟩ := id A1
    go_wp2_with fail
    refine (HS.out _).mono ?_
    rintro e w2 ⟨rfl, hb2⟩
    have U2 := gr_trans U1 hb2
    go_wp2_with fail
    refine (l09Square_any D _ (by omega)).mono ?_
    rintro e w3 ⟨rfl, rfl⟩
    cases hD : sqb D with
    | true =>
      have HD := hid hD
      clear hD
      go_wp2_with fail
      go_ret2
      exact ⟨ret_tup2 (by simp [grO, HD.out]) rfl, U2⟩
    | false =>
      have HD := hid hD
      clear hD
      go_wp2_with fail
      go_ret2
      exact ⟨ret_tup2 (by simp [grO, HD.out]) rfl, U2⟩
  · have hk' : (k == 0) = false := by simpa using hk
    have HK := hid hk
    clear hk
    go_wp2_with fail
    go_ret2
    exact ⟨ret_tup2 (by simp [grO, HK.out]) rfl, U1⟩

theorem ret_bi {x y : Bool} {k k' : Int} (h : x = y) (h' : k = k') : Ending.returned (.tuple #[.bool x, .int .i64 k]) = .returned (.tuple #[.bool y, .int .i64 k']) := by rw [h, h']

set_option maxRecDepth 100000 in
set_option maxHeartbeats 1000000 in
theorem iPure_any (a b c d : Int) (pv : Value) (w : World) (hg : Sen w pv) : Calls Tryd.prog 31 #[.agg #[.int .i64 a, .int .i64 b, .int .i64 c, .int .i64 d]] w fun e w' => e = .returned (.tuple #[.bool (puB (gvc a b c d true) (dsc a b c d)), .int .i64 (gvc a b c d true)]) ∧ Below w.heap.size w w' := by
  have HI := hid (fun W hg => iGiven_any a b c d true pv W hg)
  have HS := hid (fun W => iDisc0_any a b c d W)
  have HB := hid (fun h => dsc_b9 (gvc_t (a := a) (b := b) (c := c) (d := d) (r := true) h).1)
  generalize dsc a b c d = D at HS HB ⊢
  generalize gvc a b c d true = k at HI HB ⊢
  have A0 := Arr.new w a b c d 25
  have U0 := gr_alloc (Below.refl w.heap.size w) (.cells #[.int .i64 a, .int .i64 b, .int .i64 c, .int .i64 d] 25)
  have G0 := hg.alloc (.cells #[.int .i64 a, .int .i64 b, .int .i64 c, .int .i64 d] 25)
  go_enter Tryd.func31, Tryd.ntmps31
  go_wp2_with fail
  refine (HI.out _ G0).mono ?_
  rintro e w1 ⟨rfl, hb1⟩
  have A1 := A0.next hb1
  have U1 := gr_trans U0 hb1
  clear A0 U0 G0
  by_cases hk : k = 0
  · have hB := (HB.out hk).2
    subst hk
    obtain ⟨_, c0, c1, c2, c3, _⟩ := id A1
    go_wp2_with fail
    refine (HS.out _).mono ?_
    rintro e w2 ⟨rfl, hb2⟩
    have U2 := gr_trans U1 hb2
    go_wp2_with fail
    refine (isSquare_any (-3 * D) _ (by omega)).mono ?_
    rintro e w3 ⟨rfl, rfl⟩
    go_wp2_with fail
    go_ret2
    exact ⟨ret_bi (by simp [puB]) rfl, U2⟩
  · have hk' : (k == 0) = false := by simpa using hk
    have HK := hid hk
    clear hk
    go_wp2_with fail
    go_ret2
    exact ⟨ret_bi (by simp [puB, HK.out]) rfl, U1⟩

set_option maxRecDepth 100000 in
set_option maxHeartbeats 1000000 in
theorem sPure_any (a b c d : Int) (w : World) : Calls Tryd.prog 30 #[.agg #[.int .i64 a, .int .i64 b, .int .i64 c, .int .i64 d]] w fun e w' => e = .returned (.tuple #[.bool (puB (gvc a b c d true) (dsc a b c d)), .int .i64 (gvc a b c d true)]) ∧ Below w.heap.size w w' := by
  have HI := hid (fun W => sGiven_any a b c d W)
  have HS := hid (fun W => sDisc0_any a b c d W)
  have HB := hid (fun h => dsc_b9 (gvc_t (a := a) (b := b) (c := c) (d := d) (r := true) h).1)
  generalize dsc a b c d = D at HS HB ⊢
  generalize gvc a b c d true = k at HI HB ⊢
  have A0 := Arr.new w a b c d 25
  have U0 := gr_alloc (Below.refl w.heap.size w) (.cells #[.int .i64 a, .int .i64 b, .int .i64 c, .int .i64 d] 25)
  go_enter Tryd.func30, Tryd.ntmps30
  go_wp2_with fail
  refine (HI.out _).mono ?_
  rintro e w1 ⟨rfl, hb1⟩
  have A1 := A0.next hb1
  have U1 := gr_trans U0 hb1
  clear A0 U0
  by_cases hk : k = 0
  · have hB := (HB.out hk).2
    subst hk
    obtain ⟨_, c0, c1, c2, c3, _⟩ := id A1
    go_wp2_with fail
    refine (HS.out _).mono ?_
    rintro e w2 ⟨rfl, hb2⟩
    have U2 := gr_trans U1 hb2
    go_wp2_with fail
    refine (l09Square_any (-3 * D) _ (by omega)).mono ?_
    rintro e w3 ⟨rfl, rfl⟩
    go_wp2_with fail
    go_ret2
    exact ⟨ret_bi (by simp [puB]) rfl, U2⟩
  · have hk' : (k == 0) = false := by simpa using hk
    have HK := hid hk
    clear hk
    go_wp2_with fail
    go_ret2
    exact ⟨ret_bi (by simp [puB, HK.out]) rfl, U1⟩

/-- The code of the leading form. -/
def ldc (k a b c d : Int) : Int := if k = 0 then (if isF 1 b (mu a c) (mu (mu a a) d) then 0 else 3) else k
theorem ldc_k {k a b c d : Int} (h : ¬ k = 0) : ldc k a b c d = k := by simp [ldc, h]
theorem ldc_0 {a b c d : Int} (h : isF 1 b (mu a c) (mu (mu a a) d) = true) : ldc 0 a b c d = 0 := by simp [ldc, h]
theorem ldc_3 {a b c d : Int} (h : isF 1 b (mu a c) (mu (mu a a) d) = false) : ldc 0 a b c d = 3 := by simp [ldc, h]

set_option maxRecDepth 100000 in
set_option maxHeartbeats 1000000 in
theorem iLead_any (a b c d : Int) (pv : Value) (w : World) (hg : Sen w pv) : Calls Tryd.prog 17 #[.agg #[.int .i64 a, .int .i64 b, .int .i64 c, .int .i64 d]] w fun e w' => e = .returned (.tuple #[.agg #[.int .i64 (if0 (ldc (gvc a b c d true) a b c d) 1), .int .i64 (if0 (ldc (gvc a b c d true) a b c d) b), .int .i64 (if0 (ldc (gvc a b c d true) a b c d) (mu a c)), .int .i64 (if0 (ldc (gvc a b c d true) a b c d) (mu (mu a a) d))], .int .i64 (ldc (gvc a b c d true) a b c d)]) ∧ Below w.heap.size w w' := by
  have HI := hid (fun W hg => iGiven_any a b c d true pv W hg)
  have HF := hid (fun h => isF_t (gvc_t (a := a) (b := b) (c := c) (d := d) (r := true) h).1)
  generalize gvc a b c d true = k at HI HF ⊢
  have A0 := (Arr.new w a b c d 25).alloc (.cells #[.int .i64 0, .int .i64 0, .int .i64 0, .int .i64 0] 25)
  have R0 := Arr.new (w.alloc (.cells #[.int .i64 a, .int .i64 b, .int .i64 c, .int .i64 d] 25)) 0 0 0 0 25
  simp only [World.size_alloc] at R0
  have U0 := gr_alloc (gr_alloc (Below.refl w.heap.size w) (.cells #[.int .i64 a, .int .i64 b, .int .i64 c, .int .i64 d] 25)) (.cells #[.int .i64 0, .int .i64 0, .int .i64 0, .int .i64 0] 25)
  have G0 := (hg.alloc (.cells #[.int .i64 a, .int .i64 b, .int .i64 c, .int .i64 d] 25)).alloc (.cells #[.int .i64 0, .int .i64 0, .int .i64 0, .int .i64 0] 25)
  go_enter Tryd.func17, Tryd.ntmps17
  go_wp2_with fail
  refine (HI.out _ G0).mono ?_
  rintro e w1 ⟨rfl, hb1⟩
  have A1 := A0.next hb1
  have R1 := R0.next hb1
  have U1 := gr_trans U0 hb1
  clear A0 R0 U0 G0
  by_cases hk : k = 0
  · have hb := HF.out hk
    subst hk
    obtain ⟨_, c0, c1, c2, c3, _⟩ := id A1
    go_wp2_with fail
    go_quiet (fail)
    go_wp2_with fail
    refine (iLimit_any 1 b (mu a c) (mu (mu a a) d) _).mono ?_
    rintro e w2 ⟨rfl, hb2⟩
    have R2 := (R1.drewN _).next hb2
    have U2 := gr_trans (gr_drewN U1 _) hb2
    obtain ⟨_, r0, r1, r2, r3, f0, f1, f2, f3⟩ := id R2
    cases hL : isF 1 b (mu a c) (mu (mu a a) d) with
    | true =>
      have HL := hid (ldc_0 hL)
      have HX := hid hL
      clear hL
      go_wp2_with fail
      refine bodyPost_ret (res_A (e := 2) rfl Tryd.underlying25 (by kernel_rfl) rfl (by (repeat (first | with_reducible assumption | with_reducible exact Arr.box (by assumption) | with_reducible apply Arr.drew | with_reducible apply Arr.drewN | with_reducible refine Arr.store4 ?_ | with_reducible apply Arr.alloc | with_reducible refine Box.drew ?_ | with_reducible refine Box.drewN ?_ _ | with_reducible refine Box.alloc ?_ _ | refine Arr.oth ?_ (by first | (simp; done) | omega | (simp; omega)) _ | refine Box.oth ?_ (by first | (simp; done) | omega | (simp; omega)) _)))) rfl ?_
      exact ⟨ret_form (by simp [if0, HL.out, ifF, HX.out]) (by simp [if0, HL.out, ifF, HX.out]) (by simp [if0, HL.out, ifF, HX.out]) (by simp [if0, HL.out, ifF, HX.out]) (by simp [HL.out]), by (repeat' (first | with_reducible exact Below.refl _ _ | with_reducible assumption | with_reducible refine gr_alloc ?_ _ | with_reducible refine gr_drew ?_ | with_reducible refine gr_drewN ?_ _ | with_reducible refine gr_trans ?_ (by assumption) | with_reducible refine gr_set ?_ ?_ _ | (simp; done) | omega | (simp; omega)))⟩
    | false =>
      have HL := hid (ldc_3 hL)
      have HX := hid hL
      clear hL
      go_wp2_with fail
      refine bodyPost_ret (res_A (e := 2) rfl Tryd.underlying25 (by kernel_rfl) rfl (by (repeat (first | with_reducible assumption | with_reducible exact Arr.box (by assumption) | with_reducible apply Arr.drew | with_reducible apply Arr.drewN | with_reducible refine Arr.store4 ?_ | with_reducible apply Arr.alloc | with_reducible refine Box.drew ?_ | with_reducible refine Box.drewN ?_ _ | with_reducible refine Box.alloc ?_ _ | refine Arr.oth ?_ (by first | (simp; done) | omega | (simp; omega)) _ | refine Box.oth ?_ (by first | (simp; done) | omega | (simp; omega)) _)))) rfl ?_
      exact ⟨ret_form (by simp [if0, HL.out, ifF, HX.out]) (by simp [if0, HL.out, ifF, HX.out]) (by simp [if0, HL.out, ifF, HX.out]) (by simp [if0, HL.out, ifF, HX.out]) (by simp [HL.out]), by (repeat' (first | with_reducible exact Below.refl _ _ | with_reducible assumption | with_reducible refine gr_alloc ?_ _ | with_reducible refine gr_drew ?_ | with_reducible refine gr_drewN ?_ _ | with_reducible refine gr_trans ?_ (by assumption) | with_reducible refine gr_set ?_ ?_ _ | (simp; done) | omega | (simp; omega)))⟩
  · have hk' : (k == 0) = false := by simpa using hk
    have HK := hid hk
    clear hk
    obtain ⟨_, r0, r1, r2, r3, f0, f1, f2, f3⟩ := id R1
    go_wp2_with fail
    refine bodyPost_ret (res_A (e := 2) rfl Tryd.underlying25 (by kernel_rfl) rfl (by (repeat (first | with_reducible assumption | with_reducible exact Arr.box (by assumption) | with_reducible apply Arr.drew | with_reducible apply Arr.drewN | with_reducible refine Arr.store4 ?_ | with_reducible apply Arr.alloc | with_reducible refine Box.drew ?_ | with_reducible refine Box.drewN ?_ _ | with_reducible refine Box.alloc ?_ _ | refine Arr.oth ?_ (by first | (simp; done) | omega | (simp; omega)) _ | refine Box.oth ?_ (by first | (simp; done) | omega | (simp; omega)) _)))) rfl ?_
    exact ⟨ret_form (by simp [if0, ldc_k HK.out, HK.out]) (by simp [if0, ldc_k HK.out, HK.out]) (by simp [if0, ldc_k HK.out, HK.out]) (by simp [if0, ldc_k HK.out, HK.out]) (by rw [ldc_k HK.out]), by (repeat' (first | with_reducible exact Below.refl _ _ | with_reducible assumption | with_reducible refine gr_alloc ?_ _ | with_reducible refine gr_drew ?_ | with_reducible refine gr_drewN ?_ _ | with_reducible refine gr_trans ?_ (by assumption) | with_reducible refine gr_set ?_ ?_ _ | (simp; done) | omega | (simp; omega)))⟩

set_option maxRecDepth 100000 in
set_option maxHeartbeats 1000000 in
theorem sLead_any (a b c d : Int) (w : World) : Calls Tryd.prog 16 #[.agg #[.int .i64 a, .int .i64 b, .int .i64 c, .int .i64 d]] w fun e w' => e = .returned (.tuple #[.agg #[.int .i64 (if0 (ldc (gvc a b c d true) a b c d) 1), .int .i64 (if0 (ldc (gvc a b c d true) a b c d) b), .int .i64 (if0 (ldc (gvc a b c d true) a b c d) (mu a c)), .int .i64 (if0 (ldc (gvc a b c d true) a b c d) (mu (mu a a) d))], .int .i64 (ldc (gvc a b c d true) a b c d)]) ∧ Below w.heap.size w w' := by
  have HI := hid (fun W => sGiven_any a b c d W)
  generalize gvc a b c d true = k at HI ⊢
  have A0 := (Arr.new w a b c d 25).alloc (.cells #[.int .i64 0, .int .i64 0, .int .i64 0, .int .i64 0] 25)
  have R0 := Arr.new (w.alloc (.cells #[.int .i64 a, .int .i64 b, .int .i64 c, .int .i64 d] 25)) 0 0 0 0 25
  simp only [World.size_alloc] at R0
  have U0 := gr_alloc (gr_alloc (Below.refl w.heap.size w) (.cells #[.int .i64 a, .int .i64 b, .int .i64 c, .int .i64 d] 25)) (.cells #[.int .i64 0, .int .i64 0, .int .i64 0, .int .i64 0] 25)
  go_enter Tryd.func16, Tryd.ntmps16
  go_wp2_with fail
  refine (HI.out _).mono ?_
  rintro e w1 ⟨rfl, hb1⟩
  have A1 := A0.next hb1
  have R1 := R0.next hb1
  have U1 := gr_trans U0 hb1
  clear A0 R0 U0
  by_cases hk : k = 0
  · subst hk
    obtain ⟨_, c0, c1, c2, c3, _⟩ := id A1
    go_wp2_with fail
    refine (sFits_any 1 b (mu a c) (mu (mu a a) d) _).mono ?_
    rintro e w2 ⟨rfl, hb2⟩
    have R2 := (R1.alloc (.cells #[.int .i64 1, .int .i64 b, .int .i64 (mu a c), .int .i64 (mu (mu a a) d)] 25)).next hb2
    have L2 := (Arr.new w1 1 b (mu a c) (mu (mu a a) d) 25).next hb2
    have U2 := gr_trans (gr_alloc U1 (.cells #[.int .i64 1, .int .i64 b, .int .i64 (mu a c), .int .i64 (mu (mu a a) d)] 25)) hb2
    obtain ⟨_, r0, r1, r2, r3, f0, f1, f2, f3⟩ := id R2
    obtain ⟨_, l0, l1, l2, l3, _⟩ := id L2
    cases hL : isF 1 b (mu a c) (mu (mu a a) d) with
    | true =>
      have HL := hid (ldc_0 hL)
      clear hL
      go_wp2_with fail
      refine bodyPost_ret (res_A (e := 2) rfl Tryd.underlying25 (by kernel_rfl) rfl (by (repeat (first | with_reducible assumption | with_reducible exact Arr.box (by assumption) | with_reducible apply Arr.drew | with_reducible apply Arr.drewN | with_reducible refine Arr.store4 ?_ | with_reducible apply Arr.alloc | with_reducible refine Box.drew ?_ | with_reducible refine Box.drewN ?_ _ | with_reducible refine Box.alloc ?_ _ | refine Arr.oth ?_ (by first | (simp; done) | omega | (simp; omega)) _ | refine Box.oth ?_ (by first | (simp; done) | omega | (simp; omega)) _)))) rfl ?_
      exact ⟨ret_form (by simp [if0, HL.out]) (by simp [if0, HL.out]) (by simp [if0, HL.out]) (by simp [if0, HL.out]) (by simp [HL.out]), by (repeat' (first | with_reducible exact Below.refl _ _ | with_reducible assumption | with_reducible refine gr_alloc ?_ _ | with_reducible refine gr_drew ?_ | with_reducible refine gr_drewN ?_ _ | with_reducible refine gr_trans ?_ (by assumption) | with_reducible refine gr_set ?_ ?_ _ | (simp; done) | omega | (simp; omega)))⟩
    | false =>
      have HL := hid (ldc_3 hL)
      clear hL
      go_wp2_with fail
      refine bodyPost_ret (res_A (e := 2) rfl Tryd.underlying25 (by kernel_rfl) rfl (by (repeat (first | with_reducible assumption | with_reducible exact Arr.box (by assumption) | with_reducible apply Arr.drew | with_reducible apply Arr.drewN | with_reducible refine Arr.store4 ?_ | with_reducible apply Arr.alloc | with_reducible refine Box.drew ?_ | with_reducible refine Box.drewN ?_ _ | with_reducible refine Box.alloc ?_ _ | refine Arr.oth ?_ (by first | (simp; done) | omega | (simp; omega)) _ | refine Box.oth ?_ (by first | (simp; done) | omega | (simp; omega)) _)))) rfl ?_
      exact ⟨ret_form (by simp [if0, HL.out]) (by simp [if0, HL.out]) (by simp [if0, HL.out]) (by simp [if0, HL.out]) (by simp [HL.out]), by (repeat' (first | with_reducible exact Below.refl _ _ | with_reducible assumption | with_reducible refine gr_alloc ?_ _ | with_reducible refine gr_drew ?_ | with_reducible refine gr_drewN ?_ _ | with_reducible refine gr_trans ?_ (by assumption) | with_reducible refine gr_set ?_ ?_ _ | (simp; done) | omega | (simp; omega)))⟩
  · have hk' : (k == 0) = false := by simpa using hk
    have HK := hid hk
    clear hk
    obtain ⟨_, r0, r1, r2, r3, f0, f1, f2, f3⟩ := id R1
    go_wp2_with fail
    refine bodyPost_ret (res_A (e := 2) rfl Tryd.underlying25 (by kernel_rfl) rfl (by (repeat (first | with_reducible assumption | with_reducible exact Arr.box (by assumption) | with_reducible apply Arr.drew | with_reducible apply Arr.drewN | with_reducible refine Arr.store4 ?_ | with_reducible apply Arr.alloc | with_reducible refine Box.drew ?_ | with_reducible refine Box.drewN ?_ _ | with_reducible refine Box.alloc ?_ _ | refine Arr.oth ?_ (by first | (simp; done) | omega | (simp; omega)) _ | refine Box.oth ?_ (by first | (simp; done) | omega | (simp; omega)) _)))) rfl ?_
    exact ⟨ret_form (by simp [if0, ldc_k HK.out, HK.out]) (by simp [if0, ldc_k HK.out, HK.out]) (by simp [if0, ldc_k HK.out, HK.out]) (by simp [if0, ldc_k HK.out, HK.out]) (by rw [ldc_k HK.out]), by (repeat' (first | with_reducible exact Below.refl _ _ | with_reducible assumption | with_reducible refine gr_alloc ?_ _ | with_reducible refine gr_drew ?_ | with_reducible refine gr_drewN ?_ _ | with_reducible refine gr_trans ?_ (by assumption) | with_reducible refine gr_set ?_ ?_ _ | (simp; done) | omega | (simp; omega)))⟩


end Go.Proofs.YtgflkgabofilcaaDoor
