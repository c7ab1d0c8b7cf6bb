/- Chapter 9: CountKinds. -/
import Derived.Test.YtihcmgjfkiaelaaDoorRv
import Derived.Test.YtihcmgjfkiaelaaDoorZ18
namespace Go.Proofs.YtihcmgjfkiaelaaDoor
open Go.RowKit

theorem kdn_bd (a b c d p : Int) : 0 ≤ kdn a b c d p ∧ kdn a b c d p ≤ 5 := by
  unfold kdn
  split
  · omega
  · unfold kdp
    (repeat' split) <;> omega

/-- Counts of kinds. -/
def cto (g : Nat → Int) : List Int → Nat → Int
  | [], i => g i
  | k :: L, i => cto (fun j => if j = k.toNat then g k.toNat + 1 else g j) L i
theorem cto_app (L : List Int) (z : Int) : ∀ g : Nat → Int, cto g (L ++ [z]) = fun j => if j = z.toNat then cto g L z.toNat + 1 else cto g L j := by
  induction L with
  | nil => intro g; funext j; simp only [List.nil_append, cto]
  | cons k L ih => intro g; rw [List.cons_append]; funext j; simp only [cto]; rw [ih]
theorem cto_bd (L : List Int) : ∀ (g : Nat → Int) (i : Nat), g i ≤ cto g L i ∧ cto g L i ≤ g i + L.length := by
  induction L with
  | nil => intro g i; simp [cto]
  | cons k L ih =>
    intro g i
    have := ih (fun j => if j = k.toNat then g k.toNat + 1 else g j) i
    simp only [cto, List.length_cons]
    by_cases e : i = k.toNat
    · subst e; simp only [if_true] at this; omega
    · simp only [e, if_false] at this; omega
def ctz (L : List Int) (i : Nat) : Int := cto (fun _ => 0) L i
theorem ctz_nil : ctz [] = fun _ => 0 := by funext i; rfl
theorem ctz_app {L M : List Int} {z : Int} (h : M = L ++ [z]) : ctz M = fun j => if j = z.toNat then ctz L z.toNat + 1 else ctz L j := by
  subst h; funext j; exact congrFun (cto_app L z _) j
theorem ctz_bd (L : List Int) (i : Nat) : 0 ≤ ctz L i ∧ ctz L i ≤ L.length := by
  have := cto_bd L (fun _ => 0) i
  unfold ctz; simp only [Int.zero_add] at this; exact this
/-- The code of CountKinds. -/
def ckc (a b c d n : Int) : Int := gvc a b c d (rng 2 97 n)
theorem ckc_t {a b c d n : Int} (h : ckc a b c d n = 0) : isF a b c d = true ∧ 2 ≤ n ∧ n ≤ 97 := by
  obtain ⟨h1, h2, _⟩ := gvc_t h
  exact ⟨h1, rng_t h2⟩
theorem own_out {v : Value} {w w' : World} {g : Nat → Int} {code : Int} (h : v = .slice none 0 0) (hc : ¬ code = 0) (hb : Below w.heap.size w w') : LstOut code 6 g w (.returned (.tuple #[v, .int .i64 code])) w' :=
  ⟨v, rfl, .inl ⟨h, by rw [if_neg hc]⟩, hb⟩
theorem cl_new6 (w : World) : Cl (w.alloc (.cells #[.int .i64 0, .int .i64 0, .int .i64 0, .int .i64 0, .int .i64 0, .int .i64 0] 2)) w.heap.size 6 (fun _ => 0) := by
  have hb := Bx.new w #[.int .i64 0, .int .i64 0, .int .i64 0, .int .i64 0, .int .i64 0, .int .i64 0] 2
  refine ⟨hb.lt, fun i hi => ⟨?_, hb.frozen i⟩⟩
  rw [hb.cell i]
  match i, hi with
  | 0, _ => rfl
  | 1, _ => rfl
  | 2, _ => rfl
  | 3, _ => rfl
  | 4, _ => rfl
  | 5, _ => rfl
theorem mk6c : ∀ w : World, (Instr.makeSlice 41 (.int .i64 6) (.int .i64 6)).run Tryd.prog w = .ok (.slice (some ⟨w.heap.size, 0, none⟩) 6 6) (w.alloc (.cells #[.int .i64 0, .int .i64 0, .int .i64 0, .int .i64 0, .int .i64 0, .int .i64 0] 2)) := fun _ => by kernel_rfl

set_option maxHeartbeats 400000 in
theorem allKinds6_any (w : World) : Calls Tryd.prog 80 #[] w fun e w' => e = .returned (.slice (some ⟨w.heap.size, 0, none⟩) 6 6) ∧ Below w.heap.size w w' := by
  go_enter Tryd.func80, Tryd.ntmps80
  go_wp2
  go_ret
  exact ⟨rfl, by (repeat' (first | with_reducible exact Below.refl _ _ | with_reducible assumption | with_reducible refine gr_alloc ?_ _ | with_reducible refine gr_drew ?_ | with_reducible refine gr_drewN ?_ _ | with_reducible refine gr_trans ?_ (by assumption) | with_reducible refine gr_set ?_ ?_ _ | (simp; done) | omega | (simp; omega)))⟩

set_option maxRecDepth 100000 in
set_option maxHeartbeats 4000000 in
theorem iCountKinds_any (a b c d n : Int) (pv : Value) (w : World) (hg : Sen w pv) : Calls Tryd.prog 37 #[.agg #[.int .i64 a, .int .i64 b, .int .i64 c, .int .i64 d], .int .i64 n] w (LstOut (ckc a b c d n) 6 (ctz (kul a b c d n)) w) := by
  have HG := hid (fun r W hg => iGiven_any a b c d r pv W hg)
  have HK := hid (fun W hg => iKindsUpTo_any a b c d n pv W hg)
  have HT := hid (@ckc_t a b c d n)
  have hz : ∀ z ∈ kul a b c d n, 0 ≤ z ∧ z ≤ 5 := by
    intro z hz
    obtain ⟨q, _, rfl⟩ := List.mem_map.1 hz
    exact kdn_bd _ _ _ _ _
  have hlen : (kul a b c d n).length ≤ n.toNat + 1 := by unfold kul; rw [List.length_map]; exact prl_len _
  have HX := hid (show kuc a b c d n = if isF a b c d = true then nco n else 1 from rfl)
  have A0 := Arr.new w a b c d 25
  have U0 := gr_alloc (Below.refl w.heap.size w) (.cells #[.int .i64 a, .int .i64 b, .int .i64 c, .int .i64 d] 25)
  have G0 := hg.alloc (.cells #[.int .i64 a, .int .i64 b, .int .i64 c, .int .i64 d] 25)
  have HE := hid (show ckc a b c d n = gvc a b c d (rng 2 97 n) from rfl)
  generalize ckc a b c d n = k at HT HE ⊢
  generalize kul a b c d n = L at HK hz hlen ⊢
  generalize kuc a b c d n = kc at HK HX
  have HZ := hid hz
  clear hz
  by_cases hr : 2 ≤ n ∧ n ≤ 97
  · obtain ⟨h2, h97⟩ := hr
    have hr' : rng 2 97 n = true := rng_mk h2 h97
    rw [hr'] at HE
    generalize hgv : gvc a b c d true = gk at HE
    have HG1 := hid (fun W hg => hgv ▸ HG.out true W hg)
    clear hgv HG hr'
    have HEE := hid HE.out
    have hkk : k = gk := HE.out
    subst hkk
    clear HE HEE
    go_enter Tryd.func37, Tryd.ntmps37
    go_wp2_with fail
    refine (HG1.out _ G0).mono ?_
    rintro e w1 ⟨rfl, hb1⟩
    have A1 := A0.next hb1
    have U1 := gr_trans U0 hb1
    have G1 := G0.next hb1
    clear A0 U0 G0
    by_cases hk : k = 0
    · have hF := (HT.out hk).1
      have hkc : kc = 0 := by
        have := HX.out; rw [if_pos hF] at this
        rw [this]; simp [nco, rng_mk h2 h97]
      subst hk hkc
      obtain ⟨_, c0, c1, c2, c3, _⟩ := id A1
      have hmk := mk6c
      clear hF HT
      go_wp2_with fail
      refine (HK.out _ G1).mono ?_
      rintro e w2 ⟨v, rfl, hV, hb2⟩
      rw [if_pos rfl] at hV
      have U2 := gr_trans U1 hb2
      have hform : ∃ va cap, v = .slice va L.length cap := by
        rcases hV with ⟨rfl, h⟩ | ⟨kb, cap, rfl, _⟩
        · exact ⟨none, 0, by rw [h]⟩
        · exact ⟨_, cap, rfl⟩
      obtain ⟨va, cap, rfl⟩ := hform
      have V2 := hV.rdB
      clear c0 c1 c2 c3 hV A1 U1 G1
      go_wp2_with (go_at_call 80; refine (allKinds6_any _).mono ?_; rintro e w3 ⟨rfl, hb3⟩)
      have U3 := gr_trans U2 hb3
      have V3 := V2.below hb3 (Nat.le_refl _)
      have C3 := cl_new6 w3
      have hz3 := hb3.size
      have hzU := U3.size
      have V4 := hid (V3.below ((Below.refl w3.heap.size w3).alloc (Nat.le_refl _) (.cells #[.int .i64 0, .int .i64 0, .int .i64 0, .int .i64 0, .int .i64 0, .int .i64 0] 2)) hz3)
      have U4 := hid (gr_alloc U3 (.cells #[.int .i64 0, .int .i64 0, .int .i64 0, .int .i64 0, .int .i64 0, .int .i64 0] 2))
      clear U2 V2 V3 U3
      generalize hW : w3.alloc (.cells #[.int .i64 0, .int .i64 0, .int .i64 0, .int .i64 0, .int .i64 0, .int .i64 0] 2) = W0 at C3 V4 U4 ⊢
      clear hW
      go_wp2_with fail
      go_loopw [34] (fun s34 wr => ∃ j : Nat, j ≤ L.length ∧ s34 = .int .i64 ((j : Int)) ∧ Cl wr w3.heap.size 6 (ctz (L.take j)) ∧ Below w3.heap.size W0 wr) (fun s34 _ => L.length - (intOf s34).toNat)
      case atStart => exact ⟨0, Nat.zero_le _, rfl, by rw [List.take_zero, ctz_nil]; exact C3, Below.refl _ _⟩
      case round =>
        obtain ⟨j, hj, rfl, hC, hU⟩ := hrel
        have HC := hid hC; have HU := hid hU
        clear hC hU C3
        by_cases hlt : j < L.length
        · rcases V4.out with ⟨_, h0⟩ | ⟨kb, cap', e', h7, h8, h9, hcell⟩
          · omega
          · cases e'
            have y0 : wr.cell? ⟨kb, j, none⟩ = some (.int .i64 (L.getD j 0)) := (HU.out.cell (p := ⟨kb, j, none⟩) (by show kb < _; omega)).trans (hcell j hlt)
            obtain ⟨z1, z2⟩ := HZ.out (L.getD j 0) (getD_mem L j 0 hlt)
            have hS : L.take (j + 1) = L.take j ++ [L.getD j 0] := by
              rw [List.take_succ_eq_append_getElem hlt]; simp [List.getD, hlt]
            have HS := hid (ctz_app hS)
            have hb0 := ctz_bd (L.take j) (L.getD j 0).toNat
            rw [List.length_take] at hb0
            generalize hq : L.getD j 0 = q at y0 z1 z2 HS hb0
            obtain ⟨m, rfl⟩ : ∃ m : Nat, q = m := ⟨q.toNat, by omega⟩
            simp only [Int.toNat_natCast] at HS hb0
            have hm : m < 6 := by omega
            obtain ⟨hc, hf⟩ := HC.out.2 m hm
            have HN := hid (HC.out.set hm (ctz (L.take j) m + 1))
            generalize ctz (L.take j) m = cm at hc HN HS hb0
            clear hq hS hcell
            unfold maxLen at h8
            go_wp2_with fail
            go_roundw
            case rel => exact ⟨j + 1, by omega, by go_num, by rw [HS.out]; exact HN.out, HU.out.setCell (by simp) _⟩
            case measure => simp [intOf]; omega
        · have e : j = L.length := by omega
          subst e
          go_wp2_with fail
          go_ret2
          refine ⟨_, rfl, ?_, ?_⟩
          · rw [if_pos rfl]
            have := HC.out
            rw [List.take_length] at this
            exact .inr ⟨_, 6, rfl, by omega, this.1, Nat.le_refl _, by decide, this.2⟩
          · exact U4.out.trans (HU.out.mono hzU)
    · have hk' : (k == 0) = false := by simpa using hk
      have HK0 := hid hk
      clear hk
      go_wp2_with fail
      go_ret2
      exact own_out rfl HK0.out U1
  · have hr' : rng 2 97 n = false := by
      cases h : rng 2 97 n with
      | false => rfl
      | true => exact absurd (rng_t h) hr
    rw [hr'] at HE
    have hk0 : ¬ k = 0 := fun h => by have := HT.out h; exact hr this.2
    generalize hgv : gvc a b c d false = gk at HE
    have HG1 := hid (fun W hg => hgv ▸ HG.out false W hg)
    clear hgv HG hr'
    have hkk : k = gk := HE.out
    subst hkk
    have hk' : (k == 0) = false := by simpa using hk0
    have HK0 := hid hk0
    clear HE hk0 HT
    by_cases h2 : 2 ≤ n
    · have h97 : ¬ n ≤ 97 := fun h => hr ⟨h2, h⟩
      clear hr
      go_enter Tryd.func37, Tryd.ntmps37
      go_wp2_with fail
      refine (HG1.out _ G0).mono ?_
      rintro e w1 ⟨rfl, hb1⟩
      have U1 := gr_trans U0 hb1
      clear A0 U0 G0
      go_wp2_with fail
      go_ret2
      exact own_out rfl HK0.out U1
    · clear hr
      go_enter Tryd.func37, Tryd.ntmps37
      go_wp2_with fail
      refine (HG1.out _ G0).mono ?_
      rintro e w1 ⟨rfl, hb1⟩
      have U1 := gr_trans U0 hb1
      clear A0 U0 G0
      go_wp2_with fail
      go_ret2
      exact own_out rfl HK0.out U1

/-- A slice of n integers in another block than g; or nil. -/
def RdN (g : Nat) (w : World) (v : Value) (n : Nat) (f : Nat → Int) : Prop :=
  (v = .slice none 0 0 ∧ n = 0) ∨ ∃ b cap, v = .slice (some ⟨b, 0, none⟩) n cap ∧ n ≤ cap ∧ cap ≤ maxLen ∧ b ≠ g ∧ b < w.heap.size ∧ ∀ i, i < n → w.cell? ⟨b, i, none⟩ = some (.int .i64 (f i))
theorem RdN.form {g : Nat} {w : World} {v : Value} {n : Nat} {f : Nat → Int} (h : RdN g w v n f) : ∃ va cap, v = .slice va n cap := by
  rcases h with ⟨rfl, h⟩ | ⟨b, cap, rfl, _⟩
  · exact ⟨none, 0, by rw [h]⟩
  · exact ⟨_, cap, rfl⟩
theorem RdN.next {g : Nat} {w w' : World} {v : Value} {n : Nat} {f : Nat → Int} (h : RdN g w v n f) (hb : Below w.heap.size w w') : RdN g w' v n f := by
  rcases h with h | ⟨b, cap, h1, h2, h3, h4, h5, h6⟩
  · exact .inl h
  · exact .inr ⟨b, cap, h1, h2, h3, h4, Nat.lt_of_lt_of_le h5 hb.size, fun i hi => (hb.cell (p := ⟨b, i, none⟩) h5).trans (h6 i hi)⟩
theorem RdN.set {g : Nat} {w : World} {v : Value} {n : Nat} {f : Nat → Int} (h : RdN g w v n f) (i : Nat) (u : Value) : RdN g (w.setCell ⟨g, i, none⟩ u) v n f := by
  rcases h with h | ⟨b, cap, h1, h2, h3, h4, h5, h6⟩
  · exact .inl h
  · exact .inr ⟨b, cap, h1, h2, h3, h4, by rw [World.size_setCell]; exact h5, fun j hj => (World.cell?_setCell_other _ _ _ _ (fun e => h4 (by cases e; rfl))).trans (h6 j hj)⟩
theorem OwnV.rdn {B g : Nat} {w : World} {v : Value} {n : Nat} {f : Nat → Int} (h : OwnV B w v n f) (hg : g < B ∨ w.heap.size ≤ g) : RdN g w v n f := by
  rcases h with h | ⟨b, cap, h1, h2, h3, h4, h5, h6⟩
  · exact .inl h
  · exact .inr ⟨b, cap, h1, h4, h5, by omega, h3, fun i hi => (h6 i hi).1⟩

set_option maxRecDepth 100000 in
set_option maxHeartbeats 4000000 in
theorem sCountKinds_any (a b c d n : Int) (w : World) : Calls Tryd.prog 38 #[.agg #[.int .i64 a, .int .i64 b, .int .i64 c, .int .i64 d], .int .i64 n] w (LstOut (ckc a b c d n) 6 (ctz (kul a b c d n)) w) := by
  have HC := hid (fun W => l01Is_any a b c d W)
  have HI := hid (fun hF W => l05Irreducible_any a b c d W hF)
  have HW := hid (fun W => l01In_any n 2 97 W)
  have H1 := hid (fun h => (show ckc a b c d n = 1 from gvc_1 (r := rng 2 97 n) h))
  have H2 := hid (fun h (h' : rng 2 97 n = false) => (show ckc a b c d n = 2 by unfold ckc; rw [h']; exact gvc_2 h))
  have H5 := hid (fun h (h' : rng 2 97 n = true) hi => (show ckc a b c d n = 5 by unfold ckc; rw [h']; exact gvc_5 h hi))
  have H0 := hid (fun h (h' : rng 2 97 n = true) hi => (show ckc a b c d n = 0 by unfold ckc; rw [h']; exact gvc_0 h hi))
  have HP := hid (fun W h2 h97 => l05Primes_any n W h2 h97)
  have HKu := hid (show kul a b c d n = (prl (n.toNat + 1)).map (kdn a b c d) from rfl)
  have hPm : ∀ q ∈ prl (n.toNat + 1), prm q = true := fun q h => (prl_mem h).1
  have hlen := prl_len (n.toNat + 1)
  have HPM := hid hPm
  clear hPm
  have A0 := Arr.new w a b c d 25
  have U0 := gr_alloc (Below.refl w.heap.size w) (.cells #[.int .i64 a, .int .i64 b, .int .i64 c, .int .i64 d] 25)
  generalize ckc a b c d n = k at H1 H2 H5 H0 ⊢
  generalize irb a b c d = ib at HI H5 H0
  generalize kul a b c d n = L at HKu ⊢
  generalize prl (n.toNat + 1) = PL at HP HKu hlen HPM
  go_enter Tryd.func38, Tryd.ntmps38
  go_wp2_with fail
  refine (HC.out _).mono ?_
  rintro e w1 ⟨rfl, hb1⟩
  have A1 := A0.next hb1
  have U1 := gr_trans U0 hb1
  clear A0 U0
  cases hF : isF a b c d with
  | false =>
    have HE := hid (H1.out hF)
    go_wp2_with fail
    go_ret2
    rw [HE.out]
    exact own_out rfl (by omega) U1
  | true =>
    cases hr : rng 2 97 n with
    | false =>
      have HE := hid (H2.out hF hr)
      go_wp2_with fail
      refine (HW.out _).mono ?_
      rintro e w2 ⟨rfl, rfl⟩
      go_wp2_with fail
      go_ret2
      rw [HE.out]
      exact own_out rfl (by omega) U1
    | true =>
      have HI1 := hid (HI.out hF)
      have HF := hid hF
      obtain ⟨_, c0, c1, c2, c3, _⟩ := id A1
      cases ib with
      | false =>
        have HE := hid (H5.out hF hr rfl)
        clear hF
        go_wp2_with fail
        refine (HW.out _).mono ?_
        rintro e w2 ⟨rfl, rfl⟩
        go_wp2_with fail
        refine (HI1.out _).mono ?_
        rintro e w2 ⟨rfl, hb2⟩
        go_wp2_with fail
        go_ret2
        rw [HE.out]
        exact own_out rfl (by omega) (gr_trans U1 hb2)
      | true =>
        have HE := hid (H0.out hF hr rfl)
        obtain ⟨h2, h97⟩ := rng_t hr
        have HP1 := hid (fun W => HP.out W h2 h97)
        clear hF H1 H2 H5 H0 HP
        go_wp2_with fail
        refine (HW.out _).mono ?_
        rintro e w2 ⟨rfl, rfl⟩
        go_wp2_with fail
        refine (HI1.out _).mono ?_
        rintro e w2 ⟨rfl, hb2⟩
        clear hr HW
        have U2 := hid (gr_trans U1 hb2)
        have A2 := hid (A1.next hb2)
        have hw2 := U2.out.size
        have hfb := A2.out.lt
        clear c0 c1 c2 c3 A1 U1 HI1 HC
        have hmk := mk6c
        go_upto_region 7 with fail
        go_cut [6, 7] (fun s6 s7 wx => ∃ g, s7 = .slice (some ⟨g, 0, none⟩) 6 6 ∧ RdN g wx s6 PL.length (fun i => PL.getD i 0) ∧ Cl wx g 6 (fun _ => 0) ∧ w2.heap.size ≤ g ∧ Below w2.heap.size w2 wx)
        case first =>
          go_region_with (first | (go_at_call 81; refine (HP1.out _).mono ?_; rintro e w3 ⟨v, rfl, hV, hb3⟩))
          · go_wp2_with fail
            go_meet
            exact ⟨w3.heap.size, rfl, (hV.rdn (.inr (Nat.le_refl _))).next ((Below.refl _ w3).alloc (Nat.le_refl _) _), cl_new6 w3, hb3.size, gr_alloc (by first | exact hb3 | (repeat' (first | with_reducible exact Below.refl _ _ | with_reducible assumption | with_reducible refine gr_alloc ?_ _ | with_reducible refine gr_drew ?_ | with_reducible refine gr_drewN ?_ _ | with_reducible refine gr_trans ?_ (by assumption) | with_reducible refine gr_set ?_ ?_ _ | (simp; done) | omega | (simp; omega)))) _⟩
          · go_wp2_with fail
            go_meet
            exact ⟨w2.heap.size, rfl, hV.rdn (.inl (by simp)), (cl_new6 w2).below (gr_trans (gr_drew (Below.refl _ _)) hb3), Nat.le_refl _, gr_trans (gr_drew (gr_alloc (Below.refl _ w2) _)) hb3⟩
        case rest =>
          obtain ⟨g, rfl, hR, hC, hg, hbx⟩ := hcut
          obtain ⟨va, cap, rfl⟩ := hR.form
          have HR := hid hR; have HCl := hid hC
          have A3 := hid (A2.out.next hbx)
          have U3 := hid (gr_trans U2.out hbx)
          have hll : L.length = PL.length := by rw [HKu.out, List.length_map]
          have HLL := hid hll
          clear hR hC hbx A2 U2 hll hmk HP1
          go_wp2_with fail
          go_loopw [8] (fun s8 wr => ∃ j : Nat, j ≤ PL.length ∧ s8 = .int .i64 ((j : Int)) ∧ Cl wr g 6 (ctz (L.take j)) ∧ RdN g wr (.slice va PL.length cap) PL.length (fun i => PL.getD i 0) ∧ Arr wr w.heap.size a b c d ∧ Below w.heap.size w wr) (fun s8 _ => PL.length - (intOf s8).toNat)
          case atStart => exact ⟨0, Nat.zero_le _, rfl, by rw [List.take_zero, ctz_nil]; exact HCl.out, HR.out, A3.out, U3.out⟩
          case round =>
            obtain ⟨j, hj, rfl, hC, hR, hA, hU⟩ := hrel
            have HC := hid hC; have HR := hid hR; have HA := hid hA; have HU := hid hU
            have hsU := hU.size
            clear hC hR hA hU HCl A3 U3
            by_cases hlt : j < PL.length
            · rcases HR.out with ⟨_, h0⟩ | ⟨kb, cap', e', h7, h8, h9, h10, hcell⟩
              · omega
              · cases e'
                have y0 : wr.cell? ⟨kb, j, none⟩ = some (.int .i64 (PL.getD j 0)) := hcell j hlt
                obtain ⟨_, c0, c1, c2, c3, _⟩ := id HA.out
                have hPq := HPM.out (PL.getD j 0) (getD_mem PL j 0 hlt)
                obtain ⟨z1, z2⟩ := kdn_bd a b c d (PL.getD j 0)
                have hjl : j < L.length := by rw [HLL.out]; exact hlt
                have hS : L.take (j + 1) = L.take j ++ [kdn a b c d (PL.getD j 0)] := by
                  rw [List.take_succ_eq_append_getElem hjl]
                  congr 1
                  have := HKu.out
                  subst this
                  simp [List.getD, hlt]
                have HS := hid (ctz_app hS)
                have hb0 := ctz_bd (L.take j) (kdn a b c d (PL.getD j 0)).toNat
                have hln : (L.take j).length ≤ 98 := by rw [List.length_take, HLL.out]; omega
                have HK := hid (fun W => l05Kind_any a b c d (PL.getD j 0) W HF.out (prm_prq hPq))
                generalize PL.getD j 0 = p at y0 z1 z2 HS hb0 HK
                generalize kdn a b c d p = q at z1 z2 HS hb0 HK
                obtain ⟨m, rfl⟩ : ∃ m : Nat, q = m := ⟨q.toNat, by omega⟩
                simp only [Int.toNat_natCast] at HS hb0
                have hm : m < 6 := by omega
                obtain ⟨hc, hf⟩ := HC.out.2 m hm
                have HN := hid (fun W (hb : Below wr.heap.size wr W) => ((HC.out.below hb).set hm (ctz (L.take j) m + 1)))
                generalize ctz (L.take j) m = cm at hc HN HS hb0
                have hgl := HC.out.1
                clear hS hcell hPq
                unfold maxLen at h8
                go_upto_region 11 with fail
                go_region_with (first | (go_at_call 82; refine (HK.out _).mono ?_; rintro e w3 ⟨rfl, hb3⟩; have hc3 : w3.cell? ⟨g, m, none⟩ = some (.int .i64 cm) := (hb3.cell (p := ⟨g, m, none⟩) hgl).trans hc; have hf3 : w3.frozen? ⟨g, m, none⟩ = false := (hb3.frozen (p := ⟨g, m, none⟩) hgl).trans hf))
                all_goals
                  go_wp2_with fail
                  go_roundw
                  case rel =>
                    have hb4 : Below wr.heap.size wr w3 := by first | exact hb3 | (repeat' (first | with_reducible exact Below.refl _ _ | with_reducible assumption | with_reducible refine gr_alloc ?_ _ | with_reducible refine gr_drew ?_ | with_reducible refine gr_drewN ?_ _ | with_reducible refine gr_trans ?_ (by assumption) | with_reducible refine gr_set ?_ ?_ _ | (simp; done) | omega | (simp; omega))) | exact gr_trans (gr_drew (Below.refl _ _)) hb3
                    exact ⟨j + 1, by omega, by go_num, by rw [HS.out]; exact HN.out _ hb4, (HR.out.next hb4).set _ _, (HA.out.next hb4).oth (by show w.heap.size ≠ g; omega) _, gr_set (gr_trans HU.out hb4) (by show w.heap.size ≤ g; omega) _⟩
                  case measure => simp [intOf]; omega
            · have e : j = PL.length := by omega
              subst e
              have HCC := hid (show Cl wr g 6 (ctz L) by have := HC.out; rwa [← HLL.out, List.take_length] at this)
              go_wp2_with fail
              go_ret2
              rw [HE.out]
              refine ⟨_, rfl, ?_, HU.out⟩
              rw [if_pos rfl]
              exact .inr ⟨_, 6, rfl, by omega, HCC.out.1, Nat.le_refl _, by decide, HCC.out.2⟩


end Go.Proofs.YtihcmgjfkiaelaaDoor
