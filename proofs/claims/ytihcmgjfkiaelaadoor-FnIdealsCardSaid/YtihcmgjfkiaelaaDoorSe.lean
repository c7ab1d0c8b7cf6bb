/- Chapter 9: IdealNumbers and SumOfIdeals, the program's and the model's. -/
import Derived.Test.YtihcmgjfkiaelaaDoorSb
import Derived.Test.YtihcmgjfkiaelaaDoorSd
import Derived.Test.YtihcmgjfkiaelaaDoorZ11
namespace Go.Proofs.YtihcmgjfkiaelaaDoor
open Go.RowKit

theorem Rd1.below {B : Nat} {w w' : World} {v : Value} {n : Nat} {g : Nat → Int} (h : Rd1 B w v n g) {C : Nat} (hb : Below C w w') (hC : B ≤ C) : Rd1 B w' v n g := by
  rcases h with h | ⟨b, cap, h1, h2, h3, h4, h5⟩
  · exact .inl h
  · exact .inr ⟨b, cap, h1, h2, h3, h4, fun i hi => (hb.cell (p := ⟨b, 1 + i, none⟩) (by show b < C; omega)).trans (h5 i hi)⟩
/-- The code of IdealNumbers. -/
def idc (a b c d n : Int) : Int := if gvc a b c d (rng 1 500 n) = 0 then (if cnt a b c d = 1 then 0 else 5) else gvc a b c d (rng 1 500 n)
theorem idc_k {a b c d n : Int} (h : ¬ gvc a b c d (rng 1 500 n) = 0) : idc a b c d n = gvc a b c d (rng 1 500 n) := by simp [idc, h]
theorem idc_0 {a b c d n : Int} (h : gvc a b c d (rng 1 500 n) = 0) (hc : cnt a b c d = 1) : idc a b c d n = 0 := by simp [idc, h, hc]
theorem idc_5 {a b c d n : Int} (h : gvc a b c d (rng 1 500 n) = 0) (hc : ¬ cnt a b c d = 1) : idc a b c d n = 5 := by simp [idc, h, hc]
theorem irb_cnt {a b c d : Int} (h : irb a b c d = true) : 1 ≤ cnt a b c d := by
  unfold irb at h
  simp only [Bool.and_eq_true, Bool.not_eq_true'] at h
  have h1 := h.2.1
  have h2 : 0 ≤ cnt a b c d := by unfold cnt; omega
  have h3 : cnt a b c d ≠ 0 := fun e => by rw [e] at h1; exact absurd h1 (by decide)
  omega
/-- The ideal numbers. -/
def idn (a b c d : Int) (ND : Nat → List (Nat × Nat)) (i : Nat) : Int := chl (fun p t => lcl (kdn a b c d p) t) 1 (ND (i + 1))
def idl (g : Nat → Int) (k : Nat) : List Int := (List.range k).map g
theorem idl_app {w : World} {B : Nat} {t : TypeId} {v : Value} {g : Nat → Int} {k : Nat} (h : w.ownsRow B t 1 v (k + 1) ((idl g k).map (Value.int .i64) ++ [.int .i64 (g k)])) : w.ownsRow B t 1 v (k + 1) ((idl g (k + 1)).map (Value.int .i64)) := by
  have : idl g (k + 1) = idl g k ++ [g k] := by simp [idl, List.range_succ]
  rw [this]; simpa using h
theorem idl_get {g : Nat → Int} {i n : Nat} (h : i < n) : (idl g n).getD i 0 = g i := by simp [idl, h]
theorem idl_len (g : Nat → Int) (n : Nat) : (idl g n).length = n := by simp [idl]
theorem id_bad {code len : Int} {n : Nat} {g : Nat → Int} {w w' : World} (h : code = len) (hc : ¬ len = 0) (hb : Below w.heap.size w w') : LstOut code n g w (.returned (.tuple #[.slice none 0 0, .int .i64 len])) w' := by
  subst h
  exact ⟨_, rfl, .inl ⟨rfl, by rw [if_neg hc]⟩, hb⟩

set_option maxRecDepth 100000 in
set_option maxHeartbeats 4000000 in
theorem iIdeals_any (a b c d n : Int) (ND : Nat → List (Nat × Nat)) (hND : Nds ND) (pv : Value) (w : World) (hg : Sen w pv) : Calls Tryd.prog 29 #[.agg #[.int .i64 a, .int .i64 b, .int .i64 c, .int .i64 d], .int .i64 n] w (LstOut (idc a b c d n) n.toNat (idn a b c d ND) w) := by
  have HG := hid (fun r W hg => iGiven_any a b c d r pv W hg)
  have HT := hid (fun r => @gvc_t a b c d r)
  have HC0 := hid (@irb_cnt a b c d)
  have HI0 := hid (@idc_0 a b c d n); have HI5 := hid (@idc_5 a b c d n); have HIk := hid (@idc_k a b c d n)
  have HA : Hid (isF a b c d = true → ∀ k : Nat, k + 1 ≤ 500 → ∀ W, Sen W pv → Calls Tryd.prog 76 #[.agg #[.int .i64 a, .int .i64 b, .int .i64 c, .int .i64 d, Value.func (Fn.func 100) #[] #[]], .int .i64 (((k + 1 : Nat) : Int))] W fun e w' => e = .returned (.int .i64 (idn a b c d ND k)) ∧ Below W.heap.size W w') :=
    hid fun hF k hk W hg => atF_any a b c d (k + 1) _ pv W hg hF (by omega) hk fun N hN => by unfold idn; rw [hN.uniq (hND.2 (k + 1) (by omega))]
  generalize idn a b c d ND = g at HA ⊢
  generalize idc a b c d n = ic at HI0 HI5 HIk ⊢
  clear hND
  have A0 := Arr.new w a b c d 25
  have U0 := gr_alloc (Below.refl w.heap.size w) (.cells #[.int .i64 a, .int .i64 b, .int .i64 c, .int .i64 d] 25)
  have G0 := hg.alloc (.cells #[.int .i64 a, .int .i64 b, .int .i64 c, .int .i64 d] 25)
  by_cases hr : 1 ≤ n ∧ n ≤ 500
  · obtain ⟨h1, h5⟩ := hr
    have hr' : rng 1 500 n = true := rng_mk h1 h5
    rw [hr'] at HI0 HI5 HIk
    have HT1 := hid (HT.out true)
    have HG1 := hid (fun W hg => HG.out true W hg)
    generalize gvc a b c d true = gk at HG1 HI0 HI5 HIk HT1
    clear HG HT hr'
    go_enter Tryd.func29, Tryd.ntmps29
    go_wp2_with fail
    refine (HG1.out _ G0).mono ?_
    rintro e w1 ⟨rfl, hb1⟩
    have A1 := A0.next hb1
    have U1 := gr_trans U0 hb1
    have G1 := G0.next hb1
    clear A0 U0 G0
    by_cases hk : gk = 0
    · obtain ⟨hF, _, hi⟩ := HT1.out hk
      obtain ⟨ha, hb, hc, hd⟩ := isF_t hF
      have hcn := HC0.out hi
      have HA1 := hid (HA.out hF)
      have HJ0 := hid (fun h => HI0.out hk h); have HJ5 := hid (fun h => HI5.out hk h)
      have HGC := hid (fun W hA => iGcd4_any w.heap.size a b c d W hA ha hb hc hd)
      generalize cnt a b c d = cn at hcn HJ0 HJ5 HGC
      subst hk
      clear hF hi HT1 HC0 HA HI0 HI5 HIk ha hb hc hd
      go_wp2_with fail
      refine (HGC.out _ A1).mono ?_
      rintro e w2 ⟨rfl, hb2⟩
      have A2 := A1.next hb2
      have U2 := gr_trans U1 hb2
      have G2 := G1.next hb2
      clear A1 U1 G1
      by_cases hc1 : cn = 1
      · have HE := hid (HJ0.out hc1)
        have hcb : decide ((1 : Int) < cn) = false := by simp; omega
        obtain ⟨_, c0, c1, c2, c3, _⟩ := id A2
        obtain ⟨m, rfl⟩ : ∃ m : Nat, n = m := ⟨n.toNat, by omega⟩
        clear hc1
        go_wp2_with fail
        refine (idealsOf_any a b c d _).mono ?_
        rintro e w3 ⟨rfl, hb3⟩
        have B3 := hid (Bx.new w3 #[.int .i64 a, .int .i64 b, .int .i64 c, .int .i64 d, Value.func (Fn.func 100) #[] #[]] 77)
        have U3 := hid (gr_alloc (gr_trans U2 hb3) (.cells #[.int .i64 a, .int .i64 b, .int .i64 c, .int .i64 d, Value.func (Fn.func 100) #[] #[]] 77))
        have G3 := hid ((G2.next hb3).alloc (.cells #[.int .i64 a, .int .i64 b, .int .i64 c, .int .i64 d, Value.func (Fn.func 100) #[] #[]] 77))
        clear A2 U2 G2 c0 c1 c2 c3 hb3
        go_wp2_with fail
        generalize hW : w3.alloc (.cells #[.int .i64 a, .int .i64 b, .int .i64 c, .int .i64 d, Value.func (Fn.func 100) #[] #[]] 77) = W0 at B3 U3 G3 ⊢
        clear hW
        have O3 := hid (World.ownsRow_nil W0 W0.heap.size 2 1)
        go_loopw [8, 9] (fun s8 s9 wr => ∃ k : Nat, k ≤ m ∧ s9 = .int .i64 (((k : Int) + 1)) ∧ wr.ownsRow W0.heap.size 2 1 s8 k ((idl g k).map (Value.int .i64)) ∧ Below W0.heap.size W0 wr) (fun _ s9 _ => (m + 1 - intOf s9).toNat)
        case atStart => exact ⟨0, Nat.zero_le _, rfl, O3.out, Below.refl _ _⟩
        case round =>
          obtain ⟨k, hkm, rfl, hO, hU⟩ := hrel
          have HO := hid hO; have HU := hid hU
          have HGr := hid (G3.out.next hU)
          have hB := B3.out.next hU
          have hs0 : wr.cell? ⟨w3.heap.size, 0, none⟩ = some (.int .i64 a) := hB.cell 0
          have hs1 : wr.cell? ⟨w3.heap.size, 1, none⟩ = some (.int .i64 b) := hB.cell 1
          have hs2 : wr.cell? ⟨w3.heap.size, 2, none⟩ = some (.int .i64 c) := hB.cell 2
          have hs3 : wr.cell? ⟨w3.heap.size, 3, none⟩ = some (.int .i64 d) := hB.cell 3
          have hs4 : wr.cell? ⟨w3.heap.size, 4, none⟩ = some (Value.func (Fn.func 100) #[] #[]) := hB.cell 4
          clear hO hB hU O3
          by_cases hlt : k < m
          · have hltb : decide ((k : Int) + 1 ≤ (m : Int)) = true := by simp; omega
            have HAk := hid (fun W hg => HA1.out k (by omega) W hg)
            have e1 : ((k + 1 : Nat) : Int) = (k : Int) + 1 := by omega
            rw [e1] at HAk
            clear e1
            go_wp2_with fail
            refine (HAk.out _ HGr.out).mono ?_
            rintro e w5 ⟨rfl, hb5⟩
            have HO5 := hid (owns_next HO.out hb5)
            have HU5 := hid (gr_trans HU.out hb5)
            have hs5 := HU5.out.size
            clear hs0 hs1 hs2 hs3 hs4 hb5
            go_wp2_with (at_builtin; refine app_i64 rfl _ _ rfl W0.heap.size rfl HO5.out rfl (by omega) (by omega) ?_)
            intro v6 w6 O6 hg6
            have HO6 := hid (idl_app O6)
            have HU6 := hid (gr_own (gr_alloc HU5.out _) hg6 (fun j hj => (HO5.out.lt j hj).1))
            clear O6 hg6
            go_wp2_with fail
            go_roundw
            case rel => exact ⟨k + 1, by omega, by go_num, HO6.out, HU6.out⟩
            case measure => simp [intOf]; omega
          · have hltb : decide ((k : Int) + 1 ≤ (m : Int)) = false := by simp; omega
            have e : k = m := by omega
            subst e
            have HV := hid (OwnV.of_owns (L := idl g k) (by rw [idl_len]; exact HO.out))
            go_wp2_with fail
            go_ret2
            refine ⟨_, by rw [HE.out]; rfl, ?_, gr_trans U3.out HU.out⟩
            rw [HE.out, if_pos rfl]
            have h6 := HV.out
            rw [idl_len] at h6
            exact (h6.congr fun i hi => idl_get hi).base U3.out.size
      · have HE := hid (HJ5.out hc1)
        have hcb : decide ((1 : Int) < cn) = true := by simp; omega
        clear hc1
        go_wp2_with fail
        go_ret2
        exact id_bad HE.out (by omega) U2
    · have hk' : (gk == 0) = false := by simpa using hk
      have HK0 := hid hk
      have HE := hid (HIk.out hk)
      clear hk
      go_wp2_with fail
      go_ret2
      exact id_bad HE.out HK0.out U1
  · have hr' : rng 1 500 n = false := by
      cases h : rng 1 500 n with
      | false => rfl
      | true => exact absurd (rng_t h) hr
    rw [hr'] at HI0 HI5 HIk
    have HT1 := hid (HT.out false)
    have HG1 := hid (fun W hg => HG.out false W hg)
    generalize gvc a b c d false = gk at HG1 HI0 HI5 HIk HT1
    have hk : ¬ gk = 0 := fun h => by have := (HT1.out h).2.1; cases this
    have hk' : (gk == 0) = false := by simpa using hk
    have HK0 := hid hk
    have HE := hid (HIk.out hk)
    clear HG HT hr' hk HT1
    by_cases h1 : 1 ≤ n
    · have h5 : ¬ n ≤ 500 := fun h => hr ⟨h1, h⟩
      clear hr
      go_enter Tryd.func29, Tryd.ntmps29
      go_wp2_with fail
      refine (HG1.out _ G0).mono ?_
      rintro e w1 ⟨rfl, hb1⟩
      have U1 := gr_trans U0 hb1
      go_wp2_with fail
      go_ret2
      exact id_bad HE.out HK0.out U1
    · clear hr
      go_enter Tryd.func29, Tryd.ntmps29
      go_wp2_with fail
      refine (HG1.out _ G0).mono ?_
      rintro e w1 ⟨rfl, hb1⟩
      have U1 := gr_trans U0 hb1
      go_wp2_with fail
      go_ret2
      exact id_bad HE.out HK0.out U1


end Go.Proofs.YtihcmgjfkiaelaaDoor
