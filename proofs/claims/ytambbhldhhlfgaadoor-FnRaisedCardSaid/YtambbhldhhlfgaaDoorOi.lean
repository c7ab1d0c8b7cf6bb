/- Chapter 6: points to raise, the first point, maximal forms at a prime: the model's. -/
import Derived.Test.YtambbhldhhlfgaaDoorZ14
import Derived.Test.YtambbhldhhlfgaaDoorOb
import Derived.Test.YtambbhldhhlfgaaDoorZ15
import Derived.Test.YtambbhldhhlfgaaDoorZ7
namespace Go.Proofs.YtambbhldhhlfgaaDoor
open Go.RowKit

/-- The points below k. -/
def ptK (ok : Int → Bool) (k : Nat) : List Int := ((List.range k).filter fun i : Nat => ok i).map fun i : Nat => (i : Int)
theorem ptK_0 (ok : Int → Bool) : ptK ok 0 = [] := rfl
theorem ptK_t {ok : Int → Bool} {k : Nat} (h : ok k = true) : ptK ok (k + 1) = ptK ok k ++ [(k : Int)] := by simp [ptK, List.range_succ, List.filter_append, h]
theorem ptK_f {ok : Int → Bool} {k : Nat} (h : ok k = false) : ptK ok (k + 1) = ptK ok k := by simp [ptK, List.range_succ, List.filter_append, h]
theorem ptK_len (ok : Int → Bool) (k : Nat) : (ptK ok k).length ≤ k := by
  have := List.length_filter_le (fun i : Nat => ok i) (List.range k)
  simpa [ptK] using this
theorem ptK_st (ok : Int → Bool) (g : Int → Frm) (k : Nat) : (stl ok g k).map (·.1) = ptK ok k := by simp [stl, ptK, List.map_map, Function.comp_def]
theorem pt_app {w : World} {B : Nat} {t : TypeId} {v : Value} {k : Nat} {ok : Int → Bool} (hp : ok k = true) (h : w.ownsRow B t 1 v ((ptK ok k).length + 1) ((ptK ok k).map (Value.int .i64) ++ [.int .i64 k])) : w.ownsRow B t 1 v (ptK ok (k + 1)).length ((ptK ok (k + 1)).map (Value.int .i64)) := by
  rw [ptK_t hp]; simpa using h

set_option maxRecDepth 100000 in
set_option maxHeartbeats 4000000 in
theorem sPoints_any (a b c d p : Int) (w : World) : Calls Tryd.prog 18 #[.agg #[.int .i64 a, .int .i64 b, .int .i64 c, .int .i64 d], .int .i64 p] w (LstOut (fpc a b c d p) (prp a b c d p).length (fun i => (prp a b c d p).getD i 0) w) := by
  have hC := fun W => l06Code_any a b c d p W
  have hk : fpc a b c d p = 0 → isF a b c d = true ∧ prm p = true := fpc_0.1
  have hP : prp a b c d p = ptK (rOk a b c d p) (p.toNat + 1) := ptK_st _ _ _
  rw [hP]
  have hR : fpc a b c d p = 0 → ∀ r, 0 ≤ r → r ≤ p → ∀ W, Calls Tryd.prog 78 #[.agg #[.int .i64 a, .int .i64 b, .int .i64 c, .int .i64 d], .int .i64 p, .int .i64 r] W (RsM (rOk a b c d p r) (raA a b c d p r) (raB a b c d p r) (raC a b c d p r) (raD a b c d p r) W) := fun h r h0 hr W => by
    obtain ⟨hF, hp⟩ := fpc_0.1 h
    obtain ⟨ha, hb, hc, hd⟩ := isF_t hF
    obtain ⟨h2, h97⟩ := prm_rng hp
    exact l06Raised_any a b c d p r W ha hb hc hd h2 h97 h0 hr
  generalize fpc a b c d p = k at hC hk hR ⊢
  generalize rOk a b c d p = ok at hR ⊢
  have HC := hid hC; have HK := hid hk; have HR0 := hid hR
  clear hC hk hP hR
  have A0 := Arr.new w a b c d 25
  have U0 := gr_alloc (Below.refl w.heap.size w) (.cells #[.int .i64 a, .int .i64 b, .int .i64 c, .int .i64 d] 25)
  go_enter Tryd.func18, Tryd.ntmps18
  go_wp2_with fail
  refine (HC.out _).mono ?_
  rintro e w1 ⟨rfl, hb1⟩
  have A1 := A0.next hb1
  have U1 := gr_trans U0 hb1
  clear A0 U0
  by_cases hk0 : k = 0
  · obtain ⟨hF, hp⟩ := HK.out hk0
    obtain ⟨h2, h97⟩ := prm_rng hp
    have HR := hid (HR0.out hk0)
    subst hk0
    clear hF hp HK HR0
    have O0 := owns_empty w1 w1.heap.size 2 1 (Nat.le_refl _)
    have A2 := A1.alloc (.cells #[] 2)
    have U2 := gr_alloc U1 (.cells #[] 2)
    have hz1 := U1.size
    have hlw := A1.lt
    clear A1 U1
    go_wp2_with fail
    go_loopw [7, 8] (fun s7 s8 wr => ∃ k : Nat, (k : Int) ≤ p + 1 ∧ s8 = .int .i64 k ∧ wr.ownsRow w1.heap.size 2 1 s7 (ptK ok k).length ((ptK ok k).map (Value.int .i64)) ∧ Arr wr w.heap.size a b c d ∧ Below w.heap.size w wr ∧ w1.heap.size ≤ wr.heap.size) (fun _ s8 _ => (p + 1 - intOf s8).toNat)
    case atStart => exact ⟨0, by omega, rfl, O0, A2, U2, by simp⟩
    case round =>
      obtain ⟨k, hk, rfl, hO, hA, hU, hzr⟩ := hrel
      have HO := hid hO; have HU := hid hU; have HA := hid hA
      have hl := ptK_len ok k
      clear hO hU O0 U2 A2
      by_cases hle : (k : Int) ≤ p
      · obtain ⟨_, a0, a1, a2, a3, _⟩ := id hA
        have HR1 := hid (HR.out k (by omega) hle)
        cases hok : ok k with
        | false =>
          have HP := hid (ptK_f hok)
          rw [hok] at HR1
          clear hA
          go_wp2_with fail
          refine (HR1.out _).mono ?_
          rintro e w2 ⟨x, y, z, u, rfl, _, hb2⟩
          have HA2 := hid ((HA.out.next hb2).alloc (.cells #[.int .i64 x, .int .i64 y, .int .i64 z, .int .i64 u] 25))
          have HU2 := hid (gr_alloc (gr_trans HU.out hb2) (.cells #[.int .i64 x, .int .i64 y, .int .i64 z, .int .i64 u] 25))
          have HO2 := hid ((row_next HO.out hb2).alloc (.cells #[.int .i64 x, .int .i64 y, .int .i64 z, .int .i64 u] 25))
          have hz2 := hb2.size
          clear a0 a1 a2 a3
          go_wp2_with fail
          go_roundw
          case rel => exact ⟨k + 1, by omega, by go_num, by rw [HP.out]; exact HO2.out, HA2.out, HU2.out, by simp; omega⟩
          case measure => simp [intOf]; omega
        | true =>
          have HP := hid hok
          rw [hok] at HR1
          clear hA
          go_wp2_with fail
          refine (HR1.out _).mono ?_
          rintro e w2 ⟨x, y, z, u, rfl, hxx, hb2⟩
          clear hxx
          have HA2 := hid ((HA.out.next hb2).alloc (.cells #[.int .i64 x, .int .i64 y, .int .i64 z, .int .i64 u] 25))
          have HU2 := hid (gr_alloc (gr_trans HU.out hb2) (.cells #[.int .i64 x, .int .i64 y, .int .i64 z, .int .i64 u] 25))
          have HO2 := hid ((row_next HO.out hb2).alloc (.cells #[.int .i64 x, .int .i64 y, .int .i64 z, .int .i64 u] 25))
          have hz2 := hb2.size
          clear a0 a1 a2 a3 hok
          go_wp2_with (at_builtin; refine app_i64n rfl _ _ rfl w1.heap.size (w2.heap.size + 1) rfl HO2.out rfl (by simp) (by omega) (by simp; omega) ?_)
          intro y1 W1 O1 hg1
          have HO1 := hid (pt_app HP.out O1)
          have HU1 := hid (gr_own (gr_alloc HU2.out _) hg1 (fun j hj => by have := (HO2.out.lt j hj).1; omega))
          have HA1 := hid (arr_append HO2.out (by omega) HA2.out hg1)
          have hz4 := hg1.size
          simp only [World.size_alloc] at hz4
          clear hb2
          clear O1 hg1
          go_wp2
          go_roundw
          case rel => exact ⟨k + 1, by omega, by go_num, HO1.out, HA1.out, HU1.out, by omega⟩
          case measure => simp [intOf]; omega
      · have e : k = p.toNat + 1 := by omega
        subst e
        clear hA
        have HV := hid ((OwnV.of_owns HO.out).base hz1)
        go_wp2
        go_ret2
        exact ⟨_, rfl, HV.out, HU.out⟩
  · have HE := hid hk0
    have hk' : (k == 0) = false := by simpa using hk0
    clear hk0
    go_wp2_with fail
    go_ret2
    exact ⟨_, rfl, .inl ⟨rfl, by rw [if_neg HE.out]⟩, U1⟩

theorem prp_le (a b c d p : Int) : (if fpc a b c d p = 0 then (prp a b c d p).length else 0) ≤ 1000 := by
  split
  · rename_i h
    have := prp_len (a := a) (b := b) (c := c) (d := d) (prm_rng (fpc_0.1 h).2).2
    omega
  · omega

/-- The first point, -1 if there is none. -/
def FstPost (ok : Int → Bool) (p : Int) (w : World) (e : Ending) (w' : World) : Prop := ∃ r : Int, e = .returned (.int .i64 r) ∧ (decide (r < 0) = (ptK ok (p.toNat + 1)).isEmpty) ∧ Below w.heap.size w w'

set_option maxRecDepth 100000 in
set_option maxHeartbeats 4000000 in
theorem l06First_any (a b c d p : Int) (w : World) (ha : -1000 ≤ a ∧ a ≤ 1000) (hb : -1000 ≤ b ∧ b ≤ 1000) (hc : -1000 ≤ c ∧ c ≤ 1000) (hd : -1000 ≤ d ∧ d ≤ 1000) (h2 : 2 ≤ p) (h97 : p ≤ 97) :
    Calls Tryd.prog 90 #[.agg #[.int .i64 a, .int .i64 b, .int .i64 c, .int .i64 d], .int .i64 p] w (FstPost (rOk a b c d p) p w) := by
  have HR := hid (fun r h0 hr W => l06Raised_any a b c d p r W ha hb hc hd h2 h97 h0 hr)
  clear ha hb hc hd
  generalize rOk a b c d p = ok at HR ⊢
  have A0 := Arr.new w a b c d 25
  have U0 := gr_alloc (Below.refl w.heap.size w) (.cells #[.int .i64 a, .int .i64 b, .int .i64 c, .int .i64 d] 25)
  go_enter Tryd.func90, Tryd.ntmps90
  go_wp2_with fail
  go_loopw [5] (fun s5 wr => ∃ k : Nat, (k : Int) ≤ p + 1 ∧ s5 = .int .i64 k ∧ Hid (ptK ok k = []) ∧ Arr wr w.heap.size a b c d ∧ Below w.heap.size w wr) (fun s5 _ => (p + 1 - intOf s5).toNat)
  case atStart => exact ⟨0, by omega, rfl, hid rfl, A0, U0⟩
  case round =>
    obtain ⟨k, hk, rfl, HN, hA, hU⟩ := hrel
    have HU := hid hU; have HA := hid hA
    clear hU U0 A0
    by_cases hle : (k : Int) ≤ p
    · obtain ⟨_, a0, a1, a2, a3, _⟩ := id hA
      have HR1 := hid (HR.out k (by omega) hle)
      cases hok : ok k with
      | false =>
        have HP := hid ((ptK_f hok).trans HN.out)
        rw [hok] at HR1
        clear hA
        go_wp2_with fail
        refine (HR1.out _).mono ?_
        rintro e w2 ⟨x, y, z, u, rfl, hxx, hb2⟩
        clear hxx
        have HA2 := hid ((HA.out.next hb2).alloc (.cells #[.int .i64 x, .int .i64 y, .int .i64 z, .int .i64 u] 25))
        have HU2 := hid (gr_alloc (gr_trans HU.out hb2) (.cells #[.int .i64 x, .int .i64 y, .int .i64 z, .int .i64 u] 25))
        clear a0 a1 a2 a3
        go_wp2_with fail
        go_roundw
        case rel => exact ⟨k + 1, by omega, by go_num, HP, HA2.out, HU2.out⟩
        case measure => simp [intOf]; omega
      | true =>
        have hne : (ptK ok (p.toNat + 1)).isEmpty = false := by
          rw [List.isEmpty_eq_false_iff]
          intro h0
          have hm : (k : Int) ∈ ptK ok (p.toNat + 1) := by
            simp only [ptK, List.mem_map, List.mem_filter, List.mem_range]
            exact ⟨k, ⟨by omega, hok⟩, rfl⟩
          rw [h0] at hm; cases hm
        have HE := hid hne
        rw [hok] at HR1
        clear hA hok hne
        go_wp2_with fail
        refine (HR1.out _).mono ?_
        rintro e w2 ⟨x, y, z, u, rfl, hxx, hb2⟩
        clear hxx
        have HU2 := hid (gr_alloc (gr_trans HU.out hb2) (.cells #[.int .i64 x, .int .i64 y, .int .i64 z, .int .i64 u] 25))
        clear a0 a1 a2 a3
        go_wp2_with fail
        go_ret
        refine ⟨_, rfl, ?_, HU2.out⟩
        rw [HE.out, decide_eq_false_iff_not]; omega
    · have e : k = p.toNat + 1 := by omega
      subst e
      clear hA
      go_wp2_with fail
      go_ret
      refine ⟨_, rfl, ?_, HU.out⟩
      rw [HN.out]; rfl

/-- Is f maximal at p? -/
def mxA (a b c d p : Int) : Bool := decide (fpc a b c d p = 0) && !mul0 (cnt a b c d) p && (ptK (rOk a b c d p) (p.toNat + 1)).isEmpty

set_option maxRecDepth 100000 in
set_option maxHeartbeats 2000000 in
theorem sMaximalAt_any (a b c d p : Int) (w : World) :
    Calls Tryd.prog 21 #[.agg #[.int .i64 a, .int .i64 b, .int .i64 c, .int .i64 d], .int .i64 p] w fun e w' => e = .returned (.tuple #[.bool (mxA a b c d p), .int .i64 (fpc a b c d p)]) ∧ Below w.heap.size w w' := by
  have hC := fun W => l06Code_any a b c d p W
  have hF : fpc a b c d p = 0 → isF a b c d = true ∧ prm p = true := fpc_0.1
  have hK : mxA a b c d p = (decide (fpc a b c d p = 0) && !mul0 (cnt a b c d) p && (ptK (rOk a b c d p) (p.toNat + 1)).isEmpty) := rfl
  generalize mxA a b c d p = mx at hK ⊢
  generalize fpc a b c d p = f at hC hF hK ⊢
  have HC := hid hC; have HF := hid hF; have HK := hid hK
  clear hC hF hK
  have A0 := Arr.new w a b c d 25
  have U0 := gr_alloc (Below.refl w.heap.size w) (.cells #[.int .i64 a, .int .i64 b, .int .i64 c, .int .i64 d] 25)
  go_enter Tryd.func21, Tryd.ntmps21
  go_wp2_with fail
  refine (HC.out _).mono ?_
  rintro e w1 ⟨rfl, hb1⟩
  have A1 := A0.next hb1
  have U1 := gr_trans U0 hb1
  obtain ⟨_, a0, a1, a2, a3, _⟩ := id A1
  by_cases hf : f = 0
  · obtain ⟨hFm, hp⟩ := HF.out hf
    obtain ⟨ha, hb, hc, hd⟩ := isF_t hFm
    obtain ⟨h2, h97⟩ := prm_rng hp
    have HG := hid (fun W => sCnt_any a b c d W ha hb hc hd)
    have HM := hid (fun W => l06First_any a b c d p W ha hb hc hd h2 h97)
    obtain ⟨g0, g1⟩ := cnt_bd ha hb hc hd
    have hmp := mul0_p (n := cnt a b c d) h2
    generalize cnt a b c d = g at HG HK g0 g1 hmp
    have hz4 : ¬ p = 0 := by omega
    have he : g.tmod p = g % p := Int.tmod_eq_emod_of_nonneg g0
    clear hFm hp ha hb hc hd
    subst hf
    by_cases hm : g.tmod p = 0
    · have HE := hid (show mx = false by rw [HK.out, hmp]; simp [hm])
      have hm' : (g % p != 0) = false := by rw [← he]; simp [hm]
      clear hm he hmp
      go_wp2_with fail
      refine (HG.out _).mono ?_
      rintro e w2 ⟨rfl, hb2⟩
      have U2 := gr_trans U1 hb2
      go_wp2_with fail
      go_ret2
      rw [HE.out]
      exact ⟨rfl, U2⟩
    · have HE := hid (show mx = (ptK (rOk a b c d p) (p.toNat + 1)).isEmpty by rw [HK.out, hmp]; simp [hm])
      have hm' : (g % p != 0) = true := by rw [← he]; simp [hm]
      clear hm he hmp
      go_wp2_with fail
      refine (HG.out _).mono ?_
      rintro e w2 ⟨rfl, hb2⟩
      have A2 := A1.next hb2
      have U2 := gr_trans U1 hb2
      clear a0 a1 a2 a3
      obtain ⟨_, a0, a1, a2, a3, _⟩ := id A2
      go_wp2_with fail
      refine (HM.out _).mono ?_
      rintro e w3 ⟨r, rfl, hr, hb3⟩
      have HR := hid hr
      clear hr
      go_wp2_with fail
      go_ret2
      rw [HE.out, ← HR.out]
      exact ⟨rfl, gr_trans U2 hb3⟩
  · have HE := hid (show mx = false by rw [HK.out]; simp [hf])
    have hf' : (f == 0) = false := by simpa using hf
    clear hf
    go_wp2_with fail
    go_ret2
    rw [HE.out]
    exact ⟨rfl, U1⟩

end Go.Proofs.YtambbhldhhlfgaaDoor
