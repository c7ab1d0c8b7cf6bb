/- Chapter 5: lists of primes, the program's and the model's. -/
import Derived.Test.YtmhlolimaeejfaaDoorPc
import Derived.Test.YtmhlolimaeejfaaDoorBx
import Derived.Test.YtmhlolimaeejfaaDoorDet0
import Derived.Test.YtmhlolimaeejfaaDoorList2
namespace Go.Proofs.YtmhlolimaeejfaaDoor
open Go.RowKit

theorem OwnV.of_owns {B : Nat} {w : World} {v : Value} {t : TypeId} {L : List Int} (h : w.ownsRow B t 1 v L.length (L.map (Value.int .i64))) : OwnV B w v L.length (fun i => L.getD i 0) := by
  rcases h.2 with ⟨rfl, hn⟩ | ⟨g, cap, cur, rfl, hb, hg, hnc, hcm, hs, ht⟩
  · exact .inl ⟨rfl, hn⟩
  · refine .inr ⟨g, cap, rfl, hb, (Array.getElem?_eq_some_iff.1 hg).1, hnc, hcm, fun i hi => ⟨?_, by simp [World.frozen?, hg]⟩⟩
    have hx : (L.map (Value.int .i64))[i]? = some (.int .i64 (L.getD i 0)) := by simp [List.getD, hi]
    rw [← ht, List.getElem?_take] at hx
    split at hx
    · simp [World.cell?, hg]
      simpa using hx
    · cases hx
theorem owns_empty (w : World) (B : Nat) (t : TypeId) (s : Nat) (hB : B ≤ w.heap.size) : (w.alloc (.cells #[] t)).ownsRow B t s (.slice (some ⟨w.heap.size, 0, none⟩) 0 0) 0 [] :=
  ⟨by simp, .inr ⟨w.heap.size, 0, #[], rfl, hB, heap_alloc_new w _, Nat.le_refl _, by decide, by simp, by simp⟩⟩
theorem prl_app {w : World} {B : Nat} {t : TypeId} {v : Value} {k : Nat} (hp : prm k = true) (h : w.ownsRow B t 1 v ((prl k).length + 1) ((prl k).map (Value.int .i64) ++ [.int .i64 k])) : w.ownsRow B t 1 v (prl (k + 1)).length ((prl (k + 1)).map (Value.int .i64)) := by
  rw [prl_t hp]; simpa using h

set_option maxRecDepth 100000 in
set_option maxHeartbeats 1000000 in
theorem iPrimesUpTo_any (n : Int) (w : World) : Calls Tryd.prog 36 #[.int .i64 n] w (LstOut (nco n) (prl (n.toNat + 1)).length (fun i => (prl (n.toNat + 1)).getD i 0) w) := by
  by_cases hr : rng 2 97 n = true
  · obtain ⟨h2, h97⟩ := rng_t hr
    have h0 : nco n = 0 := by simp [nco, hr]
    have H0 := hid h0
    obtain ⟨i0, hi, hi0, hi1, hi2⟩ := info_parts info_l64
    have HI := hid hi; have HZ0 := hid hi0; have HZ1 := hid hi1; have HZ2 := hid hi2
    clear hi hi0 hi1 hi2 h0 hr
    have O0 := World.ownsRow_nil w w.heap.size 2 1
    go_enter Tryd.func36, Tryd.ntmps36
    go_wp2
    go_loopw [4, 5] (fun v s wr => ∃ k : Nat, 2 ≤ k ∧ (k : Int) ≤ n + 1 ∧ s = .int .i64 ((k : Int)) ∧ wr.ownsRow w.heap.size 2 1 v (prl k).length ((prl k).map (Value.int .i64)) ∧ Below w.heap.size w wr) (fun _ s _ => (n + 1 - intOf s).toNat)
    case atStart => exact ⟨2, by omega, by omega, rfl, by rw [prl_2]; exact O0, Below.refl _ _⟩
    case round =>
      obtain ⟨k, hk2, hkn, rfl, hO, hU⟩ := hrel
      have HO := hid hO; have HU := hid hU
      have hl := prl_len k
      have hv := hU.size
      clear hO hU O0
      by_cases hle : (k : Int) ≤ n
      · cases hp : prm (k : Int) with
        | false =>
          have HP := hid (prl_f hp)
          go_wp2_with (go_at_call 43; refine (isPrime_any _ _).mono ?_; rintro e w' ⟨rfl, rfl⟩)
          go_roundw
          case rel => exact ⟨k + 1, by omega, by omega, by go_num, by rw [HP.out]; exact HO.out, HU.out⟩
          case measure => simp [intOf]; omega
        | true =>
          have HP := hid hp
          go_wp2_with (first | (go_at_call 43; refine (isPrime_any _ _).mono ?_; rintro e w' ⟨rfl, rfl⟩) | (at_builtin; refine wpList_append_own _ rfl _ _ 33 rfl w.heap.size 2 i0 (.int .i64 0) 1 8 Tryd.underlying33 HI.out HZ0.out HZ1.out HZ2.out rfl (by decide) _ _ _ rfl (HO.out.alloc _) ⟨wr.heap.size, 0, none⟩ 1 1 [.int .i64 ((k : Int))] rfl rfl ?a1 ?b1 ?c1 ?d1 ?e1 ?_))
          case a1 =>
            intro j u hj
            match j, hj with
            | 0, hj => simp at hj; subst hj; simp [Addr.add, go_sem]
          case b1 => first | (intro u hu; simp at hu; subst hu; rfl) | rfl | simp [Value.oneCell']
          case c1 => unfold maxLen; omega
          case d1 => omega
          case e1 => first | omega | (simp; omega)
          intro y1 W1 O1 hg1 _
          have HO1 := hid (prl_app HP.out O1)
          have HU1 := hid (gr_own (gr_alloc HU.out _) hg1 (fun j hj => (HO.out.lt j hj).1))
          clear O1 hg1
          go_wp2
          go_roundw
          case rel => exact ⟨k + 1, by omega, by omega, by go_num, HO1.out, HU1.out⟩
          case measure => simp [intOf]; omega
      · have e : k = n.toNat + 1 := by omega
        subst e
        go_wp2
        go_ret2
        rw [H0.out]
        exact ⟨_, rfl, OwnV.of_owns HO.out, HU.out⟩
  · have hr' : rng 2 97 n = false := by simpa using hr
    have h0 : nco n = 2 := by simp [nco, hr']
    have H0 := hid h0
    have hn := rng_f hr'
    clear h0 hr hr'
    rcases hn with hn | hn
    · go_enter Tryd.func36, Tryd.ntmps36
      go_wp2
      go_ret2
      rw [H0.out]
      exact ⟨_, rfl, .inl ⟨rfl, by simp⟩, Below.refl _ _⟩
    · go_enter Tryd.func36, Tryd.ntmps36
      go_wp2
      go_ret2
      rw [H0.out]
      exact ⟨_, rfl, .inl ⟨rfl, by simp⟩, Below.refl _ _⟩

theorem prl_le (n : Int) : (if nco n = 0 then (prl (n.toNat + 1)).length else 0) ≤ 1000 := by
  by_cases hr : rng 2 97 n = true
  · have h := rng_t hr
    have := prl_len (n.toNat + 1)
    split <;> omega
  · simp [nco, hr]

/-- A list that the call laid. -/
def LstV (len : Nat) (g : Nat → Int) (w : World) (e : Ending) (w' : World) : Prop := ∃ v, e = .returned v ∧ OwnV w.heap.size w' v len g ∧ Below w.heap.size w w'

set_option maxRecDepth 100000 in
set_option maxHeartbeats 1000000 in
theorem l05Primes_any (n : Int) (w : World) (h2 : 2 ≤ n) (h97 : n ≤ 97) : Calls Tryd.prog 34 #[.int .i64 n] w (LstV (prl (n.toNat + 1)).length (fun i => (prl (n.toNat + 1)).getD i 0) w) := by
  obtain ⟨i0, hi, hi0, hi1, hi2⟩ := info_parts info_l64
  have HI := hid hi; have HZ0 := hid hi0; have HZ1 := hid hi1; have HZ2 := hid hi2
  clear hi hi0 hi1 hi2
  have O0 := owns_empty w w.heap.size 2 1 (Nat.le_refl _)
  have U0 := gr_alloc (Below.refl w.heap.size w) (.cells #[] 2)
  go_enter Tryd.func34, Tryd.ntmps34
  go_wp2
  go_loopw [3, 4] (fun v s wr => ∃ k : Nat, 2 ≤ k ∧ (k : Int) ≤ n + 1 ∧ s = .int .i64 ((k : Int)) ∧ wr.ownsRow w.heap.size 2 1 v (prl k).length ((prl k).map (Value.int .i64)) ∧ Below w.heap.size w wr) (fun _ s _ => (n + 1 - intOf s).toNat)
  case atStart => exact ⟨2, by omega, by omega, rfl, by rw [prl_2]; exact O0, U0⟩
  case round =>
    obtain ⟨k, hk2, hkn, rfl, hO, hU⟩ := hrel
    have HO := hid hO; have HU := hid hU
    have hl := prl_len k
    have hv := hU.size
    clear hO hU O0 U0
    by_cases hle : (k : Int) ≤ n
    · cases hp : prm (k : Int) with
      | false =>
        have HP := hid (prl_f hp)
        go_wp2_with (go_at_call 37; refine (l05Prime_any _ _).mono ?_; rintro e w' ⟨rfl, rfl⟩)
        go_roundw
        case rel => exact ⟨k + 1, by omega, by omega, by go_num, by rw [HP.out]; exact HO.out, HU.out⟩
        case measure => simp [intOf]; omega
      | true =>
        have HP := hid hp
        go_wp2_with (first | (go_at_call 37; refine (l05Prime_any _ _).mono ?_; rintro e w' ⟨rfl, rfl⟩) | (at_builtin; refine wpList_append_own _ rfl _ _ 33 rfl w.heap.size 2 i0 (.int .i64 0) 1 8 Tryd.underlying33 HI.out HZ0.out HZ1.out HZ2.out rfl (by decide) _ _ _ rfl (HO.out.alloc _) ⟨wr.heap.size, 0, none⟩ 1 1 [.int .i64 ((k : Int))] rfl rfl ?a1 ?b1 ?c1 ?d1 ?e1 ?_))
        case a1 =>
          intro j u hj
          match j, hj with
          | 0, hj => simp at hj; subst hj; simp [Addr.add, go_sem]
        case b1 => first | (intro u hu; simp at hu; subst hu; rfl) | rfl | simp [Value.oneCell']
        case c1 => unfold maxLen; omega
        case d1 => omega
        case e1 => first | omega | (simp; omega)
        intro y1 W1 O1 hg1 _
        have HO1 := hid (prl_app HP.out O1)
        have HU1 := hid (gr_own (gr_alloc HU.out _) hg1 (fun j hj => (HO.out.lt j hj).1))
        clear O1 hg1
        go_wp2
        go_roundw
        case rel => exact ⟨k + 1, by omega, by omega, by go_num, HO1.out, HU1.out⟩
        case measure => simp [intOf]; omega
    · have e : k = n.toNat + 1 := by omega
      subst e
      go_wp2
      go_ret
      exact ⟨_, rfl, OwnV.of_owns HO.out, HU.out⟩




end Go.Proofs.YtmhlolimaeejfaaDoor
