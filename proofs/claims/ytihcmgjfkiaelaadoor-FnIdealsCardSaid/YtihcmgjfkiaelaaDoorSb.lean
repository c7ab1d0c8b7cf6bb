/- Chapter 9: ideal numbers at powers, and at numbers, the program's. -/
import Derived.Test.YtihcmgjfkiaelaaDoorSa
import Derived.Test.YtihcmgjfkiaelaaDoorRt
import Derived.Test.YtihcmgjfkiaelaaDoorYt
import Derived.Deep.DeepCutAuto
import Derived.Deep.RegionWith
namespace Go.Proofs.YtihcmgjfkiaelaaDoor
open Go.RowKit

theorem tt_bd {t : Nat} (h : t ≤ 500) : (0 : Int) ≤ ((t : Int) + 1) * (t + 2) ∧ ((t : Int) + 1) * (t + 2) ≤ 501 * 502 :=
  ⟨Int.mul_nonneg (by omega) (by omega), Int.mul_le_mul (by omega) (by omega) (by omega) (by omega)⟩

set_option maxRecDepth 100000 in
set_option maxHeartbeats 2000000 in
theorem idealsAtPower_any (a b c d : Int) (p t : Nat) (pv : Value) (w : World) (hg : Sen w pv) (hF : isF a b c d = true) (hp : prq (p : Int) = true) (ht : t ≤ 500) :
    Calls Tryd.prog 100 #[.agg #[.int .i64 a, .int .i64 b, .int .i64 c, .int .i64 d], .int .i64 ((p : Int)), .int .i64 ((t : Int))] w fun e w' => e = .returned (.int .i64 (lcl (kdn a b c d p) t)) ∧ Below w.heap.size w w' := by
  have HK := hid (fun W hg => kindModulo_any a b c d p pv W hg hF hp)
  obtain ⟨q0, q1⟩ := tt_bd ht
  clear hF hp
  generalize kdn a b c d p = k at HK ⊢
  have A0 := Arr.new w a b c d 25
  have U0 := gr_alloc (Below.refl w.heap.size w) (.cells #[.int .i64 a, .int .i64 b, .int .i64 c, .int .i64 d] 25)
  have G0 := hg.alloc (.cells #[.int .i64 a, .int .i64 b, .int .i64 c, .int .i64 d] 25)
  go_enter Tryd.func100, Tryd.ntmps100
  go_upto_region 1 with fail
  generalize hW : w.alloc (.cells #[.int .i64 a, .int .i64 b, .int .i64 c, .int .i64 d] 25) = W0 at A0 U0 G0 ⊢
  clear hW
  obtain ⟨_, c0, c1, c2, c3, _⟩ := id A0
  go_cut [10] (fun s10 wx => s10 = .int .i64 k ∧ Below W0.heap.size W0 wx)
  case first =>
    go_wp2_with fail
    refine (HK.out _ G0).mono ?_
    rintro e w3 ⟨T, vv, rfl, hK, hb3⟩
    rcases hK with ⟨rfl, rfl, hn⟩ | ⟨t, rfl, rfl, hn⟩ | ⟨m, rfl, rfl, hn⟩
    · subst hn
      go_wp2_with fail
      refine (zkNumber_any _).mono ?_
      rintro e w4 ⟨rfl, hb4⟩
      go_wp2_with fail
      go_meet
      exact ⟨rfl, gr_trans hb3 hb4⟩
    · generalize hu : (if t = 2 then (4 : Int) else 5) = u at hn
      have HN2 := hid (rkNumber_any t)
      rw [hu] at HN2
      clear hu
      subst hn
      go_wp2_with fail
      refine (HN2.out _).mono ?_
      rintro e w4 ⟨rfl, hb4⟩
      go_wp2_with fail
      go_meet
      exact ⟨rfl, gr_trans hb3 hb4⟩
    · generalize hu : (if m = 3 then (1 : Int) else if m = 1 then 2 else 3) = u at hn
      have HN2 := hid (skNumber_any m)
      rw [hu] at HN2
      clear hu
      subst hn
      go_wp2_with fail
      refine (HN2.out _).mono ?_
      rintro e w4 ⟨rfl, hb4⟩
      go_wp2_with fail
      go_meet
      exact ⟨rfl, gr_trans hb3 hb4⟩
  case rest =>
    obtain ⟨rfl, hbx⟩ := hcut
    have U1 := hid (gr_trans U0 hbx)
    clear A0 U0 G0 c0 c1 c2 c3 hbx HK
    by_cases h1 : k = 1
    · have b1 : (k == 1) = true := by simpa using h1
      have HE := hid (lclk_1 h1 t)
      clear h1
      go_wp2_with fail
      go_ret
      exact ⟨ret_int (by rw [HE.out]), U1.out⟩
    · have b1 : (k == 1) = false := by simpa using h1
      by_cases h2 : k = 2
      · have b2 : (k == 2) = true := by simpa using h2
        have HE := hid (lclk_2 h2 t)
        clear h1 h2
        go_wp2_with fail
        go_ret
        exact ⟨ret_int (by rw [HE.out]), U1.out⟩
      · have b2 : (k == 2) = false := by simpa using h2
        by_cases h3 : k = 3
        · have b3 : (k == 3) = true := by simpa using h3
          by_cases h30 : t % 3 = 0
          · have b30 : decide ((0 : Int) < (t : Int) % 3) = false := by simp; omega
            have hk4 : (k == 4) = false := by simp; omega
            have HE := hid (lclk_30 h3 t h30)
            clear h1 h2 h3 h30
            go_wp2_with fail
            go_ret
            exact ⟨ret_int (by rw [HE.out]), U1.out⟩
          · have b30 : decide ((0 : Int) < (t : Int) % 3) = true := by simp; omega
            have HE := hid (lclk_31 h3 t h30)
            clear h1 h2 h3 h30
            go_wp2_with fail
            go_ret
            exact ⟨ret_int (by rw [HE.out]), U1.out⟩
        · have b3 : (k == 3) = false := by simpa using h3
          by_cases h4 : k = 4
          · have b4 : (k == 4) = true := by simpa using h4
            have HE := hid (lclk_4 h4 t)
            clear h1 h2 h3 h4
            go_wp2_with fail
            go_ret
            exact ⟨ret_int (by rw [HE.out]), U1.out⟩
          · have b4 : (k == 4) = false := by simpa using h4
            have HE := hid (lcl_x (t := t) h1 h2 h3 h4)
            clear h1 h2 h3 h4
            go_wp2_with fail
            go_ret
            exact ⟨ret_int (by rw [HE.out]), U1.out⟩

set_option maxRecDepth 100000 in
set_option maxHeartbeats 1000000 in
theorem idealsOf_any (a b c d : Int) (w : World) : Calls Tryd.prog 75 #[.agg #[.int .i64 a, .int .i64 b, .int .i64 c, .int .i64 d]] w fun e w' => e = .returned (.agg #[.int .i64 a, .int .i64 b, .int .i64 c, .int .i64 d, Value.func (Fn.func 100) #[] #[]]) ∧ Below w.heap.size w w' := by
  obtain ⟨_, c0, c1, c2, c3, _⟩ := Arr.new w a b c d 25
  go_enter Tryd.func75, Tryd.ntmps75
  go_wp2
  refine bodyPost_ret (v := .agg #[.int .i64 a, .int .i64 b, .int .i64 c, .int .i64 d, Value.func (Fn.func 100) #[] #[]]) ?_ rfl ⟨rfl, by (repeat' (first | with_reducible exact Below.refl _ _ | with_reducible assumption | with_reducible refine gr_alloc ?_ _ | with_reducible refine gr_drew ?_ | with_reducible refine gr_drewN ?_ _ | with_reducible refine gr_trans ?_ (by assumption) | with_reducible refine gr_set ?_ ?_ _ | (simp; done) | omega | (simp; omega)))⟩
  simp [results, Tryd.results75, go_sem]

set_option maxRecDepth 100000 in
set_option maxHeartbeats 2000000 in
theorem atF_any (a b c d : Int) (n : Nat) (T : Int) (pv : Value) (w : World) (hg : Sen w pv) (hF : isF a b c d = true) (h1 : 1 ≤ n) (h6 : n ≤ 500) (hT : ∀ N, Nod n N → chl (fun p t => lcl (kdn a b c d p) t) 1 N = T) :
    Calls Tryd.prog 76 #[.agg #[.int .i64 a, .int .i64 b, .int .i64 c, .int .i64 d, Value.func (Fn.func 100) #[] #[]], .int .i64 ((n : Int))] w fun e w' => e = .returned (.int .i64 T) ∧ Below w.heap.size w w' := by
  have HC := hid (fun p t W hg hp ht => idealsAtPower_any a b c d p t pv W hg hF hp ht)
  have HT := hid hT
  clear hT hF
  generalize hv : (fun (p t : Nat) => lcl (kdn a b c d p) t) = v at HT
  have HV := hid (fun (p t : Nat) => (congrFun (congrFun hv p) t : lcl (kdn a b c d p) t = v p t))
  clear hv
  have B0 := Bx.new w #[.int .i64 a, .int .i64 b, .int .i64 c, .int .i64 d, Value.func (Fn.func 100) #[] #[]] 77
  have U0 := gr_alloc (Below.refl w.heap.size w) (.cells #[.int .i64 a, .int .i64 b, .int .i64 c, .int .i64 d, Value.func (Fn.func 100) #[] #[]] 77)
  have G0 := hg.alloc (.cells #[.int .i64 a, .int .i64 b, .int .i64 c, .int .i64 d, Value.func (Fn.func 100) #[] #[]] 77)
  go_enter Tryd.func76, Tryd.ntmps76
  go_wp2_with fail
  refine (numberOf_any n _ h1 (by omega)).mono ?_
  rintro e w1 ⟨v0, N0, rfl, hN0, hC0, hb1⟩
  have HB0 := hid (B0.next hb1)
  have HU0 := hid (gr_trans U0 hb1)
  have HG0 := hid (G0.next hb1)
  have HE0 := hid (HT.out N0 hN0)
  have HN0 := hid hN0.bd
  have HP0 := hid (fun x hx => (hN0.prm x hx).1)
  have HC0 := hid hC0
  clear hN0 hC0 B0 U0 G0 HT
  go_wp2_with fail
  go_loopg [5, 6] N0.length (fun k s t wr => ∃ (pr : Int) (u : Option Addr) (N : List (Nat × Nat)) (B : Nat), s = .int .i64 pr ∧ t = .pointer u ∧ chl v pr N = T ∧ (∀ x ∈ N, 2 ≤ x.1 ∧ x.1 ≤ n ∧ 1 ≤ x.2 ∧ x.2 ≤ n) ∧ (∀ x ∈ N, Prm x.1) ∧ Chn wr B N u ∧ Bx wr w.heap.size #[.int .i64 a, .int .i64 b, .int .i64 c, .int .i64 d, Value.func (Fn.func 100) #[] #[]] 77 ∧ Sen wr pv ∧ Below w.heap.size w wr ∧ N.length = k)
  case atStart => exact ⟨1, v0, N0, _, rfl, rfl, HE0.out, HN0.out, HP0.out, HC0.out, HB0.out, HG0.out, HU0.out, rfl⟩
  case round =>
    obtain ⟨pr, u, N, B, rfl, rfl, heq, hbd, hpm, hC, hB, hG, hU, hk⟩ := hrel
    have HB := hid hB; have HU := hid hU; have HK := hid hk; have HG := hid hG
    clear hB hU hk hG HE0 HN0 HP0 HC0 HB0 HU0 HG0
    cases N with
    | nil =>
      have hv : u = none := hC
      subst hv
      have HE := hid (show pr = T by rw [← heq]; rfl)
      clear hC heq hbd hpm
      go_wp2_with fail
      go_ret
      exact ⟨ret_int HE.out, HU.out⟩
    | cons x N =>
      obtain ⟨p, t⟩ := x
      obtain ⟨b', u', rfl, hBb, hx, hN⟩ := hC
      obtain ⟨p1, p2, p3, p4⟩ := hbd (p, t) (List.mem_cons_self ..)
      have hpq := prm_prq9 (hpm (p, t) (List.mem_cons_self ..)) (by show p ≤ 500; omega)
      have HBD := hid (fun y hy => hbd y (List.mem_cons_of_mem _ hy))
      have HPM := hid (fun y hy => hpm y (List.mem_cons_of_mem _ hy))
      have hx0 : wr.cell? ⟨b', 0, none⟩ = some (.int .i64 ((p : Int))) := hx.cell 0
      have hx1 : wr.cell? ⟨b', 1, none⟩ = some (.int .i64 ((t : Int))) := hx.cell 1
      have hs0 : wr.cell? ⟨w.heap.size, 0, none⟩ = some (.int .i64 a) := HB.out.cell 0
      have hs1 : wr.cell? ⟨w.heap.size, 1, none⟩ = some (.int .i64 b) := HB.out.cell 1
      have hs2 : wr.cell? ⟨w.heap.size, 2, none⟩ = some (.int .i64 c) := HB.out.cell 2
      have hs3 : wr.cell? ⟨w.heap.size, 3, none⟩ = some (.int .i64 d) := HB.out.cell 3
      have hs4 : wr.cell? ⟨w.heap.size, 4, none⟩ = some (Value.func (Fn.func 100) #[] #[]) := HB.out.cell 4
      have HE := hid (show chl v (mu pr (v p t)) N = T by rw [← heq]; rfl)
      have HCN := hid hN
      have HCP := hid (fun W hg => HC.out p t W hg hpq (by omega))
      have hvpt := HV.out p t
      rw [hvpt] at HCP
      generalize v p t = y at HE HCP
      have HX := hid hx
      have HGd := hid (HG.out.next (gr_drew (Below.refl _ _)))
      clear hvpt heq hbd hpm hN hx hpq
      go_upto_region 5 with fail
      go_region_with (first | (go_at_call 100; refine (HCP.out _ (by first | exact HG.out | exact HG.out.next (gr_drew (Below.refl _ _)))).mono ?_; rintro e w5 ⟨rfl, hb5⟩))
      all_goals
        have hb' : Below wr.heap.size wr w5 := by first | exact hb5 | exact gr_trans (gr_drew (Below.refl _ _)) hb5 | (repeat' (first | with_reducible exact Below.refl _ _ | with_reducible assumption | with_reducible refine gr_alloc ?_ _ | with_reducible refine gr_drew ?_ | with_reducible refine gr_drewN ?_ _ | with_reducible refine gr_trans ?_ (by assumption) | with_reducible refine gr_set ?_ ?_ _ | (simp; done) | omega | (simp; omega)))
        have hx2 : w5.cell? ⟨b', 2, none⟩ = some (.pointer u') := (HX.out.next hb').cell 2
        go_wp2_with fail
        go_roundg N.length
        case measure => rw [← HK.out]; simp
        case rel => exact ⟨mu pr y, u', N, B, by first | rfl | exact rfl, rfl, HE.out, HBD.out, HPM.out, HCN.out.next hb', HB.out.next hb', HG.out.next hb', gr_trans HU.out hb', rfl⟩


end Go.Proofs.YtihcmgjfkiaelaaDoor
