/- Chapter 9: characters of the program. -/
import Derived.Test.YtmhlolimaeejfaaDoorYn
import Derived.Test.YtmhlolimaeejfaaDoorYd
import Derived.Deep.LoopGhost
import Derived.Deep.RegionHeld3
import Derived.Laws.EntriesVeiled
namespace Go.Proofs.YtmhlolimaeejfaaDoor
open Go.RowKit

/-- The value that stands for the character of d. -/
def chV (d : Int) : Value := .agg #[.int .i64 d, Value.func (Fn.func 60) #[] #[]]

set_option maxRecDepth 100000 in
set_option maxHeartbeats 1000000 in
theorem characterOf_any (d : Int) (w : World) : Calls Tryd.prog 47 #[.int .i64 d] w fun e w' => e = .returned (.agg #[.int .i64 d, Value.func (Fn.func 60) #[] #[]]) ∧ Below w.heap.size w w' := by
  go_enter Tryd.func47, Tryd.ntmps47
  go_wp2
  refine bodyPost_ret (v := .agg #[.int .i64 d, Value.func (Fn.func 60) #[] #[]]) ?_ rfl ⟨rfl, by (repeat' (first | with_reducible exact Below.refl _ _ | with_reducible assumption | with_reducible refine gr_alloc ?_ _ | with_reducible refine gr_drew ?_ | with_reducible refine gr_drewN ?_ _ | with_reducible refine gr_trans ?_ (by assumption) | with_reducible refine gr_set ?_ ?_ _ | (simp; done) | omega | (simp; omega)))⟩
  simp [results, Tryd.results47, go_sem]

set_option maxRecDepth 100000 in
set_option maxHeartbeats 1000000 in
theorem atC_any (d : Int) (n : Nat) (L0 : List Nat) (w : World) (h1 : 1 ≤ n) (h6 : n ≤ 1000000) (hL : Pf n L0) :
    Calls Tryd.prog 48 #[.agg #[.int .i64 d, Value.func (Fn.func 60) #[] #[]], .int .i64 ((n : Int))] w fun e w' => e = .returned (.int .i64 (chp (chq d) L0)) ∧ Below w.heap.size w w' := by
  have HC := hid (fun q t a b c e W => iChW_any d q t W a b c e)
  have hS := chq_sgn d
  have HT : Hid (∀ N, Nod n N → chn (chq d) N = chp (chq d) L0) := hid fun N hN => by rw [chn_unf, hN.pf.uniq hL]
  generalize chp (chq d) L0 = T at HT ⊢
  generalize chq d = c at HC hS HT
  have HS := hid hS
  clear hS hL
  have B0 := Bx.new w #[.int .i64 d, Value.func (Fn.func 60) #[] #[]] 69
  have U0 := gr_alloc (Below.refl w.heap.size w) (.cells #[.int .i64 d, Value.func (Fn.func 60) #[] #[]] 69)
  go_enter Tryd.func48, Tryd.ntmps48
  go_wp2_with fail
  refine (numberOf_any n _ h1 h6).mono ?_
  rintro e w1 ⟨v0, N0, rfl, hN0, hC0, hb1⟩
  have HB0 := hid (B0.next hb1)
  have HU0 := hid (gr_trans U0 hb1)
  have HE0 := hid (HT.out N0 hN0)
  have HN0 := hid hN0.bd
  have HC0 := hid hC0
  clear hN0 hC0 B0 U0 HT
  go_wp2_with fail
  go_loopg [5, 6] N0.length (fun k s t wr => ∃ (pr : Int) (v : Option Addr) (N : List (Nat × Nat)) (B : Nat), s = .int .i64 pr ∧ t = .pointer v ∧ Sgn pr ∧ pr * chn c N = T ∧ (∀ x ∈ N, 2 ≤ x.1 ∧ x.1 ≤ n ∧ 1 ≤ x.2 ∧ x.2 ≤ n) ∧ Chn wr B N v ∧ Bx wr w.heap.size #[.int .i64 d, Value.func (Fn.func 60) #[] #[]] 69 ∧ Below w.heap.size w wr ∧ N.length = k)
  case atStart => exact ⟨1, v0, N0, _, rfl, rfl, .inr (.inr rfl), by rw [Int.one_mul]; exact HE0.out, HN0.out, HC0.out, HB0.out, HU0.out, rfl⟩
  case round =>
    obtain ⟨pr, v, N, B, rfl, rfl, hsg, heq, hbd, hC, hB, hU, hk⟩ := hrel
    have HB := hid hB; have HU := hid hU; have HK := hid hk
    obtain ⟨g1, g2⟩ := sgn_bd hsg
    clear hB hU hk HE0 HN0 HC0 HB0 HU0
    cases N with
    | nil =>
      have hv : v = none := hC
      subst hv
      have HE := hid (show pr = T by rw [← heq, chn, Int.mul_one])
      clear hC heq hbd
      go_wp2_with fail
      go_ret
      exact ⟨ret_int HE.out, HU.out⟩
    | cons x N =>
      obtain ⟨p, t⟩ := x
      obtain ⟨b, v', rfl, hBb, hx, hN⟩ := hC
      obtain ⟨p1, p2, p3, p4⟩ := hbd (p, t) (List.mem_cons_self ..)
      have HBD := hid (fun y hy => hbd y (List.mem_cons_of_mem _ hy))
      have hx0 : wr.cell? ⟨b, 0, none⟩ = some (.int .i64 ((p : Int))) := hx.cell 0
      have hx1 : wr.cell? ⟨b, 1, none⟩ = some (.int .i64 ((t : Int))) := hx.cell 1
      have hx2 : wr.cell? ⟨b, 2, none⟩ = some (.pointer v') := hx.cell 2
      have hs0 : wr.cell? ⟨w.heap.size, 0, none⟩ = some (.int .i64 d) := HB.out.cell 0
      have hs1 : wr.cell? ⟨w.heap.size, 1, none⟩ = some (Value.func (Fn.func 60) #[] #[]) := HB.out.cell 1
      have HE := hid (show pr * c p ^ t * chn c N = T by rw [← heq, chn, Int.mul_assoc])
      have hcp : Sgn (c p ^ t) := by
        rw [sgn_pow (HS.out p) t p3]
        split
        · exact sgn_mul (HS.out p) (HS.out p)
        · exact HS.out p
      have hsg2 := sgn_mul hsg hcp
      obtain ⟨g3, g4⟩ := sgn_bd hsg2
      obtain ⟨g5, g6⟩ := sgn_bd hcp
      have HSG := hid hsg2
      have HCN := hid hN
      have HCP := hid (fun W => HC.out p t (by omega) (by omega) (by omega) (by omega) W)
      generalize hcpt : c p ^ t = y at HE g3 g4 g5 g6 HSG HCP
      have HX := hid hx
      have hbl : b < wr.heap.size := hx.lt
      have hwl : w.heap.size < wr.heap.size := HB.out.lt
      clear hcpt hcp hsg2 heq hbd hN hx hsg
      go_wp2_with fail
      go_region_held3 (fun W => W.cell? ⟨b, 0, none⟩ = some (.int .i64 ((p : Int))) ∧ W.cell? ⟨b, 1, none⟩ = some (.int .i64 ((t : Int))) ∧ W.cell? ⟨w.heap.size, 0, none⟩ = some (.int .i64 d) ∧ W.cell? ⟨w.heap.size, 1, none⟩ = some (Value.func (Fn.func 60) #[] #[])) (first | exact ⟨by assumption, by assumption, by assumption, by assumption⟩ | (refine ⟨?_, ?_, ?_, ?_⟩ <;> (refine (Below.cell (by assumption) ?_).trans (by assumption); (first | omega | (simp; omega))))) ((go_at_call 60; refine (HCP.out _).mono ?_; rintro e w2 ⟨rfl, hb2⟩; have hx2' : w2.cell? ⟨b, 2, none⟩ = some (.pointer v') := (Bx.next HX.out (by (repeat' (first | with_reducible exact Below.refl _ _ | with_reducible assumption | with_reducible refine gr_alloc ?_ _ | with_reducible refine gr_drew ?_ | with_reducible refine gr_drewN ?_ _ | with_reducible refine gr_trans ?_ (by assumption) | with_reducible refine gr_set ?_ ?_ _ | (simp; done) | omega | (simp; omega))))).cell 2))
      go_wp2_with fail
      go_roundg N.length
      case measure => rw [← HK.out]; simp
      case rel => exact ⟨pr * y, v', N, B, by rw [IntWalk.i64_in (pr * y) (by omega)], rfl, HSG.out, HE.out, HBD.out, HCN.out.next (by (repeat' (first | with_reducible exact Below.refl _ _ | with_reducible assumption | with_reducible refine gr_alloc ?_ _ | with_reducible refine gr_drew ?_ | with_reducible refine gr_drewN ?_ _ | with_reducible refine gr_trans ?_ (by assumption) | with_reducible refine gr_set ?_ ?_ _ | (simp; done) | omega | (simp; omega)))), HB.out.next (by (repeat' (first | with_reducible exact Below.refl _ _ | with_reducible assumption | with_reducible refine gr_alloc ?_ _ | with_reducible refine gr_drew ?_ | with_reducible refine gr_drewN ?_ _ | with_reducible refine gr_trans ?_ (by assumption) | with_reducible refine gr_set ?_ ?_ _ | (simp; done) | omega | (simp; omega)))), gr_trans HU.out (by (repeat' (first | with_reducible exact Below.refl _ _ | with_reducible assumption | with_reducible refine gr_alloc ?_ _ | with_reducible refine gr_drew ?_ | with_reducible refine gr_drewN ?_ _ | with_reducible refine gr_trans ?_ (by assumption) | with_reducible refine gr_set ?_ ?_ _ | (simp; done) | omega | (simp; omega)))), rfl⟩


end Go.Proofs.YtmhlolimaeejfaaDoor
