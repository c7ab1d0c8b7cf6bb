/- Several texts in one: XPl, XDr. -/
import Derived.Test.YtdogkkmdccieiaaDoorZ14
import Derived.Test.YtdogkkmdccieiaaDoorZ4
import Derived.Test.YtdogkkmdccieiaaDoorDet0
import Derived.Test.YtdogkkmdccieiaaDoorZ12
import Derived.Test.YtdogkkmdccieiaaDoorZ15
import Derived.RangeFuncBox

/- Chapter 5: lists of primes, the program's and the model's. -/
namespace Go.Proofs.YtdogkkmdccieiaaDoor
open Go.RowKit

theorem OwnV.of_owns {B : Nat} {w : World} {v : Value} {t : TypeId} {L : List Int} (h : w.ownsRow B t 1 v L.length (L.map (Value.int .i64))) : OwnV B w v L.length (fun i => L.getD i 0) := by
  rcases h.2 with ⟨rfl, hn⟩ | ⟨g, cap, cur, rfl, hb, hg, hnc, hcm, hs, ht⟩
  · exact .inl ⟨rfl, hn⟩
  · refine .inr ⟨g, cap, rfl, hb, (Array.getElem?_eq_some_iff.1 hg).1, hnc, hcm, fun i hi => ⟨?_, by simp [World.frozen?, hg]⟩⟩
    have hx : (L.map (Value.int .i64))[i]? = some (.int .i64 (L.getD i 0)) := by simp [List.getD, hi]
    rw [← ht, List.getElem?_take] at hx
    split at hx
    · simp [World.cell?, hg]
      simpa using hx
    · cases hx
theorem owns_empty (w : World) (B : Nat) (t : TypeId) (s : Nat) (hB : B ≤ w.heap.size) : (w.alloc (.cells #[] t)).ownsRow B t s (.slice (some ⟨w.heap.size, 0, none⟩) 0 0) 0 [] :=
  ⟨by simp, .inr ⟨w.heap.size, 0, #[], rfl, hB, heap_alloc_new w _, Nat.le_refl _, by decide, by simp, by simp⟩⟩
theorem prl_app {w : World} {B : Nat} {t : TypeId} {v : Value} {k : Nat} (hp : prm k = true) (h : w.ownsRow B t 1 v ((prl k).length + 1) ((prl k).map (Value.int .i64) ++ [.int .i64 k])) : w.ownsRow B t 1 v (prl (k + 1)).length ((prl (k + 1)).map (Value.int .i64)) := by
  rw [prl_t hp]; simpa using h



theorem prl_le (n : Int) : (if nco n = 0 then (prl (n.toNat + 1)).length else 0) ≤ 1000 := by
  by_cases hr : rng 2 97 n = true
  · have h := rng_t hr
    have := prl_len (n.toNat + 1)
    split <;> omega
  · simp [nco, hr]

/-- A list that the call laid. -/
def LstV (len : Nat) (g : Nat → Int) (w : World) (e : Ending) (w' : World) : Prop := ∃ v, e = .returned v ∧ OwnV w.heap.size w' v len g ∧ Below w.heap.size w w'






end Go.Proofs.YtdogkkmdccieiaaDoor

/- The door of roots. -/
namespace Go.Proofs.YtdogkkmdccieiaaDoor
open Go.RowKit

/-- What a function has laid that returns a row of roots. -/
def RtOut (n : Nat) (xs : List Value) (w : World) (e : Ending) (w' : World) : Prop := ∃ v, e = .returned v ∧ w'.ownsRow w.heap.size 134 3 v n xs ∧ Below w.heap.size w w'
/-- .. and with a nil error. -/
def RtOk (n : Nat) (xs : List Value) (w : World) (e : Ending) (w' : World) : Prop := ∃ v, e = .returned (.tuple #[v, .nilIface]) ∧ w'.ownsRow w.heap.size 134 3 v n xs ∧ Below w.heap.size w w'
theorem owns_set {w : World} {B : Nat} {t : TypeId} {s : Nat} {v : Value} {n : Nat} {xs : List Value} (h : w.ownsRow B t s v n xs) {p : Nat} (hp : p < B) (u : Value) : (w.setCell ⟨p, 0, none⟩ u).ownsRow B t s v n xs :=
  h.kept (row := some p) (grownBy_setCell' w p u) (by
    cases hv : v.ownBlock with
    | none => exact .inl rfl
    | some g => have := (h.lt g hv).1; exact .inr (by simp; omega))
theorem owns_mono {w : World} {B B' : Nat} {t : TypeId} {s : Nat} {v : Value} {n : Nat} {xs : List Value} (h : w.ownsRow B t s v n xs) (hB : B' ≤ B) : w.ownsRow B' t s v n xs := by
  refine ⟨h.1, ?_⟩
  rcases h.2 with h | ⟨g, cap, cur, h1, h2, h3⟩
  · exact .inl h
  · exact .inr ⟨g, cap, cur, h1, by omega, h3⟩

set_option maxRecDepth 100000 in
set_option maxHeartbeats 1000000 in
theorem orErrR_ok (a b : Addr) (n : Nat) (xs : List Value) (w : World) (hC : Calls Tryd.prog 118 #[.pointer (some a), .pointer (some b)] (w.alloc (.cells #[.nilIface] 69)) (RtOut n xs (w.alloc (.cells #[.nilIface] 69)))) :
    Calls Tryd.prog 117 #[.func (.func 118) #[] #[.pointer (some a), .pointer (some b)]] w (RtOk n xs w) := by
  have hmf : ∀ (fn : Fn) (first cap : Array Value) (w : World), (Instr.makeFunc fn first cap).run Tryd.prog w = .ok (.func fn first cap) w := fun _ _ _ _ => rfl
  have H := hid hC
  clear hC
  have E0 := Bx.new w #[.nilIface] 69
  go_enter_defers Tryd.func117, Tryd.ntmps117
  go_wp2_with fail
  refine H.out.mono ?_
  rintro e w1 ⟨v, rfl, hO, hb⟩
  have E1 := E0.next hb
  have e0 := E1.cell 0
  have f0 := E1.frozen 0
  go_wp2_with fail
  refine leaves_cons (f := 120) (args := #[.pointer (some ⟨w.heap.size, 0, none⟩)]) (by simp) (by simp [go_sem]) ?_
  refine (catchR_idle ⟨w.heap.size, 0, none⟩ _).mono ?_
  rintro e u' w2 ⟨rfl, rfl, rfl⟩
  have hc : (w1.setCell ⟨w.heap.size, 0, none⟩ .nilIface).cell? ⟨w.heap.size, 0, none⟩ = some .nilIface := World.cell?_setCell_same' _ _ _ (by rw [e0]; rfl)
  simp only [World.size_alloc] at hO
  refine ⟨.tuple #[v, .nilIface], by simp [results, Tryd.results117, go_sem, hc], v, rfl, owns_mono (owns_set hO (by omega) _) (by omega), ?_⟩
  exact gr_set (gr_trans (gr_alloc (Below.refl w.heap.size w) _) hb) (Nat.le_refl _) _

/-- A panic with an error. -/
def PanOut (pv : Value) (w : World) (e : Ending) (w' : World) : Prop := e = .panicked [{ v := .iface 154 pv, recovered := false }] ∧ Below w.heap.size w w'

set_option maxRecDepth 100000 in
set_option maxHeartbeats 1000000 in
theorem orErrR_err (a b : Addr) (pv : Value) (w : World) (hC : Calls Tryd.prog 118 #[.pointer (some a), .pointer (some b)] (w.alloc (.cells #[.nilIface] 69)) (PanOut pv (w.alloc (.cells #[.nilIface] 69)))) :
    Calls Tryd.prog 117 #[.func (.func 118) #[] #[.pointer (some a), .pointer (some b)]] w fun e w' => e = .returned (.tuple #[.slice none 0 0, .iface 154 pv]) ∧ Below w.heap.size w w' := by
  have hmf : ∀ (fn : Fn) (first cap : Array Value) (w : World), (Instr.makeFunc fn first cap).run Tryd.prog w = .ok (.func fn first cap) w := fun _ _ _ _ => rfl
  have H := hid hC
  clear hC
  have E0 := Bx.new w #[.nilIface] 69
  go_enter_defers Tryd.func117, Tryd.ntmps117
  go_wp2_with fail
  refine H.out.mono ?_
  rintro e w1 ⟨rfl, hb⟩
  have E1 := E0.next hb
  have e0 := E1.cell 0
  have f0 := E1.frozen 0
  refine leaves_cons (f := 120) (args := #[.pointer (some ⟨w.heap.size, 0, none⟩)]) (by simp) (by simp [go_sem]) ?_
  refine (catchR_panic ⟨w.heap.size, 0, none⟩ .nilIface pv [] _ (by rw [e0]; rfl) f0).mono ?_
  rintro e u' w2 ⟨rfl, rfl, rfl⟩
  have hc : (w1.setCell ⟨w.heap.size, 0, none⟩ (.iface 154 pv)).cell? ⟨w.heap.size, 0, none⟩ = some (.iface 154 pv) := World.cell?_setCell_same' _ _ _ (by rw [e0]; rfl)
  refine ⟨.tuple #[.slice none 0 0, .iface 154 pv], by simp [results, Tryd.results117, go_sem, hc], rfl, ?_⟩
  exact gr_set (gr_trans (gr_alloc (Below.refl w.heap.size w) _) hb) (Nat.le_refl _) _


end Go.Proofs.YtdogkkmdccieiaaDoor
