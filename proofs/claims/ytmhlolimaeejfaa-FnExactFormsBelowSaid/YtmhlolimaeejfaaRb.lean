/- Chapter 5: quotients of forms of any degree, the program's. -/
import Derived.Test.YtmhlolimaeejfaaRa
namespace Go.Proofs.Ytmhlolimaeejfaa
open Go.RowKit

def ngK (L : List Int) (k : Nat) : List Int := ((L.drop 1).take k).map (fun n => wrap64 (-n))
theorem ngK_s {L : List Int} {n k : Nat} (hL : L.length = n + 1) (h : k < n) : ngK L (k + 1) = ngK L k ++ [wrap64 (-(L.getD (k + 1) 0))] := by
  unfold ngK
  rw [take_succ_getD _ k (by simp; omega)]
  simp [List.getD]
theorem ngK_len {L : List Int} {n k : Nat} (hL : L.length = n + 1) (h : k ≤ n) : (ngK L k).length = k := by
  unfold ngK; simp; omega
theorem ngK_e {L : List Int} {n : Nat} (hL : L.length = n + 1) {x : Int} : ngK L n = dvd L x 0 := by
  unfold ngK dvd; simp; rw [List.take_of_length_le (by simp; omega)]
theorem own_app {w : World} {B : Nat} {t : TypeId} {v : Value} {k : Nat} {M M' : List Int} {z : Int} (hl : M.length = k) (hs : M' = M ++ [z]) (h : w.ownsRow B t 1 v (k + 1) (M.map (Value.int .i64) ++ [.int .i64 z])) : w.ownsRow B t 1 v M'.length (M'.map (Value.int .i64)) := by
  subst hs; simpa [hl] using h
theorem own_len {w : World} {B : Nat} {t : TypeId} {v : Value} {k : Nat} {M : List Int} (hl : M.length = k) (h : w.ownsRow B t 1 v M.length (M.map (Value.int .i64))) : w.ownsRow B t 1 v k (M.map (Value.int .i64)) := by
  subst hl; exact h




end Go.Proofs.Ytmhlolimaeejfaa
