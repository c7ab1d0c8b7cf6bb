/- Chapter 5: RootsModulo, CountRoots. -/
import Derived.Test.YtdogkkmdccieiaaDoorRp
import Derived.Test.YtdogkkmdccieiaaDoorRg
namespace Go.Proofs.YtdogkkmdccieiaaDoor
open Go.RowKit

theorem RwX.intro {B : Nat} {w : World} {v : Value} {s : Nat} {R : List (List Int)} {T : List Nat} (h : Rwb B w v s R T) : RwX B w v s R := ⟨T, h⟩
theorem RwX.if0 {B : Nat} {w : World} {v : Value} {s : Nat} {R : List (List Int)} (h : RwX B w v s R) : RwX B w v s (if (0 : Int) = 0 then R else []) := by rw [if_pos rfl]; exact h
theorem owns_keep2 {w w' : World} {o o' : Obj} {B B' : Nat} {t t' : TypeId} {s s' : Nat} {v v' : Value} {n n' : Nat} {xs xs' : List Value} (h : w.ownsRow B t s v n xs) (h' : w.ownsRow B' t' s' v' n' xs') (ht : t ≠ t') (hg : ((w.alloc o).alloc o').grownBy w' v'.ownBlock) : w'.ownsRow B t s v n xs :=
  ((h.alloc o).alloc o').kept hg (owns_apart ((h.alloc o).alloc o') ((h'.alloc o).alloc o') ht)
theorem places_p (a b c d p : Int) (w : World) (h2 : 2 ≤ p) (h97 : p ≤ 499) : Calls Tryd.prog 122 #[.agg #[.int .i64 a, .int .i64 b, .int .i64 c, .int .i64 d], .int .i64 p] w (PlOut (ptm p) w) := by
  have H := hid (fun W => pointsModulo_any p W h2 h97)
  generalize ptm p = P at H ⊢
  have hp : (p == 0) = false := by simp; omega
  have U0 := gr_alloc (Below.refl w.heap.size w) (.cells #[.int .i64 a, .int .i64 b, .int .i64 c, .int .i64 d] 25)
  go_enter Tryd.func122, Tryd.ntmps122
  go_wp2_with fail
  refine (H.out _).mono ?_
  rintro e w1 ⟨v, rfl, hO, hb⟩
  go_wp2_with fail
  go_ret
  exact ⟨v, rfl, owns_mono hO U0.size, gr_trans U0 hb⟩
theorem stp_p {a b c d p : Int} (h2 : 2 ≤ p) (h97 : p ≤ 499) (ha : -1000 ≤ a ∧ a ≤ 1000) (hb : -1000 ≤ b ∧ b ≤ 1000) (hc : -1000 ≤ c ∧ c ≤ 1000) (hd : -1000 ≤ d ∧ d ≤ 1000) (hN : mul0 (cnt a b c d) p = false) : ∀ k, (h : k < (ptm p).length) → stp p (ptm p)[k].1 (ptm p)[k].2 4 [a, b, c, d] = true := by
  intro k h
  obtain ⟨n, rfl⟩ : ∃ n : Nat, p = n := ⟨p.toNat, by omega⟩
  have hl := ptm_len n
  by_cases hk : k < n
  · rw [ptm_k hk h]; exact (mlt_1 ha hb hc hd (by omega) hN).2
  · have e : k = n := by omega
    subst e
    rw [ptm_e h]; exact (mlt_0 ha hb hc hd hN).2
/-- The roots modulo a prime. -/
def rtp (a b c d p : Int) : List (Int × Int × Int) := rts p [a, b, c, d] (ptm p)
theorem rtp_len {a b c d p : Int} (h : p ≤ 499) : (rtp a b c d p).length ≤ 500 := by
  unfold rtp; rw [← rtK_e]; have := rtK_len p [a, b, c, d] (ptm p) (ptm p).length; rw [ptm_len] at *; omega
theorem roe_p (a b c d p : Int) (w : World) (h2 : 2 ≤ p) (h97 : p ≤ 499) (hF : isF a b c d = true) (hN : mul0 (cnt a b c d) p = false) :
    Calls Tryd.prog 111 #[.agg #[.int .i64 a, .int .i64 b, .int .i64 c, .int .i64 d], .int .i64 p] w (RtOk (rtp a b c d p).length ((rtp a b c d p).flatMap tr3) w) := by
  obtain ⟨ha, hb, hc, hd⟩ := isF_t hF
  exact rootsOrError_ok a b c d p (ptm p) w (by omega) h97 ha hb hc hd (fun W => places_p a b c d p W h2 h97) (by rw [ptm_len]; omega) (by rw [ptm_len]; omega) hN (stp_p h2 h97 ha hb hc hd hN)
theorem roe_n (a b c d p : Int) (pv : Value) (w : World) (hg : Sen w pv) (h2 : 2 ≤ p) (h97 : p ≤ 499) (hF : isF a b c d = true) (hN : mul0 (cnt a b c d) p = true) :
    Calls Tryd.prog 111 #[.agg #[.int .i64 a, .int .i64 b, .int .i64 c, .int .i64 d], .int .i64 p] w fun e w' => e = .returned (.tuple #[.slice none 0 0, .iface 154 pv]) ∧ Below w.heap.size w w' := by
  obtain ⟨ha, hb, hc, hd⟩ := isF_t hF
  exact rootsOrError_err a b c d p pv w hg (by omega) h97 ha hb hc hd hN
theorem ne_nilI (w : World) : (binOp .neq 69 .nilIface .nilIface).run Tryd.prog w = .ok (.bool false) w := by kernel_rfl
theorem ne_errI (pv : Value) (w : World) : (binOp .neq 69 (.iface 154 pv) .nilIface).run Tryd.prog w = .ok (.bool true) w := by kernel_rfl
/-- The code of RootsModulo. -/
def rmc (a b c d p : Int) : Int := if fpc a b c d p = 0 then (if mul0 (cnt a b c d) p then 5 else 0) else fpc a b c d p
theorem rmc_n {a b c d p : Int} (h : fpc a b c d p ≠ 0) : rmc a b c d p = fpc a b c d p := by simp [rmc, h]
theorem rmc_5 {a b c d p : Int} (h : fpc a b c d p = 0) (hN : mul0 (cnt a b c d) p = true) : rmc a b c d p = 5 := by simp [rmc, h, hN]
theorem rmc_0 {a b c d p : Int} (h : fpc a b c d p = 0) (hN : mul0 (cnt a b c d) p = false) : rmc a b c d p = 0 := by simp [rmc, h, hN]
theorem rtp_le (a b c d p : Int) : (if rmc a b c d p = 0 then (rtp a b c d p).map rw3 else []).length ≤ 10000000 := by
  split
  · rename_i h
    have h0 : fpc a b c d p = 0 := by
      by_cases h0 : fpc a b c d p = 0
      · exact h0
      · rw [rmc_n h0] at h; exact h
    have := rtp_len (a := a) (b := b) (c := c) (d := d) (prq_rng (prm_prq (fpc_0.1 h0).2)).2
    rw [List.length_map]; omega
  · exact Nat.zero_le _
/-- A list of rows that the call laid, and a code. -/
def RwOutC (s : Nat) (R : List (List Int)) (code : Int) (w : World) (e : Ending) (w' : World) : Prop := ∃ v, e = .returned (.tuple #[v, .int .i64 code]) ∧ RwX w.heap.size w' v s (if code = 0 then R else []) ∧ Below w.heap.size w w'






end Go.Proofs.YtdogkkmdccieiaaDoor
