/- Several texts in one: XRn, XRo, XRp, XRq, XRs, XNum, XRt, XRu, XMath2, XKi, XPr0. -/
import Derived.Test.YtgdbnaabbaimjaaDoorRm
import Derived.Test.YtgdbnaabbaimjaaDoorCh
import Derived.Test.YtgdbnaabbaimjaaDoorKB
import Derived.Test.YtgdbnaabbaimjaaDoorDr
import Derived.Test.YtgdbnaabbaimjaaDoorRg
import Derived.Test.YtgdbnaabbaimjaaDoorBase
import Derived.Deep.Light
import Derived.Test.YtgdbnaabbaimjaaDoorC1v
import Derived.Test.YtgdbnaabbaimjaaDoorC1p
import Derived.Test.YtgdbnaabbaimjaaDoorQ3
import Derived.Test.YtgdbnaabbaimjaaDoorH
import Derived.Test.YtgdbnaabbaimjaaDoorC1d

/- Chapter 5: the model's multiplicities and zeros. -/
namespace Go.Proofs.YtgdbnaabbaimjaaDoor
open Go.RowKit

theorem tm0 (n p : Int) : (n.tmod p == 0) = decide (p ∣ n) := by
  rw [Bool.eq_iff_iff]; simp [Int.dvd_iff_tmod_eq_zero]
theorem and4 (a b c d : Prop) [Decidable a] [Decidable b] [Decidable c] [Decidable d] : (decide a && decide b && decide c && decide d) = decide (a ∧ b ∧ c ∧ d) := by
  rw [Bool.eq_iff_iff]; simp [and_assoc]



theorem mmF3 {p u v t : Int} (h : (t.tmod p == 0) = false) : mm3 p u v t = 0 := by
  rw [tm0] at h; simp at h; simp [mm3, h]
theorem mmF2 {p u v t : Int} (h3 : (t.tmod p == 0) = true) (h : (v.tmod p == 0) = false) : mm3 p u v t = 1 := by
  rw [tm0] at h h3; simp at h h3; simp [mm3, h, h3]
theorem mmF1 {p u v t : Int} (h3 : (t.tmod p == 0) = true) (h2 : (v.tmod p == 0) = true) (h : (u.tmod p == 0) = false) : mm3 p u v t = 2 := by
  rw [tm0] at h h2 h3; simp at h h2 h3; simp [mm3, h, h2, h3]
theorem mmF0 {p u v t : Int} (h3 : (t.tmod p == 0) = true) (h2 : (v.tmod p == 0) = true) (h : (u.tmod p == 0) = true) : mm3 p u v t = 3 := by
  rw [tm0] at h h2 h3; simp at h h2 h3; simp [mm3, h, h2, h3]
/-- The changed form at a point. -/
theorem chg1 {a b c d x : Int} (ha : -1000 ≤ a ∧ a ≤ 1000) (hb : -1000 ≤ b ∧ b ≤ 1000) (hc : -1000 ≤ c ∧ c ≤ 1000) (hd : -1000 ≤ d ∧ d ≤ 1000) (hx : -96 ≤ x ∧ x ≤ 96) :
    wrap64 (cB a b c d 1 x 0 1) = g1 a b x ∧ wrap64 (cC a b c d 1 x 0 1) = g2 a b c x ∧ wrap64 (cA a b c d x 1) = g3 a b c d x := by
  obtain ⟨_, h1, h2, h3⟩ := ch_wr (p := 1) (q := x) (r := 0) (s := 1) ha hb hc hd (by omega) (by omega) (by omega) (by omega)
  refine ⟨?_, ?_, ?_⟩
  · rw [h1]; unfold cB g1; grind
  · rw [h2]; unfold cC g2; grind
  · rw [h3]; unfold cA g3 vx; grind
theorem chg0 {a b c d : Int} (ha : -1000 ≤ a ∧ a ≤ 1000) (hb : -1000 ≤ b ∧ b ≤ 1000) (hc : -1000 ≤ c ∧ c ≤ 1000) (hd : -1000 ≤ d ∧ d ≤ 1000) :
    wrap64 (cB a b c d 0 1 1 0) = c ∧ wrap64 (cC a b c d 0 1 1 0) = b ∧ wrap64 (cA a b c d 1 0) = a := by
  obtain ⟨_, h1, h2, h3⟩ := ch_wr (p := 0) (q := 1) (r := 1) (s := 0) ha hb hc hd (by omega) (by omega) (by omega) (by omega)
  refine ⟨?_, ?_, ?_⟩
  · rw [h1]; unfold cB; grind
  · rw [h2]; unfold cC; grind
  · rw [h3]; unfold cA vx; grind




end Go.Proofs.YtgdbnaabbaimjaaDoor

/- Chapter 5: the model's roots modulo a prime. -/
namespace Go.Proofs.YtgdbnaabbaimjaaDoor
open Go.RowKit




/-- The cells of a row of integers. -/
def cI (r : List Int) : Array Value := (r.map (Value.int .i64)).toArray
/-- A list of rows in the making: R's rows, each in a block of its own (T's), all laid from B on. -/
structure Rwb (B : Nat) (w : World) (v : Value) (s : Nat) (R : List (List Int)) (T : List Nat) : Prop where
  own : w.ownsRow B 41 1 v R.length (T.map fun t => Value.slice (some ⟨t, 0, none⟩) s s)
  len : T.length = R.length
  row : ∀ i, i < R.length → Bx w (T.getD i 0) (cI (R.getD i [])) 2
  bas : ∀ t ∈ T, B ≤ t ∧ t < w.heap.size
  srt : T.Pairwise (· < ·)
  wid : ∀ r ∈ R, r.length = s
def RwX (B : Nat) (w : World) (v : Value) (s : Nat) (R : List (List Int)) : Prop := ∃ T, Rwb B w v s R T
theorem RwX.nil (B : Nat) (w : World) (s : Nat) : RwX B w (.slice none 0 0) s [] := ⟨[], World.ownsRow_nil _ _ _ _, rfl, fun i hi => by simp at hi, fun t ht => by simp at ht, List.Pairwise.nil, fun r hr => by simp at hr⟩
theorem RwX.empty (B : Nat) (w : World) (s : Nat) (hB : B ≤ w.heap.size) : RwX B (w.alloc (.cells #[] 41)) (.slice (some ⟨w.heap.size, 0, none⟩) 0 0) s [] := ⟨[], owns_empty w B _ 1 hB, rfl, fun i hi => by simp at hi, fun t ht => by simp at ht, List.Pairwise.nil, fun r hr => by simp at hr⟩
theorem Rwb.next {B : Nat} {w w' : World} {v : Value} {s : Nat} {R : List (List Int)} {T : List Nat} (h : Rwb B w v s R T) (hb : Below w.heap.size w w') : Rwb B w' v s R T :=
  ⟨owns_next h.own hb, h.len, fun i hi => (h.row i hi).next hb, fun t ht => ⟨(h.bas t ht).1, Nat.lt_of_lt_of_le (h.bas t ht).2 hb.size⟩, h.srt, h.wid⟩
theorem RwX.next {B : Nat} {w w' : World} {v : Value} {s : Nat} {R : List (List Int)} (h : RwX B w v s R) (hb : Below w.heap.size w w') : RwX B w' v s R := h.elim fun T h => ⟨T, h.next hb⟩
theorem RwX.base {B B' : Nat} {w : World} {v : Value} {s : Nat} {R : List (List Int)} (h : RwX B w v s R) (hB : B' ≤ B) : RwX B' w v s R := h.elim fun T h => ⟨T, owns_mono h.own hB, h.len, h.row, fun t ht => ⟨by have := (h.bas t ht).1; omega, (h.bas t ht).2⟩, h.srt, h.wid⟩
theorem Rwb.app {B : Nat} {w w' : World} {v v' : Value} {s : Nat} {R : List (List Int)} {T : List Nat} (h : Rwb B w v s R T) {r : List Int} (hr : r.length = s) (hB : B ≤ w.heap.size) {o : Obj}
    (hg : ((w.alloc (.cells (cI r) 2)).alloc o).grownBy w' v.ownBlock) (hO : w'.ownsRow B 41 1 v' (R.length + 1) ((T.map fun t => Value.slice (some ⟨t, 0, none⟩) s s) ++ [.slice (some ⟨w.heap.size, 0, none⟩) s s])) : Rwb B w' v' s (R ++ [r]) (T ++ [w.heap.size]) := by
  have ho : ∀ W, W = (w.alloc (.cells (cI r) 2)).alloc o → W.ownsRow B 41 1 v R.length (T.map fun t => Value.slice (some ⟨t, 0, none⟩) s s) := fun W e => by subst e; exact (h.own.alloc _).alloc _
  have keep : ∀ {k : Nat} {xs : Array Value}, Bx ((w.alloc (.cells (cI r) 2)).alloc o) k xs 2 → Bx w' k xs 2 := fun hb => hb.grown hg (hb.own (ho _ rfl) (by decide))
  have hsz := hg.size
  simp only [World.size_alloc] at hsz
  refine ⟨by simpa using hO, by simp [h.len], fun i hi => ?_, fun t ht => ?_, ?_, fun x hx => ?_⟩
  · rw [List.length_append, List.length_singleton] at hi
    by_cases e : i < R.length
    · have := keep (((h.row i e).alloc _).alloc o)
      rw [show (T ++ [w.heap.size]).getD i 0 = T.getD i 0 by simp [List.getD, List.getElem?_append_left (show i < T.length by rw [h.len]; exact e)], show (R ++ [r]).getD i [] = R.getD i [] by simp [List.getD, List.getElem?_append_left e]]
      exact this
    · have e' : i = R.length := by omega
      subst e'
      have := keep ((Bx.new w (cI r) 2).alloc o)
      rw [show (T ++ [w.heap.size]).getD R.length 0 = w.heap.size by rw [← h.len]; simp [List.getD], show (R ++ [r]).getD R.length [] = r by simp [List.getD]]
      exact this
  · rcases List.mem_append.1 ht with ht | ht
    · have := h.bas t ht; omega
    · simp at ht; subst ht; omega
  · rw [List.pairwise_append]
    exact ⟨h.srt, by simp, fun a ha b hb => by simp at hb; subst hb; exact (h.bas a ha).2⟩
  · rcases List.mem_append.1 hx with hx | hx
    · exact h.wid x hx
    · simp at hx; subst hx; exact hr
theorem cI_get (r : List Int) (j : Nat) (h : j < r.length) : (cI r)[j]? = some (.int .i64 (r.getD j 0)) := by simp [cI, List.getD, h]
theorem getD_mem {α : Type} (L : List α) (i : Nat) (d : α) (h : i < L.length) : L.getD i d ∈ L := by simp [List.getD, h]
theorem RwX.toC {B : Nat} {w : World} {v : Value} {s : Nat} {R : List (List Int)} (h : RwX B w v s R) : ∃ T, RowsC B w.heap.size w v s R.length (fun i j => (R.getD i []).getD j 0) T := by
  obtain ⟨T, h⟩ := h
  refine ⟨fun i => T.getD i 0, ?_⟩
  obtain ⟨a, cap, rfl, hcm, hnc, hcell⟩ := owns_form h.own
  refine ⟨a, cap, rfl, hnc, hcm, Nat.le_refl _, fun hn => ?_, fun i hi => ?_, fun i j hij hj => ?_⟩
  · obtain ⟨g, rfl, hg, hc⟩ := hcell hn
    refine ⟨g, rfl, (h.own.lt g rfl).1, hg, fun i hi => ⟨hc i _ ?_, ?_⟩⟩
    · have hi' : i < T.length := by rw [h.len]; exact hi
      simp [List.getD, hi']
    · exact fun e => (h.row i hi).own h.own (by decide) g rfl e.symm
  · have hb := h.bas _ (getD_mem T i 0 (by rw [h.len]; exact hi))
    have hw := h.wid _ (getD_mem R i [] hi)
    have hr := h.row i hi
    refine ⟨hb.1, hb.2, hb.2, fun j hj => ⟨?_, hr.frozen j⟩⟩
    rw [hr.cell]
    exact cI_get _ _ (by omega)
  · have hj' : j < T.length := by rw [h.len]; exact hj
    have := List.pairwise_iff_getElem.1 h.srt i j (by omega) hj' hij
    simpa [List.getD, hj', show i < T.length by omega] using this


end Go.Proofs.YtgdbnaabbaimjaaDoor

/- Chapter 5: the model's list of roots modulo a prime. -/
namespace Go.Proofs.YtgdbnaabbaimjaaDoor
open Go.RowKit

theorem info_sl5 : (Tryd.prog.info? 41).map (fun i => (i.zero, i.size, i.bytes)) = some (some (.slice none 0 0), 1, 24) := by kernel_rfl
def rw3 (r : Int × Int × Int) : List Int := [r.1, r.2.1, r.2.2]
theorem ptm_k {n k : Nat} (h : k < n) (h' : k < (ptm (n : Int)).length) : (ptm (n : Int))[k] = ((k : Int), 1) := by
  simp [ptm, ptl, h]
theorem ptm_e {n : Nat} (h' : n < (ptm (n : Int)).length) : (ptm (n : Int))[n] = (1, 0) := by
  simp [ptm, ptl]
/-- The root at a point: none, or one of a multiplicity greater than 0. -/
theorem rt_or (m : Int) (L : List Int) (x y : Int) {M : Nat} (hM : mlt m x y 4 L = M) : ((M : Int) = 0 ∧ rt1 m L (x, y) = []) ∨ (0 < (M : Int) ∧ rt1 m L (x, y) = [(x, y, (M : Int))]) := by
  rcases Nat.eq_zero_or_pos M with h | h
  · subst h; exact .inl ⟨rfl, by simp [rt1, hM]⟩
  · exact .inr ⟨by omega, by simp [rt1, hM, show ¬ M = 0 by omega]⟩
theorem map_app {R R' : List (Int × Int × Int)} {r : List (Int × Int × Int)} (h : R' = R ++ r) : R'.map rw3 = R.map rw3 ++ r.map rw3 := by rw [h, List.map_append]
/-- A list of rows that the call laid. -/
def RwOut (s : Nat) (R : List (List Int)) (w : World) (e : Ending) (w' : World) : Prop := ∃ v, e = .returned v ∧ RwX w.heap.size w' v s R ∧ Below w.heap.size w w'




end Go.Proofs.YtgdbnaabbaimjaaDoor

/- Chapter 5: RootsModulo, CountRoots. -/
namespace Go.Proofs.YtgdbnaabbaimjaaDoor
open Go.RowKit

theorem RwX.intro {B : Nat} {w : World} {v : Value} {s : Nat} {R : List (List Int)} {T : List Nat} (h : Rwb B w v s R T) : RwX B w v s R := ⟨T, h⟩
theorem RwX.if0 {B : Nat} {w : World} {v : Value} {s : Nat} {R : List (List Int)} (h : RwX B w v s R) : RwX B w v s (if (0 : Int) = 0 then R else []) := by rw [if_pos rfl]; exact h
theorem owns_keep2 {w w' : World} {o o' : Obj} {B B' : Nat} {t t' : TypeId} {s s' : Nat} {v v' : Value} {n n' : Nat} {xs xs' : List Value} (h : w.ownsRow B t s v n xs) (h' : w.ownsRow B' t' s' v' n' xs') (ht : t ≠ t') (hg : ((w.alloc o).alloc o').grownBy w' v'.ownBlock) : w'.ownsRow B t s v n xs :=
  ((h.alloc o).alloc o').kept hg (owns_apart ((h.alloc o).alloc o') ((h'.alloc o).alloc o') ht)
theorem places_p (a b c d p : Int) (w : World) (h2 : 2 ≤ p) (h97 : p ≤ 97) : Calls Tryd.prog 95 #[.agg #[.int .i64 a, .int .i64 b, .int .i64 c, .int .i64 d], .int .i64 p] w (PlOut (ptm p) w) := by
  have H := hid (fun W => pointsModulo_any p W h2 h97)
  generalize ptm p = P at H ⊢
  have hp : (p == 0) = false := by simp; omega
  have U0 := gr_alloc (Below.refl w.heap.size w) (.cells #[.int .i64 a, .int .i64 b, .int .i64 c, .int .i64 d] 23)
  go_enter Tryd.func95, Tryd.ntmps95
  go_wp2_with fail
  refine (H.out _).mono ?_
  rintro e w1 ⟨v, rfl, hO, hb⟩
  go_wp2_with fail
  go_ret
  exact ⟨v, rfl, owns_mono hO U0.size, gr_trans U0 hb⟩
theorem stp_p {a b c d p : Int} (h2 : 2 ≤ p) (h97 : p ≤ 97) (ha : -1000 ≤ a ∧ a ≤ 1000) (hb : -1000 ≤ b ∧ b ≤ 1000) (hc : -1000 ≤ c ∧ c ≤ 1000) (hd : -1000 ≤ d ∧ d ≤ 1000) (hN : mul0 (cnt a b c d) p = false) : ∀ k, (h : k < (ptm p).length) → stp p (ptm p)[k].1 (ptm p)[k].2 4 [a, b, c, d] = true := by
  intro k h
  obtain ⟨n, rfl⟩ : ∃ n : Nat, p = n := ⟨p.toNat, by omega⟩
  have hl := ptm_len n
  by_cases hk : k < n
  · rw [ptm_k hk h]; exact (mlt_1 ha hb hc hd (by omega) hN).2
  · have e : k = n := by omega
    subst e
    rw [ptm_e h]; exact (mlt_0 ha hb hc hd hN).2
/-- The roots modulo a prime. -/
def rtp (a b c d p : Int) : List (Int × Int × Int) := rts p [a, b, c, d] (ptm p)
theorem rtp_len {a b c d p : Int} (h : p ≤ 97) : (rtp a b c d p).length ≤ 98 := by
  unfold rtp; rw [← rtK_e]; have := rtK_len p [a, b, c, d] (ptm p) (ptm p).length; rw [ptm_len] at *; omega
theorem roe_p (a b c d p : Int) (w : World) (h2 : 2 ≤ p) (h97 : p ≤ 97) (hF : isF a b c d = true) (hN : mul0 (cnt a b c d) p = false) :
    Calls Tryd.prog 65 #[.agg #[.int .i64 a, .int .i64 b, .int .i64 c, .int .i64 d], .int .i64 p] w (RtOk (rtp a b c d p).length ((rtp a b c d p).flatMap tr3) w) := by
  obtain ⟨ha, hb, hc, hd⟩ := isF_t hF
  exact rootsOrError_ok a b c d p (ptm p) w (by omega) h97 ha hb hc hd (fun W => places_p a b c d p W h2 h97) (by rw [ptm_len]; omega) (by rw [ptm_len]; omega) hN (stp_p h2 h97 ha hb hc hd hN)
theorem roe_n (a b c d p : Int) (pv : Value) (w : World) (hg : Sen w pv) (h2 : 2 ≤ p) (h97 : p ≤ 97) (hF : isF a b c d = true) (hN : mul0 (cnt a b c d) p = true) :
    Calls Tryd.prog 65 #[.agg #[.int .i64 a, .int .i64 b, .int .i64 c, .int .i64 d], .int .i64 p] w fun e w' => e = .returned (.tuple #[.slice none 0 0, .iface 132 pv]) ∧ Below w.heap.size w w' := by
  obtain ⟨ha, hb, hc, hd⟩ := isF_t hF
  exact rootsOrError_err a b c d p pv w hg (by omega) h97 ha hb hc hd hN
theorem ne_nilI (w : World) : (binOp .neq 73 .nilIface .nilIface).run Tryd.prog w = .ok (.bool false) w := by kernel_rfl
theorem ne_errI (pv : Value) (w : World) : (binOp .neq 73 (.iface 132 pv) .nilIface).run Tryd.prog w = .ok (.bool true) w := by kernel_rfl
/-- The code of RootsModulo. -/
def rmc (a b c d p : Int) : Int := if fpc a b c d p = 0 then (if mul0 (cnt a b c d) p then 5 else 0) else fpc a b c d p
theorem rmc_n {a b c d p : Int} (h : fpc a b c d p ≠ 0) : rmc a b c d p = fpc a b c d p := by simp [rmc, h]
theorem rmc_5 {a b c d p : Int} (h : fpc a b c d p = 0) (hN : mul0 (cnt a b c d) p = true) : rmc a b c d p = 5 := by simp [rmc, h, hN]
theorem rmc_0 {a b c d p : Int} (h : fpc a b c d p = 0) (hN : mul0 (cnt a b c d) p = false) : rmc a b c d p = 0 := by simp [rmc, h, hN]
theorem rtp_le (a b c d p : Int) : (if rmc a b c d p = 0 then (rtp a b c d p).map rw3 else []).length ≤ 10000000 := by
  split
  · rename_i h
    have h0 : fpc a b c d p = 0 := by
      by_cases h0 : fpc a b c d p = 0
      · exact h0
      · rw [rmc_n h0] at h; exact h
    have := rtp_len (a := a) (b := b) (c := c) (d := d) (prm_rng (fpc_0.1 h0).2).2
    rw [List.length_map]; omega
  · exact Nat.zero_le _
/-- A list of rows that the call laid, and a code. -/
def RwOutC (s : Nat) (R : List (List Int)) (code : Int) (w : World) (e : Ending) (w' : World) : Prop := ∃ v, e = .returned (.tuple #[v, .int .i64 code]) ∧ RwX w.heap.size w' v s (if code = 0 then R else []) ∧ Below w.heap.size w w'






end Go.Proofs.YtgdbnaabbaimjaaDoor

/- Chapter 5: kinds, both sides' the same: there are no two roots of a multiplicity greater than 1. Mathematics; no Go function in sight. -/
namespace Go.Proofs.YtgdbnaabbaimjaaDoor
open Go.RowKit

theorem prm_dvd_mul {p x y : Int} (hp : prm p = true) (h : p ∣ x * y) : p ∣ x ∨ p ∣ y := by
  obtain ⟨h2, h97⟩ := prm_rng hp
  by_cases hx : p ∣ x
  · exact .inl hx
  · right
    have hg : Int.gcd p x = 1 := by
      have hd : ((Int.gcd p x : Nat) : Int) ∣ p := Int.gcd_dvd_left ..
      have hdx : ((Int.gcd p x : Nat) : Int) ∣ x := Int.gcd_dvd_right ..
      by_cases h1 : Int.gcd p x = 1
      · exact h1
      · exfalso
        have hpos : 0 < Int.gcd p x := Int.gcd_pos_of_ne_zero_left _ (by omega)
        have hle := Int.le_of_dvd (by omega) hd
        by_cases he : ((Int.gcd p x : Nat) : Int) = p
        · rw [he] at hdx; exact hx hdx
        · exact prm_div hp (Int.gcd p x) (by omega) (by omega) (Int.emod_eq_zero_of_dvd hd)
    have hc : Nat.Coprime p.natAbs x.natAbs := hg
    have hn : p.natAbs ∣ x.natAbs * y.natAbs := by rw [← Int.natAbs_mul]; exact Int.natAbs_dvd_natAbs.2 h
    exact Int.natAbs_dvd_natAbs.1 (hc.dvd_of_dvd_mul_left hn)
theorem mm3_2 {p u v t : Int} (h : 2 ≤ mm3 p u v t) : p ∣ t ∧ p ∣ v := by
  unfold mm3 at h
  by_cases h1 : p ∣ t
  · by_cases h2 : p ∣ v
    · exact ⟨h1, h2⟩
    · simp [h1, h2] at h
  · simp [h1] at h
theorem mm3_le (p u v t : Int) : mm3 p u v t ≤ 3 := by
  unfold mm3
  split
  · omega
  · split
    · omega
    · split <;> omega
/-- Two double roots, at x and x + h: all numbers are multiples. -/
theorem two_fin {p a b c d x h : Int} (hp : prm p = true) (hh : ¬ p ∣ h) (t1 : p ∣ g3 a b c d x) (v1 : p ∣ g2 a b c x) (t2 : p ∣ g3 a b c d (x + h)) (v2 : p ∣ g2 a b c (x + h)) : p ∣ a ∧ p ∣ b ∧ p ∣ c ∧ p ∣ d := by
  have e1 : g3 a b c d (x + h) - (g3 a b c d x + h * g2 a b c x) = h * (h * (g1 a b x + a * h)) := by unfold g3 g2 g1; grind
  have e2 : g2 a b c (x + h) - g2 a b c x = h * (2 * g1 a b x + 3 * (a * h)) := by unfold g2 g1; grind
  have d1 : p ∣ h * (h * (g1 a b x + a * h)) := by rw [← e1]; exact Int.dvd_sub t2 (Int.dvd_add t1 (Int.dvd_mul_of_dvd_right v1))
  have d2 : p ∣ h * (2 * g1 a b x + 3 * (a * h)) := by rw [← e2]; exact Int.dvd_sub v2 v1
  have q1 : p ∣ g1 a b x + a * h := by
    rcases prm_dvd_mul hp d1 with q | q
    · exact absurd q hh
    · rcases prm_dvd_mul hp q with q | q
      · exact absurd q hh
      · exact q
  have q2 : p ∣ 2 * g1 a b x + 3 * (a * h) := (prm_dvd_mul hp d2).resolve_left hh
  have q3 : p ∣ a * h := by
    have e : a * h = (2 * g1 a b x + 3 * (a * h)) - 2 * (g1 a b x + a * h) := by grind
    rw [e]; exact Int.dvd_sub q2 (Int.dvd_mul_of_dvd_right q1)
  have qa : p ∣ a := (prm_dvd_mul hp q3).resolve_right hh
  have q4 : p ∣ g1 a b x := by
    have e : g1 a b x = (g1 a b x + a * h) - a * h := by grind
    rw [e]; exact Int.dvd_sub q1 q3
  exact g_null t1 v1 q4 qa
theorem two_inf {p a b c d x : Int} (ta : p ∣ a) (vb : p ∣ b) (t : p ∣ g3 a b c d x) (v : p ∣ g2 a b c x) : p ∣ a ∧ p ∣ b ∧ p ∣ c ∧ p ∣ d :=
  g_null t v (by unfold g1; exact Int.dvd_add (Int.dvd_mul_of_dvd_left (Int.dvd_mul_of_dvd_right ta)) vb) ta
theorem nd_lt {p k j : Nat} (hj : j < p) (hkj : k < j) : ¬ (p : Int) ∣ ((j : Int) - k) := fun h => by
  have := Int.le_of_dvd (by omega) h; omega
/-- The list of roots: multiplicities of at most 3; no two greater than 1. -/
theorem rtp_pw {a b c d p : Int} (hF : isF a b c d = true) (hp : prm p = true) (hN : mul0 (cnt a b c d) p = false) : (rtp a b c d p).Pairwise fun r r' => ¬ (1 < r.2.2 ∧ 1 < r'.2.2) := by
  obtain ⟨ha, hb, hc, hd⟩ := isF_t hF
  obtain ⟨h2, h97⟩ := prm_rng hp
  have hN' : ¬ (p ∣ a ∧ p ∣ b ∧ p ∣ c ∧ p ∣ d) := fun h => by
    rw [mul0_d] at hN; exact absurd (cnt_dvd.2 h) (by simpa using hN)
  have hr1 : ∀ (q : Int × Int) (r : Int × Int × Int), r ∈ rt1 p [a, b, c, d] q → 1 < r.2.2 → 2 ≤ mlt p q.1 q.2 4 [a, b, c, d] := by
    intro q r hr h1
    unfold rt1 at hr
    split at hr
    · simp at hr
    · simp at hr; subst hr; simp only at h1; omega
  unfold rtp rts
  rw [List.pairwise_flatMap]
  refine ⟨fun q _ => ?_, ?_⟩
  · unfold rt1; split <;> simp
  · rw [List.pairwise_iff_getElem]
    intro i j hi hj hij r hr r' hr' ⟨h1, h1'⟩
    have m1 := hr1 _ _ hr h1
    have m2 := hr1 _ _ hr' h1'
    obtain ⟨n, rfl⟩ : ∃ n : Nat, p = n := ⟨p.toNat, by omega⟩
    have hl := ptm_len n
    have hin : i < n := by omega
    rw [ptm_k hin hi] at m1
    simp only at m1
    rw [(mlt_1 ha hb hc hd (by omega) hN).1] at m1
    have q1 := mm3_2 (show 2 ≤ mm3 n (g1 a b i) (g2 a b c i) (g3 a b c d i) by simpa [mmu] using m1)
    by_cases hjn : j < n
    · rw [ptm_k hjn hj] at m2
      simp only at m2
      rw [(mlt_1 ha hb hc hd (by omega) hN).1] at m2
      have q2 := mm3_2 (show 2 ≤ mm3 n (g1 a b j) (g2 a b c j) (g3 a b c d j) by simpa [mmu] using m2)
      have e : (j : Int) = i + (j - i) := by omega
      rw [e] at q2
      exact hN' (two_fin hp (nd_lt hjn hij) q1.1 q1.2 q2.1 q2.2)
    · have e : j = n := by omega
      subst e
      rw [ptm_e hj] at m2
      simp only at m2
      rw [(mlt_0 ha hb hc hd hN).1] at m2
      have q2 := mm3_2 (show 2 ≤ mm3 j c b a by simpa [mmu] using m2)
      exact hN' (two_inf q2.1 q2.2 q1.1 q1.2)
theorem rtp_3 {a b c d p : Int} (hF : isF a b c d = true) (hp : prm p = true) (hN : mul0 (cnt a b c d) p = false) : ∀ r ∈ rtp a b c d p, 0 < r.2.2 ∧ r.2.2 ≤ 3 := by
  obtain ⟨ha, hb, hc, hd⟩ := isF_t hF
  obtain ⟨h2, h97⟩ := prm_rng hp
  intro r hr
  unfold rtp rts at hr
  obtain ⟨q, hq, hr⟩ := List.mem_flatMap.1 hr
  obtain ⟨i, hi, rfl⟩ := List.getElem_of_mem hq
  have hm : mlt p (ptm p)[i].1 (ptm p)[i].2 4 [a, b, c, d] ≤ 3 := by
    obtain ⟨n, rfl⟩ : ∃ n : Nat, p = n := ⟨p.toNat, by omega⟩
    have hl := ptm_len n
    by_cases hin : i < n
    · rw [ptm_k hin hi]
      simp only
      rw [(mlt_1 ha hb hc hd (by omega) hN).1]
      unfold mmu; split <;> exact mm3_le _ _ _ _
    · have e : i = n := by omega
      subst e
      rw [ptm_e hi]
      simp only
      rw [(mlt_0 ha hb hc hd hN).1]
      unfold mmu; split <;> exact mm3_le _ _ _ _
  unfold rt1 at hr
  split at hr
  · simp at hr
  · simp at hr; subst hr; simp only; omega

/-- The number of a kind, out of the roots: the program's way; the model's way. -/
def kdp (R : List (Int × Int × Int)) : Int := match R.find? (fun r => decide (1 < r.2.2)) with | some r => if r.2.2 = 2 then 4 else 5 | none => if R.length = 3 then 1 else if R.length = 1 then 2 else 3
def mxt (R : List (Int × Int × Int)) : Int := R.foldl (fun m r => max m r.2.2) 0
def kdm (R : List (Int × Int × Int)) : Int := if mxt R = 3 then 5 else if mxt R = 2 then 4 else if R.length = 3 then 1 else if R.length = 1 then 2 else 3
theorem mx_of : ∀ (R : List (Int × Int × Int)) (m B : Int), m ≤ B → (∀ r ∈ R, r.2.2 ≤ B) → R.foldl (fun m r => max m r.2.2) m ≤ B := by
  intro R
  induction R with
  | nil => intro m B hm _; exact hm
  | cons r R ih =>
    intro m B hm h
    refine ih _ B ?_ (fun x hx => h x (List.mem_cons_of_mem _ hx))
    have := h r List.mem_cons_self
    show max m r.2.2 ≤ B
    omega
theorem mx_ge : ∀ (R : List (Int × Int × Int)) (m : Int), m ≤ R.foldl (fun m r => max m r.2.2) m ∧ ∀ r ∈ R, r.2.2 ≤ R.foldl (fun m r => max m r.2.2) m := by
  intro R
  induction R with
  | nil => intro m; exact ⟨Int.le_refl _, fun r hr => by simp at hr⟩
  | cons r R ih =>
    intro m
    obtain ⟨i1, i2⟩ := ih (max m r.2.2)
    refine ⟨by simp only [List.foldl_cons]; omega, fun x hx => ?_⟩
    simp only [List.foldl_cons]
    rcases List.mem_cons.1 hx with rfl | hx
    · omega
    · exact i2 x hx
theorem kd_eq {R : List (Int × Int × Int)} (hp : R.Pairwise fun r r' => ¬ (1 < r.2.2 ∧ 1 < r'.2.2)) (h3 : ∀ r ∈ R, 0 < r.2.2 ∧ r.2.2 ≤ 3) : kdp R = kdm R := by
  unfold kdp
  cases hf : R.find? (fun r => decide (1 < r.2.2)) with
  | none =>
    have h1 : mxt R ≤ 1 := mx_of R 0 1 (by omega) fun r hr => by
      have := List.find?_eq_none.1 hf r hr; simp at this; exact this
    simp [kdm, show ¬ mxt R = 3 by omega, show ¬ mxt R = 2 by omega]
  | some r =>
    have hr : r ∈ R := List.mem_of_find?_eq_some hf
    have h1 : 1 < r.2.2 := by have := List.find?_some hf; simpa using this
    have hb := h3 r hr
    have hge := (mx_ge R 0).2 r hr
    have hle : mxt R ≤ r.2.2 := mx_of R 0 _ (by omega) fun x hx => by
      by_cases hxr : x = r
      · subst hxr; exact Int.le_refl _
      · have h := hp
        rw [List.pairwise_iff_getElem] at h
        obtain ⟨i, hi, ei⟩ := List.getElem_of_mem hr
        obtain ⟨j, hj, ej⟩ := List.getElem_of_mem hx
        have hne : i ≠ j := fun e => by subst e; exact hxr (ej.symm.trans ei)
        rcases Nat.lt_or_gt_of_ne hne with hlt | hlt
        · have := h i j hi hj hlt; rw [ei, ej] at this; omega
        · have := h j i hj hi hlt; rw [ei, ej] at this; omega
    have he : mxt R = r.2.2 := by unfold mxt at *; omega
    simp only [kdm, he]
    by_cases h2 : r.2.2 = 2
    · simp [h2]
    · have : r.2.2 = 3 := by omega
      simp [this]
/-- The kind of a form modulo a prime. -/
def kdn (a b c d p : Int) : Int := if mul0 (cnt a b c d) p then 0 else kdp (rtp a b c d p)


end Go.Proofs.YtgdbnaabbaimjaaDoor

/- Chapter 5: numbers of kinds, the program's methods. -/
namespace Go.Proofs.YtgdbnaabbaimjaaDoor
open Go.RowKit

set_option maxHeartbeats 400000 in
theorem zkNumber_any (w : World) : Calls Tryd.prog 117 #[.agg #[]] w fun e w' => e = .returned (.int .i64 0) ∧ Below w.heap.size w w' := by
  go_enter Tryd.func117, Tryd.ntmps117
  go_wp2
  go_ret
  exact ⟨rfl, by (repeat' (first | with_reducible exact Below.refl _ _ | with_reducible assumption | with_reducible refine gr_alloc ?_ _ | with_reducible refine gr_drew ?_ | with_reducible refine gr_drewN ?_ _ | with_reducible refine gr_trans ?_ (by assumption) | with_reducible refine gr_set ?_ ?_ _ | (simp; done) | omega | (simp; omega)))⟩

set_option maxHeartbeats 400000 in
theorem skNumber_any (n : Int) (w : World) : Calls Tryd.prog 121 #[.agg #[.int .i64 n]] w fun e w' => e = .returned (.int .i64 (if n = 3 then 1 else if n = 1 then 2 else 3)) ∧ Below w.heap.size w w' := by
  go_enter Tryd.func121, Tryd.ntmps121
  go_wp2
  all_goals (go_ret; exact ⟨ret_int (by go_light; simp_all), by (repeat' (first | with_reducible exact Below.refl _ _ | with_reducible assumption | with_reducible refine gr_alloc ?_ _ | with_reducible refine gr_drew ?_ | with_reducible refine gr_drewN ?_ _ | with_reducible refine gr_trans ?_ (by assumption) | with_reducible refine gr_set ?_ ?_ _ | (simp; done) | omega | (simp; omega)))⟩)

set_option maxHeartbeats 400000 in
theorem rkNumber_any (n : Int) (w : World) : Calls Tryd.prog 119 #[.agg #[.int .i64 n]] w fun e w' => e = .returned (.int .i64 (if n = 2 then 4 else 5)) ∧ Below w.heap.size w w' := by
  go_enter Tryd.func119, Tryd.ntmps119
  go_wp2
  all_goals (go_ret; exact ⟨ret_int (by go_light; simp_all), by (repeat' (first | with_reducible exact Below.refl _ _ | with_reducible assumption | with_reducible refine gr_alloc ?_ _ | with_reducible refine gr_drew ?_ | with_reducible refine gr_drewN ?_ _ | with_reducible refine gr_trans ?_ (by assumption) | with_reducible refine gr_set ?_ ?_ _ | (simp; done) | omega | (simp; omega)))⟩)


end Go.Proofs.YtgdbnaabbaimjaaDoor

/- Chapter 5: kinds, the program's and the model's. -/
namespace Go.Proofs.YtgdbnaabbaimjaaDoor
open Go.RowKit

theorem kdp_some {R : List (Int × Int × Int)} {k : Nat} (h : k < R.length) (hl : ∀ i, (hi : i < k) → (R[i]'(by omega)).2.2 ≤ 1) (hk : 1 < R[k].2.2) : kdp R = if R[k].2.2 = 2 then 4 else 5 := by
  have hf : R.find? (fun r => decide (1 < r.2.2)) = some R[k] := by
    rw [List.find?_eq_some_iff_getElem]
    exact ⟨by simpa using hk, k, h, rfl, fun j hj => by have := hl j hj; simp; exact this⟩
  simp [kdp, hf]
theorem kdp_none {R : List (Int × Int × Int)} (hl : ∀ i, (hi : i < R.length) → R[i].2.2 ≤ 1) : kdp R = if (R.length : Int) = 3 then 1 else if (R.length : Int) = 1 then 2 else 3 := by
  have hf : R.find? (fun r => decide (1 < r.2.2)) = none := by
    rw [List.find?_eq_none]
    intro r hr
    obtain ⟨i, hi, rfl⟩ := List.getElem_of_mem hr
    have := hl i hi
    simp; exact this
  have e3 : (R.length = 3) = ((R.length : Int) = 3) := by apply propext; omega
  have e1 : (R.length = 1) = ((R.length : Int) = 1) := by apply propext; omega
  simp only [kdp, hf, e3, e1]
/-- A kind behind the interface, of a number. -/
def KdV (num : Int) (T : TypeId) (v : Value) : Prop :=
  (T = 103 ∧ v = .agg #[] ∧ num = 0) ∨ (∃ t, T = 105 ∧ v = .agg #[.int .i64 t] ∧ num = if t = 2 then 4 else 5) ∨ (∃ n, T = 107 ∧ v = .agg #[.int .i64 n] ∧ num = if n = 3 then 1 else if n = 1 then 2 else 3)
def KdOut (num : Int) (w : World) (e : Ending) (w' : World) : Prop := ∃ T v, e = .returned (.iface T v) ∧ KdV num T v ∧ Below w.heap.size w w'

set_option maxRecDepth 100000 in
set_option maxHeartbeats 4000000 in
theorem kindModulo_any (a b c d p : Int) (pv : Value) (w : World) (hg : Sen w pv) (hF : isF a b c d = true) (hp : prm p = true) : Calls Tryd.prog 53 #[.agg #[.int .i64 a, .int .i64 b, .int .i64 c, .int .i64 d], .int .i64 p] w (KdOut (kdn a b c d p) w) := by
  obtain ⟨h2, h97⟩ := prm_rng hp
  have U0 := gr_alloc (Below.refl w.heap.size w) (.cells #[.int .i64 a, .int .i64 b, .int .i64 c, .int .i64 d] 23)
  have G0 := hg.alloc (.cells #[.int .i64 a, .int .i64 b, .int .i64 c, .int .i64 d] 23)
  have q1 := ne_nilI
  have q2 := ne_errI pv
  cases hN : mul0 (cnt a b c d) p with
  | true =>
    have HE := hid (show kdn a b c d p = 0 by simp [kdn, hN])
    have HR := hid (fun W hg => roe_n a b c d p pv W hg h2 h97 hF hN)
    clear hN hF hp
    go_enter Tryd.func53, Tryd.ntmps53
    go_wp2_with fail
    refine (HR.out _ G0).mono ?_
    rintro e w2 ⟨rfl, hb2⟩
    go_wp2_with fail
    go_ret
    rw [HE.out]
    exact ⟨_, _, rfl, .inl ⟨rfl, rfl, rfl⟩, gr_trans U0 hb2⟩
  | false =>
    have HE := hid (show kdn a b c d p = kdp (rtp a b c d p) by simp [kdn, hN])
    have HR := hid (fun W => roe_p a b c d p W h2 h97 hF hN)
    have hl := rtp_len (a := a) (b := b) (c := c) (d := d) h97
    clear hN hF hp
    generalize kdn a b c d p = KN at HE ⊢
    generalize rtp a b c d p = RR at HR HE hl
    go_enter Tryd.func53, Tryd.ntmps53
    go_wp2_with fail
    refine (HR.out _).mono ?_
    rintro e w2 ⟨v, rfl, hO, hb2⟩
    have U2 := gr_trans U0 hb2
    have HO := hid (owns_mono hO U0.size)
    have hform : ∃ va cap, v = .slice va RR.length cap := by
      rcases hO.2 with ⟨rfl, h⟩ | ⟨g, cap, cur, rfl, _⟩
      · exact ⟨none, 0, by rw [h]⟩
      · exact ⟨_, cap, rfl⟩
    obtain ⟨va, cap, rfl⟩ := hform
    clear hO U0 G0
    go_wp2_with fail
    go_loopw [21] (fun s21 wr => ∃ k : Nat, k ≤ RR.length ∧ s21 = .int .i64 ((k : Int)) ∧ Hid (∀ i, (hi : i < RR.length) → i < k → RR[i].2.2 ≤ 1) ∧ wr.ownsRow w.heap.size 91 3 (.slice va RR.length cap) RR.length (RR.flatMap tr3) ∧ Below w.heap.size w wr) (fun s21 _ => RR.length - (intOf s21).toNat)
    case atStart => exact ⟨0, Nat.zero_le _, rfl, hid (fun i _ hi => by omega), HO.out, U2⟩
    case round =>
      obtain ⟨k, hk, rfl, HJ, hO, hU⟩ := hrel
      have HP := hid hO; have HU := hid hU
      have hsz := hU.size
      clear hU U2
      by_cases hlt : k < RR.length
      · obtain ⟨g, cap', e', _, hg', _, hcm, hcell⟩ := owns_formS hO (by omega)
        cases e'
        have x0 := hcell (k * 3 + 0) _ ((flat_get tr3 3 (fun _ => rfl) RR k 0 hlt (by omega)).trans rfl)
        have x1 := hcell (k * 3 + 1) _ ((flat_get tr3 3 (fun _ => rfl) RR k 1 hlt (by omega)).trans rfl)
        have x2 := hcell (k * 3 + 2) _ ((flat_get tr3 3 (fun _ => rfl) RR k 2 hlt (by omega)).trans rfl)
        simp only [Nat.add_zero] at x0
        have HK := hid (fun (h1 : 1 < RR[k].2.2) => kdp_some hlt (fun i hi => HJ.out i (by omega) hi) h1)
        have HJ1 := hid (fun (h1 : RR[k].2.2 ≤ 1) => (show ∀ i, (hi : i < RR.length) → i < k + 1 → RR[i].2.2 ≤ 1 from fun i hi hik => by
          by_cases e : i = k
          · subst e; exact h1
          · exact HJ.out i hi (by omega)))
        generalize RR[k] = r at x0 x1 x2 HK HJ1
        obtain ⟨x, y, t⟩ := r
        simp only at x0 x1 x2
        unfold maxLen at hcm
        clear hcell hO HJ
        by_cases ht : 1 < t
        · have HE1 := hid (HE.out.trans (HK.out ht))
          go_wp2_with fail
          go_ret
          rw [HE1.out]
          exact ⟨_, _, rfl, .inr (.inl ⟨t, rfl, rfl, rfl⟩), gr_alloc HU.out _⟩
        · have HJ2 := hid (HJ1.out (by omega : t ≤ 1))
          go_wp2_with fail
          go_roundw
          case rel => exact ⟨k + 1, by omega, by go_num, HJ2, HP.out.alloc _, gr_alloc HU.out _⟩
          case measure => simp [intOf]; omega
      · have e : k = RR.length := by omega
        have HE1 := hid (HE.out.trans (kdp_none (fun i hi => HJ.out i hi (by omega))))
        subst e
        clear hO
        go_wp2_with fail
        go_ret
        rw [HE1.out]
        exact ⟨_, _, rfl, .inr (.inr ⟨_, rfl, rfl, rfl⟩), HU.out⟩

/-- The value of KindModulo. -/
def kmv (a b c d p : Int) : Int := if fpc a b c d p = 0 then kdn a b c d p else 0

set_option maxRecDepth 100000 in
set_option maxHeartbeats 1000000 in
theorem iKindModulo_any (a b c d p : Int) (pv : Value) (w : World) (hg : Sen w pv) : Calls Tryd.prog 15 #[.agg #[.int .i64 a, .int .i64 b, .int .i64 c, .int .i64 d], .int .i64 p] w fun e w' => e = .returned (.tuple #[.int .i64 (kmv a b c d p), .int .i64 (fpc a b c d p)]) ∧ Below w.heap.size w w' := by
  have hc0 := fun W => iCheckFP_any a b c d p W
  have hk : fpc a b c d p = 0 → isF a b c d = true ∧ prm p = true := fpc_0.1
  have h0 : fpc a b c d p = 0 → kmv a b c d p = kdn a b c d p := fun h => by simp [kmv, h]
  have hn : fpc a b c d p ≠ 0 → kmv a b c d p = 0 := fun h => by simp [kmv, h]
  generalize fpc a b c d p = k at hc0 hk h0 hn ⊢
  have HC := hid hc0; have HK := hid hk; have H0 := hid h0; have HN := hid hn
  clear hc0 hk h0 hn
  have U0 := gr_alloc (Below.refl w.heap.size w) (.cells #[.int .i64 a, .int .i64 b, .int .i64 c, .int .i64 d] 23)
  have G0 := hg.alloc (.cells #[.int .i64 a, .int .i64 b, .int .i64 c, .int .i64 d] 23)
  go_enter Tryd.func15, Tryd.ntmps15
  go_wp2_with fail
  refine (HC.out _).mono ?_
  rintro e w1 ⟨rfl, hb1⟩
  obtain ⟨_, c0, c1, c2, c3, _⟩ := (Arr.new w a b c d 23).next hb1
  have U1 := gr_trans U0 hb1
  have G1 := G0.next hb1
  by_cases hk0 : k = 0
  · subst hk0
    obtain ⟨hF, hp⟩ := HK.out rfl
    have HE := hid (H0.out rfl)
    have HM := hid (kindModulo_any a b c d p pv _ G1 hF hp)
    clear hF hp
    go_wp2_with fail
    refine HM.out.mono ?_
    rintro e w2 ⟨T, v, rfl, hK, hb2⟩
    have U2 := gr_trans U1 hb2
    rcases hK with ⟨rfl, rfl, hn⟩ | ⟨t, rfl, rfl, hn⟩ | ⟨n, rfl, rfl, hn⟩
    · have H := hid (HE.out.trans hn)
      clear hn
      go_wp2_with fail
      refine (zkNumber_any _).mono ?_
      rintro e w3 ⟨rfl, hb3⟩
      go_wp2_with fail
      go_ret2
      rw [H.out]
      exact ⟨rfl, gr_trans U2 hb3⟩
    · have H := hid (HE.out.trans hn)
      clear hn
      go_wp2_with fail
      refine (rkNumber_any t _).mono ?_
      rintro e w3 ⟨rfl, hb3⟩
      generalize (if t = 2 then (4 : Int) else 5) = z at H ⊢
      go_wp2_with fail
      go_ret2
      rw [H.out]
      exact ⟨rfl, gr_trans U2 hb3⟩
    · have H := hid (HE.out.trans hn)
      clear hn
      go_wp2_with fail
      refine (skNumber_any n _).mono ?_
      rintro e w3 ⟨rfl, hb3⟩
      generalize (if n = 3 then (1 : Int) else if n = 1 then 2 else 3) = z at H ⊢
      go_wp2_with fail
      go_ret2
      rw [H.out]
      exact ⟨rfl, gr_trans U2 hb3⟩
  · have HE := hid (HN.out hk0)
    have hk' : (k == 0) = false := by simpa using hk0
    clear hk0
    go_wp2_with fail
    go_ret2
    rw [HE.out]
    exact ⟨rfl, U1⟩


end Go.Proofs.YtgdbnaabbaimjaaDoor

/- Chapter 5: kinds of the model; counts of roots. -/
namespace Go.Proofs.YtgdbnaabbaimjaaDoor
open Go.RowKit

def mxK (R : List (Int × Int × Int)) (k : Nat) : Int := mxt (R.take k)
theorem mxK_0 (R : List (Int × Int × Int)) : mxK R 0 = 0 := rfl
theorem mxK_s {R : List (Int × Int × Int)} {k : Nat} (h : k < R.length) : mxK R (k + 1) = max (mxK R k) R[k].2.2 := by
  unfold mxK mxt; rw [List.take_succ_eq_append_getElem h, List.foldl_append]; rfl
theorem mxK_e (R : List (Int × Int × Int)) : mxK R R.length = mxt R := by unfold mxK; rw [List.take_length]
theorem mx_if (M t : Int) : (if M < t then t else M) = max M t := by split <;> omega
theorem kdm_n (R : List (Int × Int × Int)) : kdm R = if mxt R = 3 then 5 else if mxt R = 2 then 4 else if (R.length : Int) = 3 then 1 else if (R.length : Int) = 1 then 2 else 3 := by
  have e3 : (R.length = 3) = ((R.length : Int) = 3) := by apply propext; omega
  have e1 : (R.length = 1) = ((R.length : Int) = 1) := by apply propext; omega
  simp only [kdm, e3, e1]
theorem rw3_get {R : List (Int × Int × Int)} {k : Nat} (h : k < R.length) : ((R.map rw3).getD k []).getD 2 0 = R[k].2.2 := by
  simp [List.getD, h, rw3]





/-- The value of CountRoots. -/
def crv (a b c d p : Int) : Int := if fpc a b c d p = 0 then (if mul0 (cnt a b c d) p then p + 1 else ((rtp a b c d p).length : Int)) else 0






end Go.Proofs.YtgdbnaabbaimjaaDoor

/- Plain mathematics: products, inverses, discriminants of changed forms. No Go function in sight. -/
namespace Go.Proofs.YtgdbnaabbaimjaaDoor
open Go.RowKit

def hP (a b c : Int) : Int := b * b - 3 * a * c
def hQ (a b c d : Int) : Int := b * c - 9 * a * d
def hR (b c d : Int) : Int := c * c - 3 * b * d
theorem hess_disc (a b c d : Int) : 4 * hP a b c * hR b c d - hQ a b c d * hQ a b c d = 3 * dx a b c d := by unfold hP hQ hR dx; grind
theorem hess_P (a b c d p q r s : Int) : hP (cA a b c d p r) (cB a b c d p q r s) (cC a b c d p q r s) = (p * s - q * r) * (p * s - q * r) * (hP a b c * p * p + hQ a b c d * p * r + hR b c d * r * r) := by
  unfold hP hQ hR cA cB cC vx; grind
theorem hess_R (a b c d p q r s : Int) : hR (cB a b c d p q r s) (cC a b c d p q r s) (cA a b c d q s) = (p * s - q * r) * (p * s - q * r) * (hP a b c * q * q + hQ a b c d * q * s + hR b c d * s * s) := by
  unfold hP hQ hR cA cB cC vx; grind
theorem hess_Q (a b c d p q r s : Int) : hQ (cA a b c d p r) (cB a b c d p q r s) (cC a b c d p q r s) (cA a b c d q s) = (p * s - q * r) * (p * s - q * r) * (2 * hP a b c * p * q + hQ a b c d * (p * s + q * r) + 2 * hR b c d * r * s) := by
  unfold hP hQ hR cA cB cC vx; grind
theorem quad_disc (P Q R p q r s : Int) : 4 * (P * p * p + Q * p * r + R * r * r) * (P * q * q + Q * q * s + R * s * s) - (2 * P * p * q + Q * (p * s + q * r) + 2 * R * r * s) * (2 * P * p * q + Q * (p * s + q * r) + 2 * R * r * s) = (p * s - q * r) * (p * s - q * r) * (4 * P * R - Q * Q) := by grind
theorem disc_ch (a b c d p q r s g : Int) (hg : g = p * s - q * r) : dx (cA a b c d p r) (cB a b c d p q r s) (cC a b c d p q r s) (cA a b c d q s) = dx a b c d * g * g * g * g * g * g := by
  have h1 := hess_disc (cA a b c d p r) (cB a b c d p q r s) (cC a b c d p q r s) (cA a b c d q s)
  have h2 := hess_disc a b c d
  have h3 := quad_disc (hP a b c) (hQ a b c d) (hR b c d) p q r s
  rw [hess_P, hess_Q, hess_R, ← hg] at h1
  rw [← hg, h2] at h3
  generalize hP a b c * p * p + hQ a b c d * p * r + hR b c d * r * r = X at h1 h3
  generalize hP a b c * q * q + hQ a b c d * q * s + hR b c d * s * s = Y at h1 h3
  generalize 2 * hP a b c * p * q + hQ a b c d * (p * s + q * r) + 2 * hR b c d * r * s = Z at h1 h3
  have e : 4 * (g * g * X) * (g * g * Y) - g * g * Z * (g * g * Z) = g * g * g * g * (4 * X * Y - Z * Z) := by grind
  rw [e, h3] at h1
  have e2 : g * g * g * g * (g * g * (3 * dx a b c d)) = 3 * (dx a b c d * g * g * g * g * g * g) := by grind
  omega
/-- The discriminant of a changed form, as int64 reckons. -/
theorem dsc_ch (a b c d p q r s : Int) : dsc (cA a b c d p r) (cB a b c d p q r s) (cC a b c d p q r s) (cA a b c d q s) = mu (mu (mu (mu (mu (mu (dsc a b c d) (det p q r s)) (det p q r s)) (det p q r s)) (det p q r s)) (det p q r s)) (det p q r s) := by
  have e : det p q r s = wrap64 (p * s - q * r) := by simp only [det, mi, mu, wr_sl, wr_sr]
  rw [dsc_wr, dsc_wr, e, disc_ch a b c d p q r s _ rfl]
  simp only [mu, wr_ml, wr_mr]
theorem val_ch (a b c d p q r s x y : Int) : vx (cA a b c d p r) (cB a b c d p q r s) (cC a b c d p q r s) (cA a b c d q s) x y = vx a b c d (p * x + q * y) (r * x + s * y) := by
  unfold vx cA cB cC vx; grind
theorem det_eq {a b c d : Int} (ha : -1000 ≤ a ∧ a ≤ 1000) (hb : -1000 ≤ b ∧ b ≤ 1000) (hc : -1000 ≤ c ∧ c ≤ 1000) (hd : -1000 ≤ d ∧ d ≤ 1000) : det a b c d = a * d - b * c := by
  have h1 := mulb ha hd; have h2 := mulb hb hc
  simp only [det, mi, mu, wr_sl, wr_sr]; exact wr_in (by omega)
theorem mp_eq {a b c d : Int} (ha : -1000 ≤ a ∧ a ≤ 1000) (hb : -1000 ≤ b ∧ b ≤ 1000) (hc : -1000 ≤ c ∧ c ≤ 1000) (hd : -1000 ≤ d ∧ d ≤ 1000) : mp a b c d = a * b + c * d := by
  have h1 := mulb ha hb; have h2 := mulb hc hd
  simp only [mp, pl, mu, wr_al, wr_ar]; exact wr_in (by omega)
/-- Determinants multiply. -/
theorem det_mul {a b c d p q r s : Int} (hm : isF a b c d = true) (hn : isF p q r s = true) : mu (det a b c d) (det p q r s) = det (mp a p b r) (mp a q b s) (mp c p d r) (mp c q d s) := by
  obtain ⟨ha, hb, hc, hd⟩ := isF_t hm
  obtain ⟨hp, hq, hr, hs⟩ := isF_t hn
  rw [mp_eq ha hp hb hr, mp_eq ha hq hb hs, mp_eq hc hp hd hr, mp_eq hc hq hd hs]
  simp only [det, mi, mu, wr_ml, wr_mr, wr_sl, wr_sr]
  refine congrArg wrap64 ?_
  grind
/-- The changed form changed back. -/
theorem back_0 (a b c d p q r s g : Int) :
    cA (cA a b c d p r) (cB a b c d p q r s) (cC a b c d p q r s) (cA a b c d q s) (g * s) (-(g * r)) = (g * (p * s - q * r)) * (g * (p * s - q * r)) * (g * (p * s - q * r)) * a ∧
    cB (cA a b c d p r) (cB a b c d p q r s) (cC a b c d p q r s) (cA a b c d q s) (g * s) (-(g * q)) (-(g * r)) (g * p) = (g * (p * s - q * r)) * (g * (p * s - q * r)) * (g * (p * s - q * r)) * b ∧
    cC (cA a b c d p r) (cB a b c d p q r s) (cC a b c d p q r s) (cA a b c d q s) (g * s) (-(g * q)) (-(g * r)) (g * p) = (g * (p * s - q * r)) * (g * (p * s - q * r)) * (g * (p * s - q * r)) * c ∧
    cA (cA a b c d p r) (cB a b c d p q r s) (cC a b c d p q r s) (cA a b c d q s) (-(g * q)) (g * p) = (g * (p * s - q * r)) * (g * (p * s - q * r)) * (g * (p * s - q * r)) * d := by
  refine ⟨?_, ?_, ?_, ?_⟩
  · unfold cA cB cC vx; grind
  · unfold cA cB cC vx; grind
  · unfold cA cB cC vx; grind
  · unfold cA cB cC vx; grind
theorem sq_one {g : Int} (h : g = 1 ∨ g = -1) : g * g = 1 := by rcases h with rfl | rfl <;> rfl
theorem back_1 {a b c d p q r s g : Int} (hg : g = p * s - q * r) (h : g = 1 ∨ g = -1) :
    cA (cA a b c d p r) (cB a b c d p q r s) (cC a b c d p q r s) (cA a b c d q s) (g * s) (-(g * r)) = a ∧
    cB (cA a b c d p r) (cB a b c d p q r s) (cC a b c d p q r s) (cA a b c d q s) (g * s) (-(g * q)) (-(g * r)) (g * p) = b ∧
    cC (cA a b c d p r) (cB a b c d p q r s) (cC a b c d p q r s) (cA a b c d q s) (g * s) (-(g * q)) (-(g * r)) (g * p) = c ∧
    cA (cA a b c d p r) (cB a b c d p q r s) (cC a b c d p q r s) (cA a b c d q s) (-(g * q)) (g * p) = d := by
  have h0 := back_0 a b c d p q r s g
  have h1 := sq_one h
  rw [← hg, h1] at h0
  simpa using h0
theorem inv_isF {a b c d g : Int} (hm : isF a b c d = true) (h : g = 1 ∨ g = -1) : isF (g * d) (-(g * b)) (-(g * c)) (g * a) = true := by
  obtain ⟨ha, hb, hc, hd⟩ := isF_t hm
  rcases h with rfl | rfl <;> exact isF_mk (by omega) (by omega) (by omega) (by omega)
/-- A unit matrix and its inverse. -/
theorem inv_mul {a b c d g : Int} (hm : isF a b c d = true) (hg : det a b c d = g) (h : g = 1 ∨ g = -1) :
    mp a (g * d) b (-(g * c)) = 1 ∧ mp a (-(g * b)) b (g * a) = 0 ∧ mp c (g * d) d (-(g * c)) = 0 ∧ mp c (-(g * b)) d (g * a) = 1 := by
  obtain ⟨ha, hb, hc, hd⟩ := isF_t hm
  obtain ⟨h1, h2, h3, h4⟩ := isF_t (inv_isF hm h)
  rw [det_eq ha hb hc hd] at hg
  rw [mp_eq ha h1 hb h3, mp_eq ha h2 hb h4, mp_eq hc h1 hd h3, mp_eq hc h2 hd h4]
  rcases h with h | h <;> rw [h] at hg ⊢ <;> refine ⟨?_, ?_, ?_, ?_⟩ <;> grind
theorem ivc_0 {a b c d : Int} (h : ivc a b c d = 0) : isF a b c d = true ∧ (det a b c d = 1 ∨ det a b c d = -1) := by
  unfold ivc at h
  split at h
  · rename_i hf
    refine ⟨hf, ?_⟩
    split at h
    · rename_i hu; simpa [isUnit] using hu
    · cases h
  · cases h
theorem mulc_0 {a b c d p q r s : Int} (h : mulc a b c d p q r s = 0) : isF a b c d = true ∧ isF p q r s = true ∧ isF (mp a p b r) (mp a q b s) (mp c p d r) (mp c q d s) = true := by
  unfold mulc at h
  split at h
  · rename_i hf
    split at h
    · rename_i hu; simp only [Bool.and_eq_true] at hf; exact ⟨hf.1, hf.2, hu⟩
    · cases h
  · cases h
theorem chc_0 {a b c d p q r s : Int} (h : chc a b c d p q r s = 0) : isF a b c d = true ∧ isF p q r s = true ∧ isF (cA a b c d p r) (cB a b c d p q r s) (cC a b c d p q r s) (cA a b c d q s) = true := by
  unfold chc at h
  split at h
  · rename_i hf
    split at h
    · rename_i hu; simp only [Bool.and_eq_true] at hf; exact ⟨hf.1, hf.2, hu⟩
    · cases h
  · cases h
/-- The value of a changed form at 2, -1. -/
theorem val_2 (a b c d p q r s : Int) : vl (cA a b c d p r) (cB a b c d p q r s) (cC a b c d p q r s) (cA a b c d q s) 2 (-1) = vl a b c d (2 * p - q) (2 * r - s) := by
  rw [vl_wr, vl_wr, val_ch]
  have e1 : p * 2 + q * (-1) = 2 * p - q := by omega
  have e2 : r * 2 + s * (-1) = 2 * r - s := by omega
  rw [e1, e2]

end Go.Proofs.YtgdbnaabbaimjaaDoor

/- Chapter 5: kinds do not change under unit matrices: points go to points, with their multiplicities. Mathematics; no Go function in sight. -/
namespace Go.Proofs.YtgdbnaabbaimjaaDoor
open Go.RowKit

/-- A place with a multiplicity of at least k + 1 (k = 0, 1, 2): the value, the slopes, the halves of the second slopes are multiples. -/
def ge1 (p a b c d x y : Int) : Prop := p ∣ vx a b c d x y
def ge2 (p a b c d x y : Int) : Prop := ge1 p a b c d x y ∧ p ∣ 3 * a * x * x + 2 * b * x * y + c * y * y ∧ p ∣ b * x * x + 2 * c * x * y + 3 * d * y * y
def ge3 (p a b c d x y : Int) : Prop := ge2 p a b c d x y ∧ p ∣ 3 * a * x + b * y ∧ p ∣ 2 * b * x + 2 * c * y ∧ p ∣ c * x + 3 * d * y
/-- A place of changed forms goes to the changed place. -/
theorem ge1_ch {p a b c d P Q R S x y : Int} : ge1 p (cA a b c d P R) (cB a b c d P Q R S) (cC a b c d P Q R S) (cA a b c d Q S) x y ↔ ge1 p a b c d (P * x + Q * y) (R * x + S * y) := by
  unfold ge1
  rw [show vx (cA a b c d P R) (cB a b c d P Q R S) (cC a b c d P Q R S) (cA a b c d Q S) x y = vx a b c d (P * x + Q * y) (R * x + S * y) by unfold cA cB cC vx; grind]
theorem ge2_ch {p a b c d P Q R S x y : Int} (h : ge2 p a b c d (P * x + Q * y) (R * x + S * y)) : ge2 p (cA a b c d P R) (cB a b c d P Q R S) (cC a b c d P Q R S) (cA a b c d Q S) x y := by
  obtain ⟨h0, h1, h2⟩ := h
  refine ⟨ge1_ch.2 h0, ?_, ?_⟩
  · rw [show 3 * cA a b c d P R * x * x + 2 * cB a b c d P Q R S * x * y + cC a b c d P Q R S * y * y = P * (3 * a * (P * x + Q * y) * (P * x + Q * y) + 2 * b * (P * x + Q * y) * (R * x + S * y) + c * (R * x + S * y) * (R * x + S * y)) + R * (b * (P * x + Q * y) * (P * x + Q * y) + 2 * c * (P * x + Q * y) * (R * x + S * y) + 3 * d * (R * x + S * y) * (R * x + S * y)) by unfold cA cB cC vx; grind]
    exact Int.dvd_add (Int.dvd_mul_of_dvd_right h1) (Int.dvd_mul_of_dvd_right h2)
  · rw [show cB a b c d P Q R S * x * x + 2 * cC a b c d P Q R S * x * y + 3 * cA a b c d Q S * y * y = Q * (3 * a * (P * x + Q * y) * (P * x + Q * y) + 2 * b * (P * x + Q * y) * (R * x + S * y) + c * (R * x + S * y) * (R * x + S * y)) + S * (b * (P * x + Q * y) * (P * x + Q * y) + 2 * c * (P * x + Q * y) * (R * x + S * y) + 3 * d * (R * x + S * y) * (R * x + S * y)) by unfold cA cB cC vx; grind]
    exact Int.dvd_add (Int.dvd_mul_of_dvd_right h1) (Int.dvd_mul_of_dvd_right h2)
theorem ge3_ch {p a b c d P Q R S x y : Int} (h : ge3 p a b c d (P * x + Q * y) (R * x + S * y)) : ge3 p (cA a b c d P R) (cB a b c d P Q R S) (cC a b c d P Q R S) (cA a b c d Q S) x y := by
  obtain ⟨h0, h1, h2, h3⟩ := h
  refine ⟨ge2_ch h0, ?_, ?_, ?_⟩
  · rw [show 3 * cA a b c d P R * x + cB a b c d P Q R S * y = P * P * (3 * a * (P * x + Q * y) + b * (R * x + S * y)) + P * R * (2 * b * (P * x + Q * y) + 2 * c * (R * x + S * y)) + R * R * (c * (P * x + Q * y) + 3 * d * (R * x + S * y)) by simp only [cA, cB, vx]; grind]
    exact Int.dvd_add (Int.dvd_add (Int.dvd_mul_of_dvd_right h1) (Int.dvd_mul_of_dvd_right h2)) (Int.dvd_mul_of_dvd_right h3)
  · rw [show 2 * cB a b c d P Q R S * x + 2 * cC a b c d P Q R S * y = 2 * P * Q * (3 * a * (P * x + Q * y) + b * (R * x + S * y)) + (P * S + Q * R) * (2 * b * (P * x + Q * y) + 2 * c * (R * x + S * y)) + 2 * R * S * (c * (P * x + Q * y) + 3 * d * (R * x + S * y)) by simp only [cB, cC]; grind]
    exact Int.dvd_add (Int.dvd_add (Int.dvd_mul_of_dvd_right h1) (Int.dvd_mul_of_dvd_right h2)) (Int.dvd_mul_of_dvd_right h3)
  · rw [show cC a b c d P Q R S * x + 3 * cA a b c d Q S * y = Q * Q * (3 * a * (P * x + Q * y) + b * (R * x + S * y)) + Q * S * (2 * b * (P * x + Q * y) + 2 * c * (R * x + S * y)) + S * S * (c * (P * x + Q * y) + 3 * d * (R * x + S * y)) by simp only [cA, cC, vx]; grind]
    exact Int.dvd_add (Int.dvd_add (Int.dvd_mul_of_dvd_right h1) (Int.dvd_mul_of_dvd_right h2)) (Int.dvd_mul_of_dvd_right h3)
/-- Multiplicities at the points, by these. -/
theorem mm3_g1 {p u v t : Int} : 1 ≤ mm3 p u v t ↔ p ∣ t := by unfold mm3; by_cases h1 : p ∣ t <;> by_cases h2 : p ∣ v <;> by_cases h3 : p ∣ u <;> simp [h1, h2, h3]
theorem mm3_g2 {p u v t : Int} : 2 ≤ mm3 p u v t ↔ p ∣ t ∧ p ∣ v := by unfold mm3; by_cases h1 : p ∣ t <;> by_cases h2 : p ∣ v <;> by_cases h3 : p ∣ u <;> simp [h1, h2, h3]
theorem mm3_g3 {p u v t : Int} : 3 ≤ mm3 p u v t ↔ p ∣ t ∧ p ∣ v ∧ p ∣ u := by unfold mm3; by_cases h1 : p ∣ t <;> by_cases h2 : p ∣ v <;> by_cases h3 : p ∣ u <;> simp [h1, h2, h3]
theorem mmu_f (p a b c d x : Int) : mmu p a b c d x 1 = mm3 p (g1 a b x) (g2 a b c x) (g3 a b c d x) := by simp [mmu]
theorem mmu_i (p a b c d : Int) : mmu p a b c d 1 0 = mm3 p c b a := by simp [mmu]
theorem mu1_f {p a b c d x : Int} : 1 ≤ mmu p a b c d x 1 ↔ ge1 p a b c d x 1 := by
  rw [mmu_f, mm3_g1, ge1, show vx a b c d x 1 = g3 a b c d x by unfold vx g3; grind]
theorem mu1_i {p a b c d : Int} : 1 ≤ mmu p a b c d 1 0 ↔ ge1 p a b c d 1 0 := by
  rw [mmu_i, mm3_g1, ge1, show vx a b c d 1 0 = a by unfold vx; grind]
theorem mu2_f {p a b c d x : Int} : 2 ≤ mmu p a b c d x 1 ↔ ge2 p a b c d x 1 := by
  have e : b * x * x + 2 * c * x * 1 + 3 * d * 1 * 1 = 3 * g3 a b c d x - x * g2 a b c x := by unfold g3 g2; grind
  rw [mmu_f, mm3_g2, ge2, e, ge1, show vx a b c d x 1 = g3 a b c d x by unfold vx g3; grind, show 3 * a * x * x + 2 * b * x * 1 + c * 1 * 1 = g2 a b c x by unfold g2; grind]
  exact ⟨fun ⟨h1, h2⟩ => ⟨h1, h2, Int.dvd_sub (Int.dvd_mul_of_dvd_right h1) (Int.dvd_mul_of_dvd_right h2)⟩, fun ⟨h1, h2, _⟩ => ⟨h1, h2⟩⟩
theorem mu2_i {p a b c d : Int} : 2 ≤ mmu p a b c d 1 0 ↔ ge2 p a b c d 1 0 := by
  rw [mmu_i, mm3_g2, ge2, ge1, show vx a b c d 1 0 = a by unfold vx; grind, show 3 * a * 1 * 1 + 2 * b * 1 * 0 + c * 0 * 0 = 3 * a by grind, show b * 1 * 1 + 2 * c * 1 * 0 + 3 * d * 0 * 0 = b by grind]
  exact ⟨fun ⟨h1, h2⟩ => ⟨h1, Int.dvd_mul_of_dvd_right h1, h2⟩, fun ⟨h1, _, h2⟩ => ⟨h1, h2⟩⟩
theorem mu3_f {p a b c d x : Int} : 3 ≤ mmu p a b c d x 1 ↔ ge3 p a b c d x 1 := by
  have e2 : 2 * b * x + 2 * c * 1 = 2 * g2 a b c x - 2 * x * g1 a b x := by unfold g2 g1; grind
  have e3 : c * x + 3 * d * 1 = 3 * g3 a b c d x - 2 * x * g2 a b c x + x * x * g1 a b x := by unfold g3 g2 g1; grind
  rw [ge3, ← mu2_f, e2, e3, show 3 * a * x + b * 1 = g1 a b x by unfold g1; grind, mmu_f, mm3_g3, mm3_g2]
  exact ⟨fun ⟨h1, h2, h3⟩ => ⟨⟨h1, h2⟩, h3, Int.dvd_sub (Int.dvd_mul_of_dvd_right h2) (Int.dvd_mul_of_dvd_right h3), Int.dvd_add (Int.dvd_sub (Int.dvd_mul_of_dvd_right h1) (Int.dvd_mul_of_dvd_right h2)) (Int.dvd_mul_of_dvd_right h3)⟩, fun ⟨⟨h1, h2⟩, h3, _⟩ => ⟨h1, h2, h3⟩⟩
theorem mu3_i {p a b c d : Int} : 3 ≤ mmu p a b c d 1 0 ↔ ge3 p a b c d 1 0 := by
  rw [ge3, ← mu2_i, show 3 * a * 1 + b * 0 = 3 * a by grind, show 2 * b * 1 + 2 * c * 0 = 2 * b by grind, show c * 1 + 3 * d * 0 = c by grind, mmu_i, mm3_g3, mm3_g2]
  exact ⟨fun ⟨h1, h2, h3⟩ => ⟨⟨h1, h2⟩, Int.dvd_mul_of_dvd_right h1, Int.dvd_mul_of_dvd_right h2, h3⟩, fun ⟨⟨h1, h2⟩, _, _, h3⟩ => ⟨h1, h2, h3⟩⟩
/-- The inverse modulo a prime. -/
def invN (p y : Nat) : Nat := (List.range (p - 2)).foldl (fun m _ => m * y % p) (1 % p)
theorem inv_all : ∀ p < 98, prmN p = true → ∀ y < p, y ≠ 0 → y * invN p y % p = 1 := by decide +kernel
theorem inv_ex {p y : Int} (hp : prm p = true) (h : ¬ p ∣ y) : ∃ z : Int, p ∣ y * z - 1 := by
  obtain ⟨h2, h97⟩ := prm_rng hp
  obtain ⟨n, rfl⟩ : ∃ n : Nat, p = n := ⟨p.toNat, by omega⟩
  have hn : prmN n = true := by simpa [prm] using hp
  have hy0 : 0 ≤ y % n := Int.emod_nonneg _ (by omega)
  have hyn : y % n < n := Int.emod_lt_of_pos _ (by omega)
  obtain ⟨m, hm⟩ : ∃ m : Nat, y % n = m := ⟨(y % n).toNat, by omega⟩
  have hm0 : m ≠ 0 := fun e => h (Int.dvd_of_emod_eq_zero (by rw [hm, e]; rfl))
  have := inv_all n (by omega) hn m (by omega) hm0
  refine ⟨(invN n m : Int), ?_⟩
  have e : y * invN n m - 1 = (y - m) * invN n m + ((m * invN n m : Nat) - 1 : Int) := by push_cast; grind
  rw [e]
  have d1 : (n : Int) ∣ y - m := by
    have := Int.emod_add_mul_ediv y n
    exact ⟨y / n, by omega⟩
  have d2 : (n : Int) ∣ ((m * invN n m : Nat) - 1 : Int) := by
    have h3 := Nat.div_add_mod (m * invN n m) n
    rw [this] at h3
    refine ⟨((m * invN n m / n : Nat) : Int), ?_⟩
    have : ((m * invN n m : Nat) : Int) = ((n * (m * invN n m / n) + 1 : Nat) : Int) := by rw [h3]
    push_cast at this ⊢
    omega
  exact Int.dvd_add (Int.dvd_mul_of_dvd_left d1) d2
/-- Every place that is not 0 modulo p is a multiple of one of the points. -/
theorem pt_of {p x y : Int} (hp : prm p = true) (h : ¬ (p ∣ x ∧ p ∣ y)) : ∃ q ∈ ptm p, ∃ l, ¬ p ∣ l ∧ p ∣ x - l * q.1 ∧ p ∣ y - l * q.2 := by
  obtain ⟨h2, h97⟩ := prm_rng hp
  by_cases hy : p ∣ y
  · refine ⟨(1, 0), by simp [ptm], x, fun hx => h ⟨hx, hy⟩, by simp, by simpa using hy⟩
  · obtain ⟨z, hz⟩ := inv_ex hp hy
    have h0 : 0 ≤ (x * z) % p := Int.emod_nonneg _ (by omega)
    have hl : (x * z) % p < p := Int.emod_lt_of_pos _ (by omega)
    refine ⟨((x * z) % p, 1), ?_, y, hy, ?_, by simp⟩
    · refine List.mem_append_left _ (List.mem_map.2 ⟨((x * z) % p).toNat, List.mem_range.2 (by omega), ?_⟩)
      rw [Int.toNat_of_nonneg h0]
    · have e := Int.emod_add_mul_ediv (x * z) p
      have e2 : x - y * ((x * z) % p) = -(x * (y * z - 1)) + p * (y * (x * z / p)) := by
        have : (x * z) % p = x * z - p * (x * z / p) := by omega
        rw [this]; grind
      show p ∣ x - y * ((x * z) % p)
      rw [e2]
      exact Int.dvd_add (Int.dvd_neg.2 (Int.dvd_mul_of_dvd_right hz)) (Int.dvd_mul_right _ _)
/-- Congruence. -/
def cg (p x y : Int) : Prop := p ∣ x - y
theorem cg_r (p x : Int) : cg p x x := by unfold cg; simp
theorem cg_a {p x x' y y' : Int} (h : cg p x x') (h' : cg p y y') : cg p (x + y) (x' + y') := by
  unfold cg at *; rw [show x + y - (x' + y') = (x - x') + (y - y') by omega]; exact Int.dvd_add h h'
theorem cg_m {p x x' y y' : Int} (h : cg p x x') (h' : cg p y y') : cg p (x * y) (x' * y') := by
  unfold cg at *; rw [show x * y - x' * y' = x * (y - y') + (x - x') * y' by grind]; exact Int.dvd_add (Int.dvd_mul_of_dvd_right h') (Int.dvd_mul_of_dvd_left h)
theorem cg_d {p x y : Int} (h : cg p x y) : p ∣ x ↔ p ∣ y := by
  unfold cg at h
  constructor
  · intro hx; rw [show y = x - (x - y) by omega]; exact Int.dvd_sub hx h
  · intro hy; rw [show x = y + (x - y) by omega]; exact Int.dvd_add hy h
theorem dv_l {p l x : Int} (hp : prm p = true) (hl : ¬ p ∣ l) : p ∣ l * x ↔ p ∣ x := ⟨fun h => (prm_dvd_mul hp h).resolve_left hl, Int.dvd_mul_of_dvd_right⟩
theorem ge1_pt {p a b c d l x y u v : Int} (hp : prm p = true) (hl : ¬ p ∣ l) (hx : cg p x (l * u)) (hy : cg p y (l * v)) : ge1 p a b c d x y ↔ ge1 p a b c d u v := by
  have h : cg p (vx a b c d x y) (vx a b c d (l * u) (l * v)) := by
    unfold vx
    exact cg_a (cg_a (cg_a (cg_m (cg_m (cg_m (cg_r _ _) hx) hx) hx) (cg_m (cg_m (cg_m (cg_r _ _) hx) hx) hy)) (cg_m (cg_m (cg_m (cg_r _ _) hx) hy) hy)) (cg_m (cg_m (cg_m (cg_r _ _) hy) hy) hy)
  rw [ge1, cg_d h, show vx a b c d (l * u) (l * v) = l * (l * (l * vx a b c d u v)) by unfold vx; grind, dv_l hp hl, dv_l hp hl, dv_l hp hl, ge1]
theorem q_pt {p A B C l x y u v : Int} (hp : prm p = true) (hl : ¬ p ∣ l) (hx : cg p x (l * u)) (hy : cg p y (l * v)) : p ∣ A * x * x + B * x * y + C * y * y ↔ p ∣ A * u * u + B * u * v + C * v * v := by
  have h : cg p (A * x * x + B * x * y + C * y * y) (A * (l * u) * (l * u) + B * (l * u) * (l * v) + C * (l * v) * (l * v)) :=
    cg_a (cg_a (cg_m (cg_m (cg_r _ _) hx) hx) (cg_m (cg_m (cg_r _ _) hx) hy)) (cg_m (cg_m (cg_r _ _) hy) hy)
  rw [cg_d h, show A * (l * u) * (l * u) + B * (l * u) * (l * v) + C * (l * v) * (l * v) = l * (l * (A * u * u + B * u * v + C * v * v)) by grind, dv_l hp hl, dv_l hp hl]
theorem l_pt {p A B l x y u v : Int} (hp : prm p = true) (hl : ¬ p ∣ l) (hx : cg p x (l * u)) (hy : cg p y (l * v)) : p ∣ A * x + B * y ↔ p ∣ A * u + B * v := by
  have h : cg p (A * x + B * y) (A * (l * u) + B * (l * v)) := cg_a (cg_m (cg_r _ _) hx) (cg_m (cg_r _ _) hy)
  rw [cg_d h, show A * (l * u) + B * (l * v) = l * (A * u + B * v) by grind, dv_l hp hl]
theorem ge2_pt {p a b c d l x y u v : Int} (hp : prm p = true) (hl : ¬ p ∣ l) (hx : cg p x (l * u)) (hy : cg p y (l * v)) : ge2 p a b c d x y ↔ ge2 p a b c d u v := by
  rw [ge2, ge2, ge1_pt hp hl hx hy, q_pt hp hl hx hy, q_pt hp hl hx hy]
theorem ge3_pt {p a b c d l x y u v : Int} (hp : prm p = true) (hl : ¬ p ∣ l) (hx : cg p x (l * u)) (hy : cg p y (l * v)) : ge3 p a b c d x y ↔ ge3 p a b c d u v := by
  rw [ge3, ge3, ge2_pt hp hl hx hy, l_pt hp hl hx hy, l_pt hp hl hx hy, l_pt hp hl hx hy]
/-- The points, one by one. -/
theorem pt_is {p : Int} {q : Int × Int} (h : q ∈ ptm p) : (q.2 = 1 ∧ 0 ≤ q.1 ∧ q.1 < p) ∨ q = (1, 0) := by
  unfold ptm at h
  rcases List.mem_append.1 h with h | h
  · obtain ⟨k, hk, rfl⟩ := List.mem_map.1 h
    have := List.mem_range.1 hk
    exact .inl ⟨rfl, by simp, by simp only; omega⟩
  · exact .inr (by simpa using h)
theorem mu1_pt {p a b c d : Int} {q : Int × Int} (h : q ∈ ptm p) : 1 ≤ mmu p a b c d q.1 q.2 ↔ ge1 p a b c d q.1 q.2 := by
  rcases pt_is h with ⟨e, _⟩ | e
  · rw [e]; exact mu1_f
  · rw [e]; exact mu1_i
theorem mu2_pt {p a b c d : Int} {q : Int × Int} (h : q ∈ ptm p) : 2 ≤ mmu p a b c d q.1 q.2 ↔ ge2 p a b c d q.1 q.2 := by
  rcases pt_is h with ⟨e, _⟩ | e
  · rw [e]; exact mu2_f
  · rw [e]; exact mu2_i
theorem mu3_pt {p a b c d : Int} {q : Int × Int} (h : q ∈ ptm p) : 3 ≤ mmu p a b c d q.1 q.2 ↔ ge3 p a b c d q.1 q.2 := by
  rcases pt_is h with ⟨e, _⟩ | e
  · rw [e]; exact mu3_f
  · rw [e]; exact mu3_i
theorem pt_ne {p : Int} (hp : prm p = true) {q : Int × Int} (h : q ∈ ptm p) : ¬ (p ∣ q.1 ∧ p ∣ q.2) := by
  obtain ⟨h2, _⟩ := prm_rng hp
  rintro ⟨d1, d2⟩
  rcases pt_is h with ⟨e, _⟩ | e
  · rw [e] at d2; have := Int.le_of_dvd (by omega) d2; omega
  · rw [e] at d1; have := Int.le_of_dvd (by omega) d1; omega
theorem pt_eq {p : Int} (hp : prm p = true) {q q' : Int × Int} (h : q ∈ ptm p) (h' : q' ∈ ptm p) (hd : p ∣ q.1 * q'.2 - q'.1 * q.2) : q = q' := by
  obtain ⟨h2, _⟩ := prm_rng hp
  rcases pt_is h with ⟨e, h0, h1⟩ | e <;> rcases pt_is h' with ⟨e', h0', h1'⟩ | e'
  · rw [e, e'] at hd
    have : q.1 - q'.1 = 0 := by
      rcases Int.lt_trichotomy (q.1 - q'.1) 0 with g | g | g
      · have := Int.le_of_dvd (a := p) (b := -(q.1 - q'.1)) (by omega) (Int.dvd_neg.2 (by simpa using hd)); omega
      · exact g
      · have := Int.le_of_dvd (a := p) (b := q.1 - q'.1) (by omega) (by simpa using hd); omega
    exact Prod.ext (by omega) (e.trans e'.symm)
  · rw [e, e'] at hd; have := Int.le_of_dvd (a := p) (b := 1) (by omega) (Int.dvd_neg.1 (by simpa using hd)); omega
  · rw [e, e'] at hd; have := Int.le_of_dvd (a := p) (b := 1) (by omega) (by simpa using hd); omega
  · rw [e, e']
/-- A list whose members have different images in another one is not longer. -/
theorem len_le {α β : Type} [DecidableEq β] (Rl : α → β → Prop) : ∀ (L : List α) (M : List β), L.Nodup → (∀ x ∈ L, ∃ y ∈ M, Rl x y) → (∀ x ∈ L, ∀ x' ∈ L, ∀ y, Rl x y → Rl x' y → x = x') → L.length ≤ M.length := by
  intro L
  induction L with
  | nil => intro M _ _ _; simp
  | cons x L ih =>
    intro M hn hm hi
    obtain ⟨y, hy, hr⟩ := hm x List.mem_cons_self
    rw [List.nodup_cons] at hn
    have := ih (M.erase y) hn.2 (fun x' hx' => by
      obtain ⟨y', hy', hr'⟩ := hm x' (List.mem_cons_of_mem _ hx')
      refine ⟨y', ?_, hr'⟩
      refine (List.mem_erase_of_ne fun e => ?_).2 hy'
      subst e
      exact hn.1 (hi x List.mem_cons_self x' (List.mem_cons_of_mem _ hx') _ hr hr' ▸ hx')) (fun x1 h1 x2 h2 => hi x1 (List.mem_cons_of_mem _ h1) x2 (List.mem_cons_of_mem _ h2))
    rw [List.length_erase_of_mem hy] at this
    have := List.length_pos_of_mem hy
    simp only [List.length_cons]
    omega
theorem ptm_nodup (p : Int) : (ptm p).Nodup := by
  unfold ptm ptl
  rw [List.nodup_append]
  refine ⟨?_, by simp, ?_⟩
  · unfold List.Nodup
    rw [List.pairwise_map]
    exact List.nodup_range.imp fun h e => h (by have := (Prod.mk.inj e).1; omega)
  · intro x hx y hy e
    obtain ⟨k, _, rfl⟩ := List.mem_map.1 hx
    simp at hy; subst hy; simp at e
/-- The points at which a form has the value 0. -/
def zpt (a b c d p : Int) : List (Int × Int) := (ptm p).filter fun q => decide (1 ≤ mmu p a b c d q.1 q.2)
theorem zpt_le {p a b c d P Q R S g : Int} (hp : prm p = true) (hg : g = P * S - Q * R) (h1 : g = 1 ∨ g = -1) :
    (zpt (cA a b c d P R) (cB a b c d P Q R S) (cC a b c d P Q R S) (cA a b c d Q S) p).length ≤ (zpt a b c d p).length := by
  have hgp : ¬ p ∣ g := fun h => by
    obtain ⟨h2, _⟩ := prm_rng hp
    rcases h1 with e | e <;> rw [e] at h
    · have := Int.le_of_dvd (by omega) h; omega
    · have := Int.le_of_dvd (by omega) (Int.dvd_neg.1 h); omega
  refine len_le (fun q q' => ∃ l, ¬ p ∣ l ∧ cg p (P * q.1 + Q * q.2) (l * q'.1) ∧ cg p (R * q.1 + S * q.2) (l * q'.2)) _ _ ((ptm_nodup p).filter _) (fun q hq => ?_) (fun q hq q' hq' y hy hy' => ?_)
  · obtain ⟨hq, hm⟩ := List.mem_filter.1 hq
    rw [decide_eq_true_eq, mu1_pt hq, ge1_ch] at hm
    obtain ⟨z, hz, l, hl, hx, hy⟩ := pt_of hp (x := P * q.1 + Q * q.2) (y := R * q.1 + S * q.2) (fun ⟨d1, d2⟩ => by
      refine pt_ne hp hq ⟨?_, ?_⟩
      · refine (dv_l hp hgp).1 ?_
        rw [show g * q.1 = S * (P * q.1 + Q * q.2) - Q * (R * q.1 + S * q.2) by rw [hg]; grind]
        exact Int.dvd_sub (Int.dvd_mul_of_dvd_right d1) (Int.dvd_mul_of_dvd_right d2)
      · refine (dv_l hp hgp).1 ?_
        rw [show g * q.2 = P * (R * q.1 + S * q.2) - R * (P * q.1 + Q * q.2) by rw [hg]; grind]
        exact Int.dvd_sub (Int.dvd_mul_of_dvd_right d2) (Int.dvd_mul_of_dvd_right d1))
    refine ⟨z, List.mem_filter.2 ⟨hz, ?_⟩, l, hl, hx, hy⟩
    rw [decide_eq_true_eq, mu1_pt hz]
    exact (ge1_pt hp hl hx hy).1 hm
  · obtain ⟨hq, _⟩ := List.mem_filter.1 hq
    obtain ⟨hq', _⟩ := List.mem_filter.1 hq'
    obtain ⟨l, _, a1, a2⟩ := hy
    obtain ⟨l', _, b1, b2⟩ := hy'
    refine pt_eq hp hq hq' ((dv_l hp hgp).1 ?_)
    have e := cg_a (cg_m a1 b2) (cg_m (cg_r p (-1)) (cg_m b1 a2))
    rw [show l * y.1 * (l' * y.2) + -1 * (l' * y.1 * (l * y.2)) = 0 by grind] at e
    rw [show g * (q.1 * q'.2 - q'.1 * q.2) = (P * q.1 + Q * q.2) * (R * q'.1 + S * q'.2) + -1 * ((P * q'.1 + Q * q'.2) * (R * q.1 + S * q.2)) by rw [hg]; grind]
    exact (cg_d e).2 (Int.dvd_zero p)
/-- Multiplicities met. -/
theorem mult_ch {p a b c d P Q R S g : Int} (k : Nat) (hk : k = 2 ∨ k = 3) (hp : prm p = true) (hg : g = P * S - Q * R) (h1 : g = 1 ∨ g = -1) (h : ∃ q ∈ ptm p, k ≤ mmu p a b c d q.1 q.2) :
    ∃ q ∈ ptm p, k ≤ mmu p (cA a b c d P R) (cB a b c d P Q R S) (cC a b c d P Q R S) (cA a b c d Q S) q.1 q.2 := by
  obtain ⟨q, hq, hm⟩ := h
  have hgg : g * g = 1 := by rcases h1 with rfl | rfl <;> rfl
  have ex : P * (g * (S * q.1 - Q * q.2)) + Q * (g * (P * q.2 - R * q.1)) = q.1 := by
    rw [show P * (g * (S * q.1 - Q * q.2)) + Q * (g * (P * q.2 - R * q.1)) = g * (P * S - Q * R) * q.1 by grind, ← hg, hgg, Int.one_mul]
  have ey : R * (g * (S * q.1 - Q * q.2)) + S * (g * (P * q.2 - R * q.1)) = q.2 := by
    rw [show R * (g * (S * q.1 - Q * q.2)) + S * (g * (P * q.2 - R * q.1)) = g * (P * S - Q * R) * q.2 by grind, ← hg, hgg, Int.one_mul]
  obtain ⟨z, hz, l, hl, hx, hy⟩ := pt_of hp (x := g * (S * q.1 - Q * q.2)) (y := g * (P * q.2 - R * q.1)) (fun ⟨d1, d2⟩ => pt_ne hp hq ⟨by
    rw [← ex]; exact Int.dvd_add (Int.dvd_mul_of_dvd_right d1) (Int.dvd_mul_of_dvd_right d2), by
    rw [← ey]; exact Int.dvd_add (Int.dvd_mul_of_dvd_right d1) (Int.dvd_mul_of_dvd_right d2)⟩)
  refine ⟨z, hz, ?_⟩
  rcases hk with rfl | rfl
  · rw [mu2_pt hq] at hm
    rw [mu2_pt hz]
    exact (ge2_pt hp hl hx hy).1 (ge2_ch (by rw [ex, ey]; exact hm))
  · rw [mu3_pt hq] at hm
    rw [mu3_pt hz]
    exact (ge3_pt hp hl hx hy).1 (ge3_ch (by rw [ex, ey]; exact hm))
/-- The program's multiplicities are these. -/
theorem mlt_pt {p a b c d : Int} (hF : isF a b c d = true) (hp : prm p = true) (hN : mul0 (cnt a b c d) p = false) {q : Int × Int} (hq : q ∈ ptm p) : mlt p q.1 q.2 4 [a, b, c, d] = mmu p a b c d q.1 q.2 := by
  obtain ⟨ha, hb, hc, hd⟩ := isF_t hF
  obtain ⟨h2, h97⟩ := prm_rng hp
  rcases pt_is hq with ⟨e, h0, h1⟩ | e
  · rw [e]; exact (mlt_1 ha hb hc hd (by omega) hN).1
  · rw [e]; exact (mlt_0 ha hb hc hd hN).1
theorem rts_len {p : Int} {L : List Int} {m : Int × Int → Nat} : ∀ P : List (Int × Int), (∀ q ∈ P, mlt p q.1 q.2 4 L = m q) → (rts p L P).length = (P.filter fun q => decide (1 ≤ m q)).length := by
  intro P
  induction P with
  | nil => intro _; rfl
  | cons q P ih =>
    intro h
    have h0 := h q List.mem_cons_self
    have hi := ih fun x hx => h x (List.mem_cons_of_mem _ hx)
    unfold rts at hi ⊢
    rw [List.flatMap_cons, List.length_append, hi, List.filter_cons]
    unfold rt1
    rw [h0]
    by_cases e : m q = 0
    · simp [e]
    · simp [e, show 1 ≤ m q by omega]; omega
theorem rtp_zpt {p a b c d : Int} (hF : isF a b c d = true) (hp : prm p = true) (hN : mul0 (cnt a b c d) p = false) : (rtp a b c d p).length = (zpt a b c d p).length :=
  rts_len (m := fun q => mmu p a b c d q.1 q.2) (ptm p) fun _ hq => mlt_pt hF hp hN hq
theorem mxt_k {p a b c d : Int} (k : Nat) (hk : 1 ≤ k) (hF : isF a b c d = true) (hp : prm p = true) (hN : mul0 (cnt a b c d) p = false) : (k : Int) ≤ mxt (rtp a b c d p) ↔ ∃ q ∈ ptm p, k ≤ mmu p a b c d q.1 q.2 := by
  constructor
  · intro h
    refine Classical.byContradiction fun hn => ?_
    have := mx_of (rtp a b c d p) 0 (k - 1 : Int) (by omega) fun r hr => by
      unfold rtp rts at hr
      obtain ⟨q, hq, hr⟩ := List.mem_flatMap.1 hr
      have hm : ¬ k ≤ mmu p a b c d q.1 q.2 := fun h' => hn ⟨q, hq, h'⟩
      unfold rt1 at hr
      split at hr
      · simp at hr
      · simp at hr; subst hr; simp only; rw [mlt_pt hF hp hN hq]; omega
    unfold mxt at h
    omega
  · rintro ⟨q, hq, h⟩
    have hr : (q.1, q.2, ((mmu p a b c d q.1 q.2 : Nat) : Int)) ∈ rtp a b c d p := by
      unfold rtp rts
      refine List.mem_flatMap.2 ⟨q, hq, ?_⟩
      unfold rt1
      rw [mlt_pt hF hp hN hq, if_neg (by omega)]
      simp
    have := (mx_ge (rtp a b c d p) 0).2 _ hr
    simp only at this
    unfold mxt
    omega
theorem mul0_ch {p a b c d P Q R S : Int} (h : mul0 (cnt a b c d) p = true) : mul0 (cnt (cA a b c d P R) (cB a b c d P Q R S) (cC a b c d P Q R S) (cA a b c d Q S)) p = true := by
  rw [mul0_d, decide_eq_true_eq, cnt_dvd] at h ⊢
  obtain ⟨h0, h1, h2, h3⟩ := h
  have m : ∀ {x y : Int}, p ∣ x → p ∣ x * y := fun h => Int.dvd_mul_of_dvd_left h
  refine ⟨?_, ?_, ?_, ?_⟩
  · rw [show cA a b c d P R = a * (P * P * P) + b * (P * P * R) + c * (P * R * R) + d * (R * R * R) by unfold cA vx; grind]
    exact Int.dvd_add (Int.dvd_add (Int.dvd_add (m h0) (m h1)) (m h2)) (m h3)
  · rw [show cB a b c d P Q R S = a * (3 * P * P * Q) + b * (2 * P * Q * R + P * P * S) + c * (Q * R * R + 2 * P * R * S) + d * (3 * R * R * S) by unfold cB; grind]
    exact Int.dvd_add (Int.dvd_add (Int.dvd_add (m h0) (m h1)) (m h2)) (m h3)
  · rw [show cC a b c d P Q R S = a * (3 * P * Q * Q) + b * (2 * P * Q * S + Q * Q * R) + c * (P * S * S + 2 * Q * R * S) + d * (3 * R * S * S) by unfold cC; grind]
    exact Int.dvd_add (Int.dvd_add (Int.dvd_add (m h0) (m h1)) (m h2)) (m h3)
  · rw [show cA a b c d Q S = a * (Q * Q * Q) + b * (Q * Q * S) + c * (Q * S * S) + d * (S * S * S) by unfold cA vx; grind]
    exact Int.dvd_add (Int.dvd_add (Int.dvd_add (m h0) (m h1)) (m h2)) (m h3)
theorem inv_det {P Q R S g : Int} (hg : g = P * S - Q * R) (h1 : g = 1 ∨ g = -1) : g = (g * S) * (g * P) - (-(g * Q)) * (-(g * R)) := by
  rw [show (g * S) * (g * P) - (-(g * Q)) * (-(g * R)) = g * g * (P * S - Q * R) by grind, ← hg, sq_one h1, Int.one_mul]
/-- A form changed by a unit matrix has the same kind. -/
theorem kdn_ch {p a b c d P Q R S g : Int} (hF : isF a b c d = true) (hF' : isF (cA a b c d P R) (cB a b c d P Q R S) (cC a b c d P Q R S) (cA a b c d Q S) = true) (hp : prm p = true) (hg : g = P * S - Q * R) (h1 : g = 1 ∨ g = -1) :
    kdn (cA a b c d P R) (cB a b c d P Q R S) (cC a b c d P Q R S) (cA a b c d Q S) p = kdn a b c d p := by
  obtain ⟨b0, b1, b2, b3⟩ := back_1 (a := a) (b := b) (c := c) (d := d) hg h1
  have m0 := mul0_ch (p := p) (a := a) (b := b) (c := c) (d := d) (P := P) (Q := Q) (R := R) (S := S)
  have l0 := zpt_le (a := a) (b := b) (c := c) (d := d) hp hg h1
  have k0 := fun k hk => mult_ch (a := a) (b := b) (c := c) (d := d) k hk hp hg h1
  generalize cA a b c d P R = A at *
  generalize cB a b c d P Q R S = B at *
  generalize cC a b c d P Q R S = C at *
  generalize cA a b c d Q S = D at *
  have m1 := mul0_ch (p := p) (a := A) (b := B) (c := C) (d := D) (P := g * S) (Q := -(g * Q)) (R := -(g * R)) (S := g * P)
  have l1 := zpt_le (a := A) (b := B) (c := C) (d := D) hp (inv_det hg h1) h1
  have k1 := fun k hk => mult_ch (a := A) (b := B) (c := C) (d := D) k hk hp (inv_det hg h1) h1
  rw [b0, b1, b2, b3] at m1 l1 k1
  unfold kdn
  cases hN : mul0 (cnt a b c d) p with
  | true => simp [m0 hN]
  | false =>
    have hN' : mul0 (cnt A B C D) p = false := by
      cases h : mul0 (cnt A B C D) p with
      | false => rfl
      | true => rw [m1 h] at hN; exact absurd hN (by simp)
    simp only [hN']
    rw [kd_eq (rtp_pw hF hp hN) (rtp_3 hF hp hN), kd_eq (rtp_pw hF' hp hN') (rtp_3 hF' hp hN')]
    have e3 : (3 : Int) ≤ mxt (rtp A B C D p) ↔ (3 : Int) ≤ mxt (rtp a b c d p) := ((mxt_k 3 (by omega) hF' hp hN').trans ⟨k1 3 (.inr rfl), k0 3 (.inr rfl)⟩).trans (mxt_k 3 (by omega) hF hp hN).symm
    have e2 : (2 : Int) ≤ mxt (rtp A B C D p) ↔ (2 : Int) ≤ mxt (rtp a b c d p) := ((mxt_k 2 (by omega) hF' hp hN').trans ⟨k1 2 (.inl rfl), k0 2 (.inl rfl)⟩).trans (mxt_k 2 (by omega) hF hp hN).symm
    have t : mxt (rtp A B C D p) ≤ 3 := mx_of _ _ _ (by omega) fun r hr => (rtp_3 hF' hp hN' r hr).2
    have t' : mxt (rtp a b c d p) ≤ 3 := mx_of _ _ _ (by omega) fun r hr => (rtp_3 hF hp hN r hr).2
    have el : (rtp A B C D p).length = (rtp a b c d p).length := by rw [rtp_zpt hF hp hN, rtp_zpt hF' hp hN']; omega
    simp only [kdm, el, show (mxt (rtp A B C D p) = 3) = (mxt (rtp a b c d p) = 3) by apply propext; omega]
    by_cases h3 : mxt (rtp a b c d p) = 3
    · simp [h3]
    · simp only [h3, if_false, show (mxt (rtp A B C D p) = 2) = (mxt (rtp a b c d p) = 2) by apply propext; omega]


end Go.Proofs.YtgdbnaabbaimjaaDoor

/- What FnPromiseOfAll asks of forms changed by unit matrices: mathematics. -/
namespace Go.Proofs.YtgdbnaabbaimjaaDoor
open Go.RowKit

theorem dq_dvd_gcd {g a b c d : Int} (h0 : g ∣ a) (h1 : g ∣ b) (h2 : g ∣ c) (h3 : g ∣ d) : g ∣ cnt a b c d := cnt_dvd.2 ⟨h0, h1, h2, h3⟩
theorem cnt_dv (a b c d : Int) : cnt a b c d ∣ a ∧ cnt a b c d ∣ b ∧ cnt a b c d ∣ c ∧ cnt a b c d ∣ d := cnt_dvd.1 (Int.dvd_refl _)
theorem cnt_ch1 {a b c d P Q R S : Int} : cnt a b c d ∣ cnt (cA a b c d P R) (cB a b c d P Q R S) (cC a b c d P Q R S) (cA a b c d Q S) := by
  have h := mul0_ch (p := cnt a b c d) (a := a) (b := b) (c := c) (d := d) (P := P) (Q := Q) (R := R) (S := S) (by rw [mul0_d]; simp)
  rw [mul0_d, decide_eq_true_eq] at h
  exact h
/-- Contents do not change under unit matrices. -/
theorem cnt_ch {a b c d P Q R S g : Int} (hg : g = P * S - Q * R) (h1 : g = 1 ∨ g = -1) : cnt (cA a b c d P R) (cB a b c d P Q R S) (cC a b c d P Q R S) (cA a b c d Q S) = cnt a b c d := by
  obtain ⟨b0, b1, b2, b3⟩ := back_1 (a := a) (b := b) (c := c) (d := d) hg h1
  have m0 := cnt_ch1 (a := a) (b := b) (c := c) (d := d) (P := P) (Q := Q) (R := R) (S := S)
  generalize cA a b c d P R = A at *
  generalize cB a b c d P Q R S = B at *
  generalize cC a b c d P Q R S = C at *
  generalize cA a b c d Q S = D at *
  have m1 := cnt_ch1 (a := A) (b := B) (c := C) (d := D) (P := g * S) (Q := -(g * Q)) (R := -(g * R)) (S := g * P)
  rw [b0, b1, b2, b3] at m1
  exact Int.dvd_antisymm (gcd_nn _ _) (gcd_nn _ _) m1 m0
/-- Nor do discriminants. -/
theorem dsc_ch1 {a b c d P Q R S g : Int} (hg : g = P * S - Q * R) (h1 : g = 1 ∨ g = -1) : dsc (cA a b c d P R) (cB a b c d P Q R S) (cC a b c d P Q R S) (cA a b c d Q S) = dsc a b c d := by
  rw [dsc_wr, dsc_wr, disc_ch a b c d P Q R S g hg]
  have hs := sq_one h1
  rw [show dx a b c d * g * g * g * g * g * g = dx a b c d * ((g * g) * (g * g) * (g * g)) by grind, hs]
  simp
theorem hw1 (a b c : Int) : h1 a b c = wrap64 (hP a b c) := by simp only [h1, hs1, hP]
theorem hw2 (a b c d : Int) : h2 a b c d = wrap64 (hQ a b c d) := by simp only [h2, hs2, hQ]
theorem hw3 (b c d : Int) : h3 b c d = wrap64 (hR b c d) := by simp only [h3, hs3, hR]
/-- The Hessian of a form changed by a unit matrix is the changed Hessian. -/
theorem hes_ch {a b c d P Q R S g : Int} (hg : g = P * S - Q * R) (h1' : g = 1 ∨ g = -1) :
    qv (h1 a b c) (h2 a b c d) (h3 b c d) P R = h1 (cA a b c d P R) (cB a b c d P Q R S) (cC a b c d P Q R S) ∧
    qm (h1 a b c) (h2 a b c d) (h3 b c d) P Q R S = h2 (cA a b c d P R) (cB a b c d P Q R S) (cC a b c d P Q R S) (cA a b c d Q S) ∧
    qv (h1 a b c) (h2 a b c d) (h3 b c d) Q S = h3 (cB a b c d P Q R S) (cC a b c d P Q R S) (cA a b c d Q S) := by
  have hs := sq_one h1'
  rw [hw1, hw2, hw3, hw1, hw2, hw3, hess_P, hess_Q, hess_R, ← hg, hs]
  simp only [Int.one_mul]
  refine ⟨?_, ?_, ?_⟩
  · simp only [qv, pl, mu, wr_al, wr_ar, wr_ml]
  · simp only [qm, pl, mu, wr_al, wr_ar, wr_ml, wr_mr]
  · simp only [qv, pl, mu, wr_al, wr_ar, wr_ml]

theorem chc_is {a b c d P Q R S : Int} (h : chc a b c d P Q R S = 0) : isF a b c d = true ∧ isF P Q R S = true ∧ isF (cA a b c d P R) (cB a b c d P Q R S) (cC a b c d P Q R S) (cA a b c d Q S) = true := chc_0 h
/-- All that is asked of the forms, by the answers of the calls. -/
theorem pr_eq {a b c d P Q R S g p n0 n1 n2 n3 : Int} (h : chc a b c d P Q R S = 0) (hg : g = P * S - Q * R) (hu : g = 1 ∨ g = -1) (e0 : n0 = cA a b c d P R) (e1 : n1 = cB a b c d P Q R S) (e2 : n2 = cC a b c d P Q R S) (e3 : n3 = cA a b c d Q S) :
    dsc0 n0 n1 n2 n3 = dsc0 a b c d ∧ ifF n0 n1 n2 n3 (cnt n0 n1 n2 n3) = ifF a b c d (cnt a b c d) ∧ cif a b c d = 0 ∧ cif n0 n1 n2 n3 = 0 ∧
    cqc (ifF a b c d (h1 a b c)) (ifF a b c d (h2 a b c d)) (ifF a b c d (h3 b c d)) P Q R S = 0 ∧
    qv (ifF a b c d (h1 a b c)) (ifF a b c d (h2 a b c d)) (ifF a b c d (h3 b c d)) P R = ifF n0 n1 n2 n3 (h1 n0 n1 n2) ∧
    qm (ifF a b c d (h1 a b c)) (ifF a b c d (h2 a b c d)) (ifF a b c d (h3 b c d)) P Q R S = ifF n0 n1 n2 n3 (h2 n0 n1 n2 n3) ∧
    qv (ifF a b c d (h1 a b c)) (ifF a b c d (h2 a b c d)) (ifF a b c d (h3 b c d)) Q S = ifF n0 n1 n2 n3 (h3 n1 n2 n3) ∧
    kmv n0 n1 n2 n3 p = kmv a b c d p ∧ fpc n0 n1 n2 n3 p = fpc a b c d p := by
  obtain ⟨hf, hm, hn⟩ := chc_is h
  obtain ⟨q1, q2, q3⟩ := hes_ch (a := a) (b := b) (c := c) (d := d) hg hu
  have qd := dsc_ch1 (a := a) (b := b) (c := c) (d := d) hg hu
  have qc := cnt_ch (a := a) (b := b) (c := c) (d := d) hg hu
  have qk := fun hp : prm p = true => kdn_ch hf hn hp hg hu
  rw [← e0, ← e1, ← e2, ← e3] at hn qd qc q2 qk
  rw [← e0, ← e1, ← e2] at q1
  rw [← e1, ← e2, ← e3] at q3
  obtain ⟨b1, b2, b3⟩ := h_bd hf
  obtain ⟨c1, c2, c3⟩ := h_bd hn
  have hfp : fpc n0 n1 n2 n3 p = fpc a b c d p := by simp [fpc, hf, hn]
  refine ⟨by simp [dsc0, hf, hn, qd], by simp [ifF, hf, hn, qc], by simp [cif, hf], by simp [cif, hn], ?_, ?_, ?_, ?_, ?_, hfp⟩
  · have k1 := isQ_mk (a := h1 a b c) (b := h2 a b c d) (c := h3 b c d) (by omega) (by omega) (by omega)
    have k2 := isQ_mk (a := h1 n0 n1 n2) (b := h2 n0 n1 n2 n3) (c := h3 n1 n2 n3) (by omega) (by omega) (by omega)
    simp [ifF, hf, cqc, q1, q2, q3, k1, k2, hm]
  · simp [ifF, hf, hn, q1]
  · simp [ifF, hf, hn, q2]
  · simp [ifF, hf, hn, q3]
  · unfold kmv
    rw [hfp]
    by_cases hz : fpc a b c d p = 0
    · simp only [hz, if_true]; exact qk (fpc_0.1 hz).2
    · simp [hz]
/-- Values of changed forms. -/
theorem pv_eq {a b c d P Q R S x y n0 n1 n2 n3 : Int} (h : chc a b c d P Q R S = 0) (e0 : n0 = cA a b c d P R) (e1 : n1 = cB a b c d P Q R S) (e2 : n2 = cC a b c d P Q R S) (e3 : n3 = cA a b c d Q S) (hx : -100000 ≤ x ∧ x ≤ 100000) (hy : -100000 ≤ y ∧ y ≤ 100000)
    (h1 : plc n0 n1 n2 n3 x y = 0) (h2 : plc a b c d (pl (mu P x) (mu Q y)) (pl (mu R x) (mu S y)) = 0) : va0 n0 n1 n2 n3 x y = va0 a b c d (pl (mu P x) (mu Q y)) (pl (mu R x) (mu S y)) := by
  obtain ⟨hf, hm, hn⟩ := chc_is h
  obtain ⟨hP, hQ, hR, hS⟩ := isF_t hm
  have m : ∀ {u v : Int}, (-1000 ≤ u ∧ u ≤ 1000) → (-100000 ≤ v ∧ v ≤ 100000) → -100000000 ≤ u * v ∧ u * v ≤ 100000000 := fun hu hv => by
    have := mulb hu hv; simp only [Int.reduceMul] at this; exact this
  have b1 := m hP hx; have b2 := m hQ hy; have b3 := m hR hx; have b4 := m hS hy
  have E1 : pl (mu P x) (mu Q y) = P * x + Q * y := by
    simp only [pl, mu, wr_al, wr_ar]; exact wr_in (by omega)
  have E2 : pl (mu R x) (mu S y) = R * x + S * y := by
    simp only [pl, mu, wr_al, wr_ar]; exact wr_in (by omega)
  rw [E1, E2] at h2 ⊢
  unfold va0
  rw [if_pos h1, if_pos h2, vl_wr, vl_wr, e0, e1, e2, e3, val_ch]


end Go.Proofs.YtgdbnaabbaimjaaDoor
