/- Chapter 5: quotients of forms of any degree, the program's. -/
import Derived.Test.YtdogkkmdccieiaaDoorZ5
namespace Go.Proofs.YtdogkkmdccieiaaDoor
open Go.RowKit

def ngK (L : List Int) (k : Nat) : List Int := ((L.drop 1).take k).map (fun n => wrap64 (-n))
theorem ngK_s {L : List Int} {n k : Nat} (hL : L.length = n + 1) (h : k < n) : ngK L (k + 1) = ngK L k ++ [wrap64 (-(L.getD (k + 1) 0))] := by
  unfold ngK
  rw [take_succ_getD _ k (by simp; omega)]
  simp [List.getD]
theorem ngK_len {L : List Int} {n k : Nat} (hL : L.length = n + 1) (h : k ≤ n) : (ngK L k).length = k := by
  unfold ngK; simp; omega
theorem ngK_e {L : List Int} {n : Nat} (hL : L.length = n + 1) {x : Int} : ngK L n = dvd L x 0 := by
  unfold ngK dvd; simp; rw [List.take_of_length_le (by simp; omega)]
theorem own_app {w : World} {B : Nat} {t : TypeId} {v : Value} {k : Nat} {M M' : List Int} {z : Int} (hl : M.length = k) (hs : M' = M ++ [z]) (h : w.ownsRow B t 1 v (k + 1) (M.map (Value.int .i64) ++ [.int .i64 z])) : w.ownsRow B t 1 v M'.length (M'.map (Value.int .i64)) := by
  subst hs; simpa [hl] using h
theorem own_len {w : World} {B : Nat} {t : TypeId} {v : Value} {k : Nat} {M : List Int} (hl : M.length = k) (h : w.ownsRow B t 1 v M.length (M.map (Value.int .i64))) : w.ownsRow B t 1 v k (M.map (Value.int .i64)) := by
  subst hl; exact h

set_option maxRecDepth 100000 in
set_option maxHeartbeats 2000000 in
theorem dividedAt_any (v : Value) (L : List Int) (x y : Int) (n : Nat) (w : World) (h : RdP w v L) (hL : L.length = n + 1) (hn : 1 ≤ n) (hn9 : n ≤ 9) :
    Calls Tryd.prog 124 #[v, .agg #[.int .i64 x, .int .i64 y]] w (LstV (dvd L x y).length (fun i => (dvd L x y).getD i 0) w) := by
  obtain ⟨b, cap, rfl, hlc, hcm, hb, hc⟩ := h
  have HC := hid hc
  have HL := hid hL
  obtain ⟨i0, hi, hi0, hi1, hi2⟩ := info_parts info_l64
  have HI := hid hi; have HZ0 := hid hi0; have HZ1 := hid hi1; have HZ2 := hid hi2
  clear hc hi hi0 hi1 hi2
  rw [hL] at hlc ⊢
  clear hL
  unfold maxLen at hcm
  have hX := Bx.new w #[.int .i64 x, .int .i64 y] 132
  have U0 := gr_alloc (Below.refl w.heap.size w) (.cells #[.int .i64 x, .int .i64 y] 132)
  have O0 := World.ownsRow_nil (w.alloc (.cells #[.int .i64 x, .int .i64 y] 132)) w.heap.size 2 1
  have hx0 := hX.cell 0
  have hx1 := hX.cell 1
  by_cases hy : y = 0
  · subst hy
    have HE := hid (@ngK_e L n HL.out x)
    generalize dvd L x 0 = D at HE ⊢
    go_enter Tryd.func124, Tryd.ntmps124
    go_upto_region 1 with fail
    have U1 := gr_drewN U0 1
    clear hX
    go_quiet (fail)
    rename_i nq
    have U1 := hid (gr_drewN U0 nq)
    have O1 := World.ownsRow_nil ((w.alloc (.cells #[.int .i64 x, .int .i64 0] 132)).drewN nq) w.heap.size 2 1
    clear U0 O0 hx0 hx1
    have HO1 := hid O1
    clear O1
    go_wp2
    go_loopw [7, 9, 22] (fun s7 _ s22 wr => ∃ k : Nat, k ≤ n ∧ s22 = .int .i64 ((k : Int)) ∧ wr.ownsRow w.heap.size 2 1 s7 k ((ngK L k).map (Value.int .i64)) ∧ Below w.heap.size w wr) (fun _ _ s22 _ => n - (intOf s22).toNat)
    case atStart => exact ⟨0, Nat.zero_le _, rfl, HO1.out, U1.out⟩
    case round =>
      obtain ⟨k, hk, rfl, hO, hU⟩ := hrel
      have HO := hid hO; have HU := hid hU
      have hv := hU.size
      clear hO hU
      by_cases hlt : k < n
      · have hck : wr.cell? ⟨b, 1 + k, none⟩ = some (.int .i64 (L.getD (k + 1) 0)) := (HU.out.cell (p := ⟨b, 1 + k, none⟩) hb).trans (by rw [Nat.add_comm 1 k]; exact HC.out (k + 1) (by rw [HL.out]; omega))
        have HS := hid (ngK_s HL.out hlt)
        have HN := hid (ngK_len HL.out hk)
        generalize L.getD (k + 1) 0 = q at hck HS
        clear HE HO1 U1
        go_wp2_with (at_builtin; refine wpList_append_own _ rfl _ _ 44 rfl w.heap.size 2 i0 (.int .i64 0) 1 8 Tryd.underlying44 HI.out HZ0.out HZ1.out HZ2.out rfl (by decide) _ _ _ rfl (HO.out.alloc _) ⟨wr.heap.size, 0, none⟩ 1 1 [.int .i64 (wrap64 (-q))] rfl rfl ?a1 ?b1 ?c1 ?d1 ?e1 ?_)
        case a1 =>
          intro j u hj
          match j, hj with
          | 0, hj => simp at hj; subst hj; simp [Addr.add, go_sem]
        case b1 => first | (intro u hu; simp at hu; subst hu; rfl) | rfl | simp [Value.oneCell']
        case c1 => unfold maxLen; omega
        case d1 => omega
        case e1 => first | omega | (simp; omega)
        intro y1 W1 O1 hg1 _
        have HO2 := hid (own_app HN.out HS.out O1)
        have HU1 := hid (gr_own (gr_alloc HU.out _) hg1 (fun j hj => (HO.out.lt j hj).1))
        clear O1 hg1
        go_wp2
        go_roundw
        case rel => exact ⟨k + 1, by omega, by go_num, own_len (ngK_len HL.out (by omega)) HO2.out, HU1.out⟩
        case measure => simp [intOf]; omega
      · have e : k = n := by omega
        subst e
        have HO3 := hid (HE.out ▸ HO.out)
        have HN := hid (show D.length = k by rw [← HE.out]; exact ngK_len HL.out (Nat.le_refl _))
        clear HO
        go_wp2
        go_ret
        exact ⟨_, rfl, OwnV.of_owns (by rw [HN.out]; exact HO3.out), HU.out⟩
  · have HY := hid hy
    have hy' : (y == 0) = false := by simpa using hy
    have HE := hid (@dsK_e x y L n HL.out hy)
    clear hy
    generalize dvd L x y = D at HE ⊢
    go_enter Tryd.func124, Tryd.ntmps124
    go_upto_region 1 with fail
    clear hX
    go_quiet (fail)
    rename_i nq
    have U1 := hid (gr_drewN U0 nq)
    have O1 := World.ownsRow_nil ((w.alloc (.cells #[.int .i64 x, .int .i64 y] 132)).drewN nq) w.heap.size 2 1
    have HO1 := hid O1
    clear U0 O0 hx0 hx1 O1
    go_wp2
    go_loopw [7, 10, 12, 39] (fun s7 s10 _ s39 wr => ∃ k : Nat, k ≤ n ∧ s39 = .int .i64 ((k : Int)) ∧ s10 = .int .i64 ((dsK x y L k).1) ∧ wr.ownsRow w.heap.size 2 1 s7 k ((dsK x y L k).2.map (Value.int .i64)) ∧ Below w.heap.size w wr) (fun _ _ _ s39 _ => n - (intOf s39).toNat)
    case atStart => exact ⟨0, Nat.zero_le _, rfl, rfl, HO1.out, U1.out⟩
    case round =>
      obtain ⟨k, hk, rfl, rfl, hO, hU⟩ := hrel
      have HO := hid hO; have HU := hid hU
      have hv := hU.size
      clear hO hU
      by_cases hlt : k < n
      · have hck : wr.cell? ⟨b, k, none⟩ = some (.int .i64 (L.getD k 0)) := (HU.out.cell (p := ⟨b, k, none⟩) hb).trans (HC.out k (by rw [HL.out]; omega))
        have HS := hid (@dsK_s x y L k (by rw [HL.out]; omega))
        have HN := hid (@dsK_len x y L k (by rw [HL.out]; omega))
        generalize L.getD k 0 = q at hck HS
        generalize (dsK x y L k).1 = s at HS ⊢
        clear HE HO1 U1
        go_wp2_with (at_builtin; refine wpList_append_own _ rfl _ _ 44 rfl w.heap.size 2 i0 (.int .i64 0) 1 8 Tryd.underlying44 HI.out HZ0.out HZ1.out HZ2.out rfl (by decide) _ _ _ rfl (HO.out.alloc _) ⟨wr.heap.size, 0, none⟩ 1 1 [.int .i64 (wrap64 ((pl q (mu x s)).tdiv y))] rfl rfl ?a2 ?b2 ?c2 ?d2 ?e2 ?_)
        case a2 =>
          intro j u hj
          match j, hj with
          | 0, hj => simp at hj; subst hj; simp [Addr.add, go_sem, pl, mu]
        case b2 => first | (intro u hu; simp at hu; subst hu; rfl) | rfl | simp [Value.oneCell']
        case c2 => unfold maxLen; omega
        case d2 => omega
        case e2 => first | omega | (simp; omega)
        intro y1 W1 O1 hg1 _
        have HO2 := hid (own_app HN.out (congrArg Prod.snd HS.out) O1)
        have HU1 := hid (gr_own (gr_alloc HU.out _) hg1 (fun j hj => (HO.out.lt j hj).1))
        clear O1 hg1
        go_wp2
        go_roundw
        case rel => exact ⟨k + 1, by omega, by go_num, by rw [HS.out]; rfl, own_len (dsK_len (by rw [HL.out]; omega)) HO2.out, HU1.out⟩
        case measure => simp [intOf]; omega
      · have e : k = n := by omega
        subst e
        have HO3 := hid (HE.out ▸ HO.out)
        have HN := hid (show D.length = k by rw [← HE.out]; exact dsK_len (by rw [HL.out]; omega))
        clear HO
        go_wp2
        go_ret
        exact ⟨_, rfl, OwnV.of_owns (by rw [HN.out]; exact HO3.out), HU.out⟩


end Go.Proofs.YtdogkkmdccieiaaDoor
