/- Chapter 5: the places that may be rational roots, the program's. -/
import Derived.Test.YtmhlolimaeejfaaDoorZ7
import Derived.Test.YtmhlolimaeejfaaDoorZ8
namespace Go.Proofs.YtmhlolimaeejfaaDoor
open Go.RowKit

/-- The sizes of the first and of the last number that is not 0. -/
def flS (s : Int × Int) (n : Int) : Int × Int := if n = 0 then s else (if s.1 = 0 then (n.natAbs : Int) else s.1, (n.natAbs : Int))
theorem flS_z {F L : Int} : flS (F, L) 0 = (F, L) := by simp [flS]
theorem flS_0 {L n x : Int} (hn : n ≠ 0) (e : (n.natAbs : Int) = x) : flS (0, L) n = (x, x) := by simp [flS, hn, e]
theorem flS_1 {F L n x : Int} (hn : n ≠ 0) (hF : F ≠ 0) (e : (n.natAbs : Int) = x) : flS (F, L) n = (F, x) := by simp [flS, hn, hF, e]
def flK (a b c d : Int) : Nat → Int × Int
  | 0 => (0, 0)
  | 1 => flS (0, 0) a
  | 2 => flS (flS (0, 0) a) b
  | 3 => flS (flS (flS (0, 0) a) b) c
  | _ => flS (flS (flS (flS (0, 0) a) b) c) d
/-- The x of the places over y. -/
def xsK (L y : Int) (i : Nat) : List Int := ((List.range i).map fun j : Nat => (j : Int) - L).filter fun x => (x == 0 || L % x == 0) && ((Int.gcd x y : Int) == 1)
theorem xsK_s (L y : Int) (i : Nat) : xsK L y (i + 1) = xsK L y i ++ (if ((((i : Int) - L) == 0 || L % ((i : Int) - L) == 0) && ((Int.gcd ((i : Int) - L) y : Int) == 1)) = true then [(i : Int) - L] else []) := by
  unfold xsK
  rw [List.range_succ, List.map_append, List.filter_append]
  simp only [List.map_cons, List.map_nil, List.filter_cons, List.filter_nil]
theorem xsK_len (L y : Int) (i : Nat) : (xsK L y i).length ≤ i := by
  have := List.length_filter_le (fun x : Int => (x == 0 || L % x == 0) && ((Int.gcd x y : Int) == 1)) ((List.range i).map fun j : Nat => (j : Int) - L)
  simpa [xsK] using this
def prY (y : Int) (X : List Int) : List (Int × Int) := X.map fun x => (x, y)
def rpY (F L : Int) (j : Nat) : List (Int × Int) := if (F % ((j : Int) + 1) == 0) = true then prY ((j : Int) + 1) (xsK L ((j : Int) + 1) (2 * L + 1).toNat) else []
def rpK (F L : Int) (j : Nat) : List (Int × Int) := (1, 0) :: (List.range j).flatMap (rpY F L)
theorem rpK_s (F L : Int) (j : Nat) : rpK F L (j + 1) = rpK F L j ++ rpY F L j := by
  unfold rpK
  rw [List.range_succ, List.flatMap_append]
  simp
theorem rpK_f {F L : Int} {j : Nat} (h : (F % ((j : Int) + 1) == 0) = false) : rpK F L (j + 1) = rpK F L j := by rw [rpK_s, rpY, h]; simp
theorem rpK_t {F L : Int} {j : Nat} (h : (F % ((j : Int) + 1) == 0) = true) : rpK F L (j + 1) = rpK F L j ++ prY ((j : Int) + 1) (xsK L ((j : Int) + 1) (2 * L + 1).toNat) := by rw [rpK_s, rpY, if_pos h]
theorem rpY_len (F L : Int) (j : Nat) : (rpY F L j).length ≤ (2 * L + 1).toNat := by
  unfold rpY prY
  split
  · rw [List.length_map]; exact xsK_len _ _ _
  · simp
theorem rpK_len (F L : Int) (j : Nat) : (rpK F L j).length ≤ 1 + j * (2 * L + 1).toNat := by
  induction j with
  | zero => simp [rpK]
  | succ j ih =>
    rw [rpK_s, List.length_append, Nat.succ_mul]
    have := rpY_len F L j
    omega
theorem owns_pl1 (w : World) (B : Nat) (t : TypeId) (hB : B ≤ w.heap.size) : (w.alloc (.cells #[.int .i64 1, .int .i64 0] t)).ownsRow B t 2 (.slice (some ⟨w.heap.size, 0, none⟩) 1 1) 1 [.int .i64 1, .int .i64 0] :=
  ⟨by simp, .inr ⟨w.heap.size, 1, #[.int .i64 1, .int .i64 0], rfl, hB, heap_alloc_new w _, Nat.le_refl _, by decide, by simp, by simp⟩⟩
theorem pl_app2 {w : World} {B : Nat} {t : TypeId} {v : Value} {P P' : List (Int × Int)} {x y : Int} (hs : P' = P ++ [(x, y)]) (h : w.ownsRow B t 2 v (P.length + 1) (P.flatMap pr2 ++ [.int .i64 x, .int .i64 y])) : w.ownsRow B t 2 v P'.length (P'.flatMap pr2) := by
  subst hs; simpa [pr2] using h

/-- append(out, place{z, y}): the new place lies in the newest block. -/
theorem app_pl {ops : Array Oper} {rest : List Oper} {o : Oper} {a : Act} {Q : Exit → Act → World → Prop} {w : World} {T : TypeId} (hgd : o.guard = none) (s x : Operand)
    (ho : o.op = .call { callee := .builtin .append, args := #[s, x], argTypes := #[97, 97] }) (base : Nat) {v : Value} {n : Nat} {xs : List Value} (hs : a.eval s = v) (hown : w.ownsRow base 47 2 v n xs)
    {z y : Int} (hx : a.eval x = .slice (some ⟨w.heap.size, 0, none⟩) 1 1) (hn : n ≤ 100000000) (hbase : base ≤ w.heap.size)
    (h : ∀ v' w', w'.ownsRow base 47 2 v' (n + 1) (xs ++ [.int .i64 z, .int .i64 y]) → (w.alloc (.cells #[.int .i64 z, .int .i64 y] T)).grownBy w' v.ownBlock → wpList Tryd.prog ops Q rest (a.put o.dst v') w') : wpList Tryd.prog ops Q (o :: rest) a (w.alloc (.cells #[.int .i64 z, .int .i64 y] T)) := by
  obtain ⟨i0, hi, hi0, hi1, hi2⟩ := info_parts info_pl
  refine wpList_append_own _ hgd s x 97 ho base 47 i0 (.agg #[.int .i64 0, .int .i64 0]) 2 16 Tryd.underlying97 hi hi0 hi1 hi2 rfl (by decide) v n xs hs (hown.alloc _) ⟨w.heap.size, 0, none⟩ 1 1 [.int .i64 z, .int .i64 y] hx rfl ?_ ?_ ?_ ?_ ?_ (fun v' w' h1 h2 _ => h v' w' h1 h2)
  · intro j u hj
    match j, hj with
    | 0, hj => simp at hj; subst hj; simp [Addr.add, go_sem]
    | 1, hj => simp at hj; subst hj; simp [Addr.add, go_sem]
  · intro u hu; simp at hu; rcases hu with rfl | rfl <;> rfl
  · unfold maxLen; omega
  · omega
  · simp; omega

set_option maxRecDepth 100000 in
set_option maxHeartbeats 4000000 in
theorem rationalPlaces_any (a b c d : Int) (f l : Nat) (w : World) (ha : -1000 ≤ a ∧ a ≤ 1000) (hb : -1000 ≤ b ∧ b ≤ 1000) (hc : -1000 ≤ c ∧ c ≤ 1000) (hd : -1000 ≤ d ∧ d ≤ 1000)
    (hfl : flK a b c d 4 = ((f : Int), (l : Int))) (hf : f ≤ 1000) (hl : l ≤ 1000) :
    Calls Tryd.prog 77 #[.agg #[.int .i64 a, .int .i64 b, .int .i64 c, .int .i64 d]] w (PlOut (rpK f l f) w) := by
  have HFL := hid hfl
  clear hfl
  obtain ⟨i0, hi, hi0, hi1, hi2⟩ := info_parts info_pl
  have HI := hid hi; have HZ0 := hid hi0; have HZ1 := hid hi1; have HZ2 := hid hi2
  clear hi hi0 hi1 hi2
  have U0 := gr_alloc (gr_alloc (Below.refl w.heap.size w) (.cells #[.int .i64 a, .int .i64 b, .int .i64 c, .int .i64 d] 26)) (.cells #[.int .i64 1, .int .i64 0] 47)
  have O0 := owns_pl1 (w.alloc (.cells #[.int .i64 a, .int .i64 b, .int .i64 c, .int .i64 d] 26)) w.heap.size 47 (by simp)
  simp only [World.size_alloc] at O0
  have HU0 := hid U0; have HO0 := hid O0
  clear U0 O0
  have i0' : ∀ w : World, (Instr.index 26 (.agg #[.int .i64 a, .int .i64 b, .int .i64 c, .int .i64 d]) (.int .i64 0)).run Tryd.prog w = .ok (.int .i64 a) w := fun _ => by kernel_rfl
  have i1' : ∀ w : World, (Instr.index 26 (.agg #[.int .i64 a, .int .i64 b, .int .i64 c, .int .i64 d]) (.int .i64 1)).run Tryd.prog w = .ok (.int .i64 b) w := fun _ => by kernel_rfl
  have i2' : ∀ w : World, (Instr.index 26 (.agg #[.int .i64 a, .int .i64 b, .int .i64 c, .int .i64 d]) (.int .i64 2)).run Tryd.prog w = .ok (.int .i64 c) w := fun _ => by kernel_rfl
  have i3' : ∀ w : World, (Instr.index 26 (.agg #[.int .i64 a, .int .i64 b, .int .i64 c, .int .i64 d]) (.int .i64 3)).run Tryd.prog w = .ok (.int .i64 d) w := fun _ => by kernel_rfl
  go_enter Tryd.func77, Tryd.ntmps77
  go_wp2_with fail
  go_loop [3, 4, 6, 11] (fun s3 s4 _ s11 => ∃ (k : Nat) (F L : Int), k ≤ 4 ∧ s11 = .int .i64 ((k : Int)) ∧ s3 = .int .i64 F ∧ s4 = .int .i64 L ∧ flK a b c d k = (F, L) ∧ 0 ≤ F ∧ F ≤ 1000 ∧ 0 ≤ L ∧ L ≤ 1000) (fun _ _ _ s11 => 4 - (intOf s11).toNat)
  case atStart => exact ⟨0, 0, 0, Nat.zero_le _, rfl, rfl, rfl, rfl, by omega, by omega, by omega, by omega⟩
  case round =>
    obtain ⟨k, F, L, hk, rfl, rfl, rfl, hq, hF0, hF1, hL0, hL1⟩ := hrel
    have HQ := hid hq
    clear hq
    have hk5 : k = 0 ∨ k = 1 ∨ k = 2 ∨ k = 3 ∨ k = 4 := by omega
    clear hk
    rcases hk5 with rfl | rfl | rfl | rfl | rfl
    · by_cases hn : a = 0
      · have hn' : (a == 0) = true := by simpa using hn
        have HN := hid hn
        clear hn
        go_wp2_with fail
        go_round
        case rel => exact ⟨1, F, L, by omega, by go_num, rfl, rfl, (congrArg (flS · a) HQ.out).trans (by rw [HN.out]; exact flS_z), by omega, by omega, by omega, by omega⟩
        case measure => simp [intOf]
      · have hn' : (a == 0) = false := by simpa using hn
        have HN := hid hn
        clear hn
        rcases (by omega : (a < -a ∧ ((a.natAbs : Nat) : Int) = -a) ∨ (¬ a < -a ∧ ((a.natAbs : Nat) : Int) = a)) with ⟨hs, hx⟩ | ⟨hs, hx⟩
        all_goals
          have HX := hid hx
          clear hx
          by_cases hF : F = 0
          · subst hF
            go_wp2_with fail
            go_round
            case rel => exact ⟨1, _, _, by omega, by go_num, rfl, rfl, (congrArg (flS · a) HQ.out).trans (flS_0 HN.out HX.out), by omega, by omega, by omega, by omega⟩
            case measure => simp [intOf]
          · have hF' : (F == 0) = false := by simpa using hF
            have HF := hid hF
            clear hF
            go_wp2_with fail
            go_round
            case rel => exact ⟨1, _, _, by omega, by go_num, rfl, rfl, (congrArg (flS · a) HQ.out).trans (flS_1 HN.out HF.out HX.out), by omega, by omega, by omega, by omega⟩
            case measure => simp [intOf]
    · by_cases hn : b = 0
      · have hn' : (b == 0) = true := by simpa using hn
        have HN := hid hn
        clear hn
        go_wp2_with fail
        go_round
        case rel => exact ⟨2, F, L, by omega, by go_num, rfl, rfl, (congrArg (flS · b) HQ.out).trans (by rw [HN.out]; exact flS_z), by omega, by omega, by omega, by omega⟩
        case measure => simp [intOf]
      · have hn' : (b == 0) = false := by simpa using hn
        have HN := hid hn
        clear hn
        rcases (by omega : (b < -b ∧ ((b.natAbs : Nat) : Int) = -b) ∨ (¬ b < -b ∧ ((b.natAbs : Nat) : Int) = b)) with ⟨hs, hx⟩ | ⟨hs, hx⟩
        all_goals
          have HX := hid hx
          clear hx
          by_cases hF : F = 0
          · subst hF
            go_wp2_with fail
            go_round
            case rel => exact ⟨2, _, _, by omega, by go_num, rfl, rfl, (congrArg (flS · b) HQ.out).trans (flS_0 HN.out HX.out), by omega, by omega, by omega, by omega⟩
            case measure => simp [intOf]
          · have hF' : (F == 0) = false := by simpa using hF
            have HF := hid hF
            clear hF
            go_wp2_with fail
            go_round
            case rel => exact ⟨2, _, _, by omega, by go_num, rfl, rfl, (congrArg (flS · b) HQ.out).trans (flS_1 HN.out HF.out HX.out), by omega, by omega, by omega, by omega⟩
            case measure => simp [intOf]
    · by_cases hn : c = 0
      · have hn' : (c == 0) = true := by simpa using hn
        have HN := hid hn
        clear hn
        go_wp2_with fail
        go_round
        case rel => exact ⟨3, F, L, by omega, by go_num, rfl, rfl, (congrArg (flS · c) HQ.out).trans (by rw [HN.out]; exact flS_z), by omega, by omega, by omega, by omega⟩
        case measure => simp [intOf]
      · have hn' : (c == 0) = false := by simpa using hn
        have HN := hid hn
        clear hn
        rcases (by omega : (c < -c ∧ ((c.natAbs : Nat) : Int) = -c) ∨ (¬ c < -c ∧ ((c.natAbs : Nat) : Int) = c)) with ⟨hs, hx⟩ | ⟨hs, hx⟩
        all_goals
          have HX := hid hx
          clear hx
          by_cases hF : F = 0
          · subst hF
            go_wp2_with fail
            go_round
            case rel => exact ⟨3, _, _, by omega, by go_num, rfl, rfl, (congrArg (flS · c) HQ.out).trans (flS_0 HN.out HX.out), by omega, by omega, by omega, by omega⟩
            case measure => simp [intOf]
          · have hF' : (F == 0) = false := by simpa using hF
            have HF := hid hF
            clear hF
            go_wp2_with fail
            go_round
            case rel => exact ⟨3, _, _, by omega, by go_num, rfl, rfl, (congrArg (flS · c) HQ.out).trans (flS_1 HN.out HF.out HX.out), by omega, by omega, by omega, by omega⟩
            case measure => simp [intOf]
    · by_cases hn : d = 0
      · have hn' : (d == 0) = true := by simpa using hn
        have HN := hid hn
        clear hn
        go_wp2_with fail
        go_round
        case rel => exact ⟨4, F, L, by omega, by go_num, rfl, rfl, (congrArg (flS · d) HQ.out).trans (by rw [HN.out]; exact flS_z), by omega, by omega, by omega, by omega⟩
        case measure => simp [intOf]
      · have hn' : (d == 0) = false := by simpa using hn
        have HN := hid hn
        clear hn
        rcases (by omega : (d < -d ∧ ((d.natAbs : Nat) : Int) = -d) ∨ (¬ d < -d ∧ ((d.natAbs : Nat) : Int) = d)) with ⟨hs, hx⟩ | ⟨hs, hx⟩
        all_goals
          have HX := hid hx
          clear hx
          by_cases hF : F = 0
          · subst hF
            go_wp2_with fail
            go_round
            case rel => exact ⟨4, _, _, by omega, by go_num, rfl, rfl, (congrArg (flS · d) HQ.out).trans (flS_0 HN.out HX.out), by omega, by omega, by omega, by omega⟩
            case measure => simp [intOf]
          · have hF' : (F == 0) = false := by simpa using hF
            have HF := hid hF
            clear hF
            go_wp2_with fail
            go_round
            case rel => exact ⟨4, _, _, by omega, by go_num, rfl, rfl, (congrArg (flS · d) HQ.out).trans (flS_1 HN.out HF.out HX.out), by omega, by omega, by omega, by omega⟩
            case measure => simp [intOf]
    · obtain ⟨rfl, rfl⟩ : F = (f : Int) ∧ L = (l : Int) := Prod.mk.inj (HQ.out.symm.trans HFL.out)
      clear HQ HFL
      go_wp2_with fail
      go_loopw [7, 8] (fun s7 s8 wr => ∃ j : Nat, j ≤ f ∧ s8 = .int .i64 (((j : Int) + 1)) ∧ wr.ownsRow w.heap.size 47 2 s7 (rpK f l j).length ((rpK f l j).flatMap pr2) ∧ Below w.heap.size w wr) (fun _ s8 _ => f + 1 - (intOf s8).toNat)
      case atStart => exact ⟨0, Nat.zero_le _, rfl, HO0.out, HU0.out⟩
      case round =>
        obtain ⟨j, hj, rfl, hO, hU⟩ := hrel
        have HO := hid hO; have HU := hid hU
        clear hO hU
        by_cases hlt : j < f
        · cases hp : ((f : Int) % ((j : Int) + 1) == 0) with
          | false =>
            have HP := hid (rpK_f (L := (l : Int)) hp)
            go_wp2_with fail
            go_roundw
            case rel => exact ⟨j + 1, by omega, by go_num, by rw [HP.out]; exact HO.out, HU.out⟩
            case measure => simp [intOf]; omega
          | true =>
            have HP := hid (rpK_t (L := (l : Int)) hp)
            have hlp : (rpK f l j).length ≤ 2001001 := by
              have h1 := rpK_len f l j
              have h2 : j * (2 * (l : Int) + 1).toNat ≤ 1000 * 2001 := Nat.mul_le_mul (by omega) (by omega)
              omega
            have hg0 : (j : Int) + 1 ≤ 1000 := by omega
            generalize hPK : rpK f l j = PK at HO HP hlp
            have HPK := hid hPK
            clear hPK
            have hyf : (j : Int) + 1 ≤ f := by omega
            generalize hy : (j : Int) + 1 = y at HP hp hg0 hyf
            have HY := hid hy
            have hy0 : 1 ≤ y := by omega
            go_wp2_with fail
            clear hy
            have hd2 : ((f : Int) % y != 0) = false := by simpa using hp
            simp only [hd2]
            clear hd2
            have HPA := hid (fun (X : List Int) (x : Int) => (show PK ++ prY y (X ++ [x]) = (PK ++ prY y X) ++ [(x, y)] by simp [prY]))
            have HPL := hid (fun i => (show (PK ++ prY y (xsK l y i)).length ≤ 2001001 + i by rw [List.length_append, prY, List.length_map]; have := xsK_len l y i; omega))
            have HX0 := hid (show PK ++ prY y (xsK l y 0) = PK by simp [prY, xsK])
            go_loopw [7, 9] (fun s7 s9 wr' => ∃ i : Nat, i ≤ 2 * l + 1 ∧ s9 = .int .i64 (((i : Int) - (l : Int))) ∧ wr'.ownsRow w.heap.size 47 2 s7 (PK ++ prY y (xsK l y i)).length ((PK ++ prY y (xsK l y i)).flatMap pr2) ∧ Below w.heap.size w wr') (fun _ s9 _ => (l + 1 - intOf s9).toNat)
            case atStart => exact ⟨0, Nat.zero_le _, by simp, by rw [HX0.out]; exact HO.out, HU.out⟩
            case round =>
              obtain ⟨i, hi', rfl, hO, hU⟩ := hrel
              have HO1 := hid hO; have HU1 := hid hU
              have hv := hU.size
              have hln := HPL.out i
              clear hO hU
              by_cases hlt' : i < 2 * l + 1
              · have HS := hid (xsK_s l y i)
                have hx1 : -(l : Int) ≤ (i : Int) - l := by omega
                have hx2 : (i : Int) - l ≤ l := by omega
                have hxi : (i : Int) - l + 1 = ((i + 1 : Nat) : Int) - l := by omega
                generalize (i : Int) - l = x at HS hx1 hx2 hxi
                have HXI := hid hxi
                clear hxi
                have HT := hid (fun (h : ((x == 0 || (l : Int) % x == 0) && ((Int.gcd x y : Int) == 1)) = true) => (show PK ++ prY y (xsK l y (i + 1)) = (PK ++ prY y (xsK l y i)) ++ [(x, y)] by rw [HS.out, if_pos h, HPA.out]))
                have HF := hid (fun (h : ((x == 0 || (l : Int) % x == 0) && ((Int.gcd x y : Int) == 1)) = false) => (show PK ++ prY y (xsK l y (i + 1)) = PK ++ prY y (xsK l y i) by rw [HS.out, h]; simp))
                clear HS
                generalize PK ++ prY y (xsK l y i) = P0 at HO1 HT HF hln
                have hq : ∀ W : World, Calls Tryd.prog 76 #[.int .i64 x, .int .i64 y] W fun e w' => e = .returned (.int .i64 ((Int.gcd x y : Int))) ∧ Below W.heap.size W w' := fun W => iGcd_any x y W ⟨by omega, by omega⟩ ⟨by omega, by omega⟩
                generalize ((Int.gcd x y : Nat) : Int) = G at hq HT HF
                have HG := hid hq
                clear hq
                cases cx : (x == 0) with
                | true =>
                  cases cg : (G == 1) with
                  | true =>
                    go_wp2_with fail
                    refine (HG.out _).mono ?_
                    rintro e w2 ⟨rfl, hb2⟩
                    have HO2 := hid (owns_next HO1.out hb2); have HU2 := hid (gr_trans HU1.out hb2)
                    have hv2 := hb2.size
                    go_wp2_with (at_builtin; refine app_pl rfl _ _ rfl w.heap.size rfl HO2.out rfl (by omega) (by omega) ?_)
                    intro v3 w3 O3 hg3
                    have HO3 := hid (pl_app2 (HT.out (by simp [cx, cg])) O3)
                    have HU3 := hid (gr_own (gr_alloc HU2.out _) hg3 (fun j hj => (HO2.out.lt j hj).1))
                    clear O3 hg3
                    go_wp2_with fail
                    go_roundw
                    case rel => exact ⟨i + 1, by omega, by rw [← HXI.out]; try go_num, HO3.out, HU3.out⟩
                    case measure => simp [intOf]; omega
                  | false =>
                    go_wp2_with fail
                    refine (HG.out _).mono ?_
                    rintro e w2 ⟨rfl, hb2⟩
                    have HO2 := hid (owns_next HO1.out hb2); have HU2 := hid (gr_trans HU1.out hb2)
                    go_wp2_with fail
                    go_roundw
                    case rel => exact ⟨i + 1, by omega, by rw [← HXI.out]; try go_num, by rw [HF.out (by simp [cg])]; exact HO2.out, HU2.out⟩
                    case measure => simp [intOf]; omega
                | false =>
                  have hxn : x ≠ 0 := by simpa using cx
                  have hr0 : 0 ≤ (l : Int) % x := Int.emod_nonneg _ hxn
                  have hr1 : (l : Int) % x ≤ 1000 := by
                    have h1 : (l : Int) % x < (x.natAbs : Int) := by first | exact Int.emod_lt _ hxn | exact Int.emod_lt_natAbs _ hxn
                    omega
                  cases cd : ((l : Int) % x == 0) with
                  | false =>
                    go_wp2_with fail
                    go_roundw
                    case rel => exact ⟨i + 1, by omega, by rw [← HXI.out]; try go_num, by rw [HF.out (by simp [cx, cd])]; exact HO1.out, HU1.out⟩
                    case measure => simp [intOf]; omega
                  | true =>
                    cases cg : (G == 1) with
                    | true =>
                      go_wp2_with fail
                      refine (HG.out _).mono ?_
                      rintro e w2 ⟨rfl, hb2⟩
                      have HO2 := hid (owns_next HO1.out hb2); have HU2 := hid (gr_trans HU1.out hb2)
                      have hv2 := hb2.size
                      go_wp2_with (at_builtin; refine app_pl rfl _ _ rfl w.heap.size rfl HO2.out rfl (by omega) (by omega) ?_)
                      intro v3 w3 O3 hg3
                      have HO3 := hid (pl_app2 (HT.out (by simp [cx, cd, cg])) O3)
                      have HU3 := hid (gr_own (gr_alloc HU2.out _) hg3 (fun j hj => (HO2.out.lt j hj).1))
                      clear O3 hg3
                      go_wp2_with fail
                      go_roundw
                      case rel => exact ⟨i + 1, by omega, by rw [← HXI.out]; try go_num, HO3.out, HU3.out⟩
                      case measure => simp [intOf]; omega
                    | false =>
                      go_wp2_with fail
                      refine (HG.out _).mono ?_
                      rintro e w2 ⟨rfl, hb2⟩
                      have HO2 := hid (owns_next HO1.out hb2); have HU2 := hid (gr_trans HU1.out hb2)
                      go_wp2_with fail
                      go_roundw
                      case rel => exact ⟨i + 1, by omega, by rw [← HXI.out]; try go_num, by rw [HF.out (by simp [cg])]; exact HO2.out, HU2.out⟩
                      case measure => simp [intOf]; omega
              · have e : i = 2 * l + 1 := by omega
                subst e
                have HE := hid (show rpK f l (j + 1) = PK ++ prY y (xsK l y (2 * l + 1)) by rw [HP.out, show (2 * (l : Int) + 1).toNat = 2 * l + 1 by omega])
                go_wp2_with fail
                go_roundw
                case rel => exact ⟨j + 1, by omega, by rw [← HY.out]; try go_num, by rw [HE.out]; exact HO1.out, HU1.out⟩
                case measure => simp [intOf]; omega
        · have e : j = f := by omega
          subst e
          go_wp2_with fail
          go_ret
          exact ⟨_, rfl, HO.out, HU.out⟩


end Go.Proofs.YtmhlolimaeejfaaDoor
