/- Chapter 1: forms with given values at the base places. -/
import Derived.Test.YtikmjefbjejbkaaBbZ8
import Derived.Deep.DeepCutAuto
namespace Go.Proofs.Ytikmjefbjejbkaa
open Go.RowKit
open Go.ChangeMaps (setBlock)

/-- What comes out: the numbers (0 if not whole), and whether they are whole. -/
def whole (a b c d : Int) : Bool := (c - d - 2 * b) % 2 == 0 && (c + d - 2 * a) % 2 == 0

theorem even_t {x : Int} (h : x % 2 = 0) : (x.tmod 2 != 0) = false := by
  obtain ⟨y, rfl⟩ : ∃ y, x = 2 * y := ⟨x / 2, by omega⟩
  simp [Int.mul_tmod_right]
theorem odd_t {x : Int} (h : ¬ x % 2 = 0) : (x.tmod 2 != 0) = true := by
  have : x.tmod 2 ≠ 0 := fun e => h (Int.emod_eq_zero_of_dvd (Int.dvd_of_tmod_eq_zero e))
  simp [this]
theorem half_e {x y : Int} (h : x = 2 * y) : x.tdiv 2 = y := by
  rw [h]; exact Int.mul_tdiv_cancel_left y (by decide)

set_option maxHeartbeats 2000000 in
theorem iFwv_any (a b c d : Int) (w : World) (ha : -100000000000000 ≤ a ∧ a ≤ 100000000000000) (hb : -100000000000000 ≤ b ∧ b ≤ 100000000000000) (hc : -100000000000000 ≤ c ∧ c ≤ 100000000000000) (hd : -100000000000000 ≤ d ∧ d ≤ 100000000000000) :
    Calls Try.prog 121 #[.agg #[.int .i64 a, .int .i64 b, .int .i64 c, .int .i64 d]] w fun e w' => e = .returned (.tuple #[.agg #[.int .i64 (ifB (whole a b c d) a), .int .i64 (ifB (whole a b c d) ((c - d - 2 * b) / 2)), .int .i64 (ifB (whole a b c d) ((c + d - 2 * a) / 2)), .int .i64 (ifB (whole a b c d) b)], .bool (whole a b c d)]) ∧ Below w.heap.size w w' := by
  have A0 := (Arr.new w a b c d 22).alloc (.cells #[.int .i64 0, .int .i64 0, .int .i64 0, .int .i64 0] 26)
  have R0 := Arr.new (w.alloc (.cells #[.int .i64 a, .int .i64 b, .int .i64 c, .int .i64 d] 22)) 0 0 0 0 26
  have U0 := gr_alloc (gr_alloc (Below.refl w.heap.size w) (.cells #[.int .i64 a, .int .i64 b, .int .i64 c, .int .i64 d] 22)) (.cells #[.int .i64 0, .int .i64 0, .int .i64 0, .int .i64 0] 26)
  simp only [World.size_alloc] at R0
  go_enter Try.func121, Try.ntmps121
  go_upto_region 1 with fail
  generalize (w.alloc (.cells #[.int .i64 a, .int .i64 b, .int .i64 c, .int .i64 d] 22)).alloc (.cells #[.int .i64 0, .int .i64 0, .int .i64 0, .int .i64 0] 26) = W0 at A0 R0 U0 ⊢
  obtain ⟨hl, a0, a1, a2, a3, _⟩ := id A0
  have hmk : ∀ w : World, (Instr.makeMap 153 none).run Try.prog w = .ok (.map (some w.heap.size)) (w.alloc (.map (mapOf (vals a b c d) []) 0)) := fun _ => rfl
  have l0 : ∀ l n, fresh 0 l = true → (Instr.mapUpdate 153 (.map (some W0.heap.size)) (.agg #[.int .i64 2, .int .i64 0, .int .i64 (-2), .int .i64 0]) (.int .i64 a)).run Try.prog (W0.alloc (.map (mapOf (vals a b c d) l) n)).drew = .ok () (W0.alloc (.map (mapOf (vals a b c d) (l ++ [(0, n)])) (n + 1))).drew := fun l n h => layF (vals a b c d) W0 l n 0 (by omega) h
  have l1 : ∀ l n, fresh 1 l = true → (Instr.mapUpdate 153 (.map (some W0.heap.size)) (.agg #[.int .i64 0, .int .i64 (-2), .int .i64 0, .int .i64 2]) (.int .i64 b)).run Try.prog (W0.alloc (.map (mapOf (vals a b c d) l) n)).drew = .ok () (W0.alloc (.map (mapOf (vals a b c d) (l ++ [(1, n)])) (n + 1))).drew := fun l n h => layF (vals a b c d) W0 l n 1 (by omega) h
  have l2 : ∀ l n, fresh 2 l = true → (Instr.mapUpdate 153 (.map (some W0.heap.size)) (.agg #[.int .i64 0, .int .i64 1, .int .i64 1, .int .i64 0]) (.int .i64 c)).run Try.prog (W0.alloc (.map (mapOf (vals a b c d) l) n)).drew = .ok () (W0.alloc (.map (mapOf (vals a b c d) (l ++ [(2, n)])) (n + 1))).drew := fun l n h => layF (vals a b c d) W0 l n 2 (by omega) h
  have l3 : ∀ l n, fresh 3 l = true → (Instr.mapUpdate 153 (.map (some W0.heap.size)) (.agg #[.int .i64 0, .int .i64 (-1), .int .i64 1, .int .i64 0]) (.int .i64 d)).run Try.prog (W0.alloc (.map (mapOf (vals a b c d) l) n)).drew = .ok () (W0.alloc (.map (mapOf (vals a b c d) (l ++ [(3, n)])) (n + 1))).drew := fun l n h => layF (vals a b c d) W0 l n 3 (by omega) h
  have q0 : ∀ i, fresh i [] = true := fun _ => rfl
  have q1 : ∀ i p l, fresh i (p :: l) = (decide (p.1 < 4) && decide (p.1 ≠ i) && fresh i l) := fun _ _ _ => rfl
  go_cut [4] (fun s4 wx => ∃ i j k l : Nat, isOrd i j k l = true ∧ s4 = .map (some W0.heap.size) ∧ wx = (W0.alloc (.map (mapOf (vals a b c d) (ord i j k l)) 4)).drew)
  case first =>
    go_region
    all_goals (go_wp2_with fail; go_meet; exact ⟨_, _, _, _, by rfl, rfl, rfl⟩)
  case rest =>
    obtain ⟨i, j, k, l, ho, rfl, hw⟩ := hcut
    obtain ⟨V, hV⟩ : ∃ V, V = vals a b c d := ⟨_, rfl⟩
    obtain ⟨M, hMd⟩ : ∃ M, M = mapOf V (ord i j k l) := ⟨_, rfl⟩
    rw [← hV, ← hMd] at hw
    have hM : wc.heap[W0.heap.size]? = some (.map M 4) := by rw [hw]; exact new_map W0 _ _
    have A1 : Arr wc w.heap.size a b c d := by rw [hw]; exact (A0.alloc _).drew
    have R1 : Arr wc (w.heap.size + 1) 0 0 0 0 := by rw [hw]; exact (R0.alloc _).drew
    have U1 : Below w.heap.size w wc := by rw [hw]; exact gr_drew (gr_alloc U0 _)
    have hk : W0.heap.size < wc.heap.size := by rw [hw]; simp
    clear hw l0 l1 l2 l3 hmk q0 q1 A0 R0 U0 a0 a1 a2 a3
    generalize W0.heap.size = kb at hM hk ⊢
    have hlr := R1.lt
    have hM1 : (wc.alloc (.cells #[.int .i64 0, .int .i64 0, .int .i64 0, .int .i64 0] 26)).heap[kb]? = some (.map M 4) := (Below.heap_alloc wc _ kb hk).trans hM
    have hrg := range_run hM1
    simp only [World.size_alloc] at hrg
    go_wp2_with fail
    have F2 := (Arr.new wc 0 0 0 0 26).alloc (.mapIter (some kb) 4 #[] 4)
    have R2 := (R1.alloc (.cells #[.int .i64 0, .int .i64 0, .int .i64 0, .int .i64 0] 26)).alloc (.mapIter (some kb) 4 #[] 4)
    have U2 := gr_alloc (gr_alloc U1 (.cells #[.int .i64 0, .int .i64 0, .int .i64 0, .int .i64 0] 26)) (.mapIter (some kb) 4 #[] 4)
    have hM2 : ((wc.alloc (.cells #[.int .i64 0, .int .i64 0, .int .i64 0, .int .i64 0] 26)).alloc (.mapIter (some kb) 4 #[] 4)).heap[kb]? = some (.map M 4) := (Below.heap_alloc (wc.alloc (.cells #[.int .i64 0, .int .i64 0, .int .i64 0, .int .i64 0] 26)) _ kb (by simp; omega)).trans hM1
    have hI2 : ((wc.alloc (.cells #[.int .i64 0, .int .i64 0, .int .i64 0, .int .i64 0] 26)).alloc (.mapIter (some kb) 4 #[] 4)).heap[wc.heap.size + 1]? = some (.mapIter (some kb) 4 #[] 4) := by
      have := heap_alloc_new (wc.alloc (.cells #[.int .i64 0, .int .i64 0, .int .i64 0, .int .i64 0] 26)) (.mapIter (some kb) 4 #[] 4)
      simpa using this
    obtain ⟨kf, hkf⟩ : ∃ kf, kf = wc.heap.size := ⟨_, rfl⟩
    rw [← hkf] at F2 hI2 hk hlr ⊢
    generalize (wc.alloc (.cells #[.int .i64 0, .int .i64 0, .int .i64 0, .int .i64 0] 26)).alloc (.mapIter (some kb) 4 #[] 4) = W3 at F2 R2 U2 hM2 hI2 ⊢
    clear hkf hM hM1 hrg A1 R1 U1
    obtain ⟨hb0, hb1, hb2, hb3⟩ := comp_bd ha hb hc hd
    rw [← hV] at hb0 hb1 hb2 hb3
    have HB0 := hid hb0; have HB1 := hid hb1; have HB2 := hid hb2; have HB3 := hid hb3
    have HV := hid hV; have HMd := hid hMd
    clear hb0 hb1 hb2 hb3 hV hMd
    go_loopw [26] (fun _ wr => ∃ seen : Array Nat, wr.heap[kf + 1]? = some (.mapIter (some kb) 4 seen 4) ∧ wr.heap[kb]? = some (.map M 4) ∧
      Arr wr kf (tot V (fun n => (bk n).1) i j k l seen) (tot V (fun n => (bk n).2.1) i j k l seen) (tot V (fun n => (bk n).2.2.1) i j k l seen) (tot V (fun n => (bk n).2.2.2) i j k l seen) ∧
      Arr wr (w.heap.size + 1) 0 0 0 0 ∧ Below w.heap.size w wr) (fun _ wr => lefts M wr (kf + 1))
    case atStart => exact ⟨#[], hI2, hM2, by simpa [tot_start] using F2, R2, U2⟩
    case round =>
      obtain ⟨seen, hI, hM, hF, hR, hU⟩ := hrel
      rcases run_next_at (P := Try.prog) wr 0 (kf + 1) kb 4 4 seen M 4 hI hM (by rw [HMd.out]; exact mapOf_born _ _ _ _ _) (Nat.le_refl _) with ⟨h0, hn⟩ | ⟨e, he, w1, hw1, hn⟩
      · have hall := left_none (by rw [← HMd.out]; exact h0)
        have e0 : tot V (fun n => (bk n).1) i j k l seen = 2 * a := by rw [tot_end _ _ hall ho, HV.out]; simp [vals, bk]; omega
        have e1 : tot V (fun n => (bk n).2.1) i j k l seen = c - d - 2 * b := by rw [tot_end _ _ hall ho, HV.out]; simp [vals, bk]; omega
        have e2 : tot V (fun n => (bk n).2.2.1) i j k l seen = c + d - 2 * a := by rw [tot_end _ _ hall ho, HV.out]; simp [vals, bk]; omega
        have e3 : tot V (fun n => (bk n).2.2.2) i j k l seen = 2 * b := by rw [tot_end _ _ hall ho, HV.out]; simp [vals, bk]; omega
        rw [e0, e1, e2, e3] at hF
        clear e0 e1 e2 e3 hall h0 HB0 HB1 HB2 HB3
        obtain ⟨ha1, ha2⟩ := ha
        obtain ⟨hb1, hb2⟩ := hb
        obtain ⟨x0, hx0⟩ : ∃ x, x = 2 * a := ⟨_, rfl⟩
        obtain ⟨x1, hx1⟩ : ∃ x, x = c - d - 2 * b := ⟨_, rfl⟩
        obtain ⟨x2, hx2⟩ : ∃ x, x = c + d - 2 * a := ⟨_, rfl⟩
        obtain ⟨x3, hx3⟩ : ∃ x, x = 2 * b := ⟨_, rfl⟩
        have hF : Arr wr kf x0 x1 x2 x3 := by rw [hx0, hx1, hx2, hx3]; exact hF
        have b1l : -1000000000000000 ≤ x1 := by omega
        have b1u : x1 ≤ 1000000000000000 := by omega
        have b2l : -1000000000000000 ≤ x2 := by omega
        have b2u : x2 ≤ 1000000000000000 := by omega
        have p0 := even_t (x := x0) (by omega)
        have p3 := even_t (x := x3) (by omega)
        have q0 := half_e (x := x0) (y := a) (by omega)
        have q3 := half_e (x := x3) (y := b) (by omega)
        have HX1 := hid hx1; have HX2 := hid hx2; have HC := hid hc; have HD := hid hd
        clear hx0 hx1 hx2 hx3 hc hd
        have i0 : ∀ w : World, (Instr.index 26 (.agg #[.int .i64 x0, .int .i64 x1, .int .i64 x2, .int .i64 x3]) (.int .i64 0)).run Try.prog w = .ok (.int .i64 x0) w := fun _ => by kernel_rfl
        have i1 : ∀ w : World, (Instr.index 26 (.agg #[.int .i64 x0, .int .i64 x1, .int .i64 x2, .int .i64 x3]) (.int .i64 1)).run Try.prog w = .ok (.int .i64 x1) w := fun _ => by kernel_rfl
        have i2 : ∀ w : World, (Instr.index 26 (.agg #[.int .i64 x0, .int .i64 x1, .int .i64 x2, .int .i64 x3]) (.int .i64 2)).run Try.prog w = .ok (.int .i64 x2) w := fun _ => by kernel_rfl
        have i3 : ∀ w : World, (Instr.index 26 (.agg #[.int .i64 x0, .int .i64 x1, .int .i64 x2, .int .i64 x3]) (.int .i64 3)).run Try.prog w = .ok (.int .i64 x3) w := fun _ => by kernel_rfl
        have hkl := hF.lt
        have hUs := hU.size
        obtain ⟨_, f0, f1, f2, f3, g0, g1, g2, g3⟩ := id hF
        obtain ⟨_, r0, r1, r2, r3, s0, s1, s2, s3⟩ := id hR
        clear hI hM
        by_cases h1 : x1 % 2 = 0
        · have p1 := even_t (x := x1) h1
          by_cases h2 : x2 % 2 = 0
          · have p2 := even_t (x := x2) h2
            have q1 := half_e (x := x1) (y := x1 / 2) (by omega)
            have q2 := half_e (x := x2) (y := x2 / 2) (by omega)
            have wh : whole a b c d = true := by have := HX1.out; have := HX2.out; simp [whole]; omega
            have WH := hid wh
            clear wh h1 h2
            go_wp2_with fail
            go_rounds 5
            refine bodyPost_ret (res_A (e := 2) rfl Try.underlying26 (by kernel_rfl) rfl (by (repeat (first | with_reducible assumption | with_reducible exact Arr.box (by assumption) | with_reducible apply Arr.drew | with_reducible apply Arr.drewN | with_reducible refine Arr.store4 ?_ | with_reducible apply Arr.alloc | with_reducible refine Box.drew ?_ | with_reducible refine Box.drewN ?_ _ | with_reducible refine Box.alloc ?_ _ | refine Arr.oth ?_ (by first | (simp; done) | omega | (simp; omega)) _ | refine Box.oth ?_ (by first | (simp; done) | omega | (simp; omega)) _)))) rfl ?_
            exact ⟨ret_fb (by simp [ifB, WH.out]) (by simp [ifB, WH.out, ← HX1.out]) (by simp [ifB, WH.out, ← HX2.out]) (by simp [ifB, WH.out]) (by simp [WH.out]), by (repeat' (first | with_reducible exact Below.refl _ _ | with_reducible assumption | with_reducible refine gr_alloc ?_ _ | with_reducible refine gr_drew ?_ | with_reducible refine gr_drewN ?_ _ | with_reducible refine gr_trans ?_ (by assumption) | with_reducible refine gr_set ?_ ?_ _ | (simp; done) | omega | (simp; omega)))⟩
          · have p2 := odd_t (x := x2) h2
            have q1 := half_e (x := x1) (y := x1 / 2) (by omega)
            have wh : whole a b c d = false := by have := HX1.out; have := HX2.out; simp [whole]; omega
            have WH := hid wh
            clear wh h1 h2
            go_wp2_with fail
            go_rounds 5
            refine bodyPost_ret (res_A (e := 2) rfl Try.underlying26 (by kernel_rfl) rfl (by (repeat (first | with_reducible assumption | with_reducible exact Arr.box (by assumption) | with_reducible apply Arr.drew | with_reducible apply Arr.drewN | with_reducible refine Arr.store4 ?_ | with_reducible apply Arr.alloc | with_reducible refine Box.drew ?_ | with_reducible refine Box.drewN ?_ _ | with_reducible refine Box.alloc ?_ _ | refine Arr.oth ?_ (by first | (simp; done) | omega | (simp; omega)) _ | refine Box.oth ?_ (by first | (simp; done) | omega | (simp; omega)) _)))) rfl ?_
            exact ⟨ret_fb (by simp [ifB, WH.out]) (by simp [ifB, WH.out]) (by simp [ifB, WH.out]) (by simp [ifB, WH.out]) (by simp [WH.out]), by (repeat' (first | with_reducible exact Below.refl _ _ | with_reducible assumption | with_reducible refine gr_alloc ?_ _ | with_reducible refine gr_drew ?_ | with_reducible refine gr_drewN ?_ _ | with_reducible refine gr_trans ?_ (by assumption) | with_reducible refine gr_set ?_ ?_ _ | (simp; done) | omega | (simp; omega)))⟩
        · have p1 := odd_t (x := x1) h1
          have wh : whole a b c d = false := by have := HX1.out; have := HX2.out; simp [whole]; omega
          have WH := hid wh
          clear wh h1
          go_wp2_with fail
          go_rounds 5
          refine bodyPost_ret (res_A (e := 2) rfl Try.underlying26 (by kernel_rfl) rfl (by (repeat (first | with_reducible assumption | with_reducible exact Arr.box (by assumption) | with_reducible apply Arr.drew | with_reducible apply Arr.drewN | with_reducible refine Arr.store4 ?_ | with_reducible apply Arr.alloc | with_reducible refine Box.drew ?_ | with_reducible refine Box.drewN ?_ _ | with_reducible refine Box.alloc ?_ _ | refine Arr.oth ?_ (by first | (simp; done) | omega | (simp; omega)) _ | refine Box.oth ?_ (by first | (simp; done) | omega | (simp; omega)) _)))) rfl ?_
          exact ⟨ret_fb (by simp [ifB, WH.out]) (by simp [ifB, WH.out]) (by simp [ifB, WH.out]) (by simp [ifB, WH.out]) (by simp [WH.out]), by (repeat' (first | with_reducible exact Below.refl _ _ | with_reducible assumption | with_reducible refine gr_alloc ?_ _ | with_reducible refine gr_drew ?_ | with_reducible refine gr_drewN ?_ _ | with_reducible refine gr_trans ?_ (by assumption) | with_reducible refine gr_set ?_ ?_ _ | (simp; done) | omega | (simp; omega)))⟩
      · have he' := he
        rw [HMd.out] at he'
        obtain ⟨p, hp, rfl, hsn⟩ := left_mem he'
        have hem : bent V p.1 p.2 ∈ M.toList := by
          rw [HMd.out]; simp only [mapOf, List.mem_map]; exact ⟨p, hp, rfl⟩
        have hlt := left_lt he
        have hb4 : Below (kf + 1) wr (setBlock w1 (kf + 1) (.mapIter (some kb) 4 (seen.push p.2) 4)) := by
          rcases hw1 with rfl | rfl
          · exact below_setBlock
          · exact ((Below.refl _ _).drew).trans below_setBlock
        have hsz : kf + 1 < w1.heap.size := by
          have : w1.heap[kf + 1]? = some (.mapIter (some kb) 4 seen 4) := by rcases hw1 with rfl | rfl <;> exact hI
          exact (Array.getElem?_eq_some_iff.1 this).1
        have hI4 : (setBlock w1 (kf + 1) (.mapIter (some kb) 4 (seen.push p.2) 4)).heap[kf + 1]? = some (.mapIter (some kb) 4 (seen.push p.2) 4) := by
          simp [setBlock, hsz]
        have hs4 : kf + 1 < (setBlock w1 (kf + 1) (.mapIter (some kb) 4 (seen.push p.2) 4)).heap.size := (Array.getElem?_eq_some_iff.1 hI4).1
        have hn' : (Instr.next (.pointer (some ⟨kf + 1, 0, none⟩)) false 0).run Try.prog wr = .ok (.tuple #[.bool true, .agg #[.int .i64 ((bk p.1).1), .int .i64 ((bk p.1).2.1), .int .i64 ((bk p.1).2.2.1), .int .i64 ((bk p.1).2.2.2)], .int .i64 (V p.1)]) (setBlock w1 (kf + 1) (.mapIter (some kb) 4 (seen.push p.2) 4)) := hn
        clear hn
        generalize setBlock w1 (kf + 1) (.mapIter (some kb) 4 (seen.push p.2) 4) = W4 at hb4 hI4 hn' hs4
        have hM4 : W4.heap[kb]? = some (.map M 4) := (hb4.block kb (by omega)).trans hM
        have hF4 := hF.below hb4 (by omega)
        have hR4 := hR.below hb4 (by omega)
        have hU4 : Below w.heap.size w W4 := hU.trans (hb4.mono (by omega))
        have hen : (Instr.entry (.pointer (some ⟨kf + 1, 0, none⟩))).run Try.prog W4 = .ok (.tuple #[.agg #[.int .i64 ((bk p.1).1), .int .i64 ((bk p.1).2.1), .int .i64 ((bk p.1).2.2.1), .int .i64 ((bk p.1).2.2.2)], .int .i64 (V p.1)]) W4 := run_entry_at W4 (kf + 1) kb 4 seen M 4 (bent V p.1 p.2) hI4 hM4 hem (by rw [HMd.out]; exact mapOf_nodup _ _ _ _ _)
        have hlf : lefts M wr (kf + 1) = (leftOf M seen).size := by unfold lefts; rw [hI]
        have e0 : am (tot V (fun n => (bk n).1) i j k l seen) (V p.1) (bk p.1).1 = _ := am_tot HB0.out hp hsn
        have e1 : am (tot V (fun n => (bk n).2.1) i j k l seen) (V p.1) (bk p.1).2.1 = _ := am_tot HB1.out hp hsn
        have e2 : am (tot V (fun n => (bk n).2.2.1) i j k l seen) (V p.1) (bk p.1).2.2.1 = _ := am_tot HB2.out hp hsn
        have e3 : am (tot V (fun n => (bk n).2.2.2) i j k l seen) (V p.1) (bk p.1).2.2.2 = _ := am_tot HB3.out hp hsn
        have hc := fun W => iAddM_any (tot V (fun n => (bk n).1) i j k l seen) (tot V (fun n => (bk n).2.1) i j k l seen) (tot V (fun n => (bk n).2.2.1) i j k l seen) (tot V (fun n => (bk n).2.2.2) i j k l seen) (bk p.1).1 (bk p.1).2.1 (bk p.1).2.2.1 (bk p.1).2.2.2 (V p.1) W
        rw [e0, e1, e2, e3] at hc
        have HC := hid hc
        have HLT := hid hlt
        have HLF := hid hlf
        clear hc hlt hlf e0 e1 e2 e3 he he' hem hI hM hF hR hU hb4 hsz hw1 hsn
        obtain ⟨_, f0, f1, f2, f3, _⟩ := id hF4
        have hI4' := hid hI4
        have hM4' := hid hM4
        clear hI4 hM4
        go_wp2_with fail
        refine (HC.out _).mono ?_
        rintro e w5 ⟨rfl, hb5⟩
        have hF5 := (hF4.alloc _).next hb5
        have hR5 := (hR4.alloc _).next hb5
        have hU5 := gr_trans (gr_alloc hU4 _) hb5
        have hI5 := (hb5.block (kf + 1) (by simp; omega)).trans ((Below.heap_alloc W4 _ (kf + 1) hs4).trans hI4'.out)
        have hM5 := (hb5.block kb (by simp; omega)).trans ((Below.heap_alloc W4 _ kb (by omega)).trans hM4'.out)
        have HI5 := hid hI5
        have HM5 := hid hM5
        clear hI5 hM5
        obtain ⟨_, x0, x1, x2, x3, g0, g1, g2, g3⟩ := id hF5
        go_wp2_with fail
        go_roundw
        case rel => exact ⟨seen.push p.2, by (repeat rw [Below.heap_setCell _ _ _ (kf + 1) (by simp)]); exact HI5.out, by (repeat rw [Below.heap_setCell _ _ _ kb (by simp; omega)]); exact HM5.out, by (repeat (first | with_reducible assumption | with_reducible exact Arr.box (by assumption) | with_reducible apply Arr.drew | with_reducible apply Arr.drewN | with_reducible refine Arr.store4 ?_ | with_reducible apply Arr.alloc | with_reducible refine Box.drew ?_ | with_reducible refine Box.drewN ?_ _ | with_reducible refine Box.alloc ?_ _ | refine Arr.oth ?_ (by first | (simp; done) | omega | (simp; omega)) _ | refine Box.oth ?_ (by first | (simp; done) | omega | (simp; omega)) _)), by (repeat (first | with_reducible assumption | with_reducible exact Arr.box (by assumption) | with_reducible apply Arr.drew | with_reducible apply Arr.drewN | with_reducible refine Arr.store4 ?_ | with_reducible apply Arr.alloc | with_reducible refine Box.drew ?_ | with_reducible refine Box.drewN ?_ _ | with_reducible refine Box.alloc ?_ _ | refine Arr.oth ?_ (by first | (simp; done) | omega | (simp; omega)) _ | refine Box.oth ?_ (by first | (simp; done) | omega | (simp; omega)) _)), by (repeat' (first | with_reducible exact Below.refl _ _ | with_reducible assumption | with_reducible refine gr_alloc ?_ _ | with_reducible refine gr_drew ?_ | with_reducible refine gr_drewN ?_ _ | with_reducible refine gr_trans ?_ (by assumption) | with_reducible refine gr_set ?_ ?_ _ | (simp; done) | omega | (simp; omega)))⟩
        case measure =>
          rw [HLF.out]
          refine Nat.lt_of_le_of_lt (Nat.le_of_eq ?_) HLT.out
          unfold lefts
          (repeat rw [Below.heap_setCell _ _ _ (kf + 1) (by simp)])
          rw [HI5.out]
          rfl

end Go.Proofs.Ytikmjefbjejbkaa
