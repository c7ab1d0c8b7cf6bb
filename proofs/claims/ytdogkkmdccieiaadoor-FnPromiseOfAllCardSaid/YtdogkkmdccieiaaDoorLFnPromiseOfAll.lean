/- FnPromiseOfAll: forms changed by unit matrices have the same discriminants, contents and kinds modulo primes, changed Hessians, and the values at the places changed, at every form, matrix, number and place. One condition, tied to the program's text: the package's error for forms without factors is laid. -/
import Derived.Test.YtdogkkmdccieiaaDoorClo
import Derived.Test.YtdogkkmdccieiaaDoorOpenD
import Derived.Test.YtdogkkmdccieiaaDoorPr0
import Derived.Test.YtdogkkmdccieiaaDoorZ9
import Derived.Deep.RegionHeld3
import Derived.Deep.DeepCutAuto
namespace Go.Proofs.YtdogkkmdccieiaaDoor
open Go.ChangeShapes Go.WideShapes Go.ChangeAt Go.RowKit

theorem eqQd_run (a b c p q r : Int) (w : World) : (Op.equalIn 10000 52 (.agg #[.int .i64 a, .int .i64 b, .int .i64 c]) (.agg #[.int .i64 p, .int .i64 q, .int .i64 r])).run Tryd.prog w = .ok (a == p && b == q && c == r) w := by
  have u := Tryd.underlying2
  have ia := Tryd.isAgg2
  have z := Tryd.sizeOf2
  rw [show (10000 : Nat) = 9999 + 1 from rfl, Op.equalIn]
  simp only [Sem.run_bind, run_underlying Tryd.underlying52, Result.andThen_ok]
  simp only [Std.Legacy.Range.forIn_eq_forIn_range', Std.Legacy.Range.size, Nat.sub_zero, Nat.add_sub_cancel, Nat.div_one, List.range'_succ, List.range'_zero, List.forIn_cons, List.forIn_nil]
  go_simp
  by_cases h1 : a = p <;> by_cases h2 : b = q <;> by_cases h3 : c = r <;> simp [h1, h2, h3]

set_option maxRecDepth 1000000 in
set_option maxHeartbeats 8000000 in
theorem FnPromiseOfAll_walk (a b c d : Int) (_ : Wf4 a b c d) (P Q R S : Int) (_ : Wf4 P Q R S) (p : Int) (_ : (Lit.int .i64 p).wf = true) (x : Int) (_ : (Lit.int .i64 x).wf = true) (y : Int) (_ : (Lit.int .i64 y).wf = true) (pv : Value) (w : World) (hg : Sen w pv) :
    Calls Tryd.prog 4 #[.agg #[.int .i64 a, .int .i64 b, .int .i64 c, .int .i64 d], .agg #[.int .i64 P, .int .i64 Q, .int .i64 R, .int .i64 S], .int .i64 p, .int .i64 x, .int .i64 y] w fun e w' => e = .returned (.bool true) ∧ Below w.heap.size w w' := by
  have hef := eqForm_run
  have heq := eqQd_run
  have F2 := (Arr.new w a b c d 25).alloc (.cells #[.int .i64 P, .int .i64 Q, .int .i64 R, .int .i64 S] 50)
  have M2 := Arr.new (w.alloc (.cells #[.int .i64 a, .int .i64 b, .int .i64 c, .int .i64 d] 25)) P Q R S 50
  have U2 := gr_alloc (gr_alloc (Below.refl w.heap.size w) (.cells #[.int .i64 a, .int .i64 b, .int .i64 c, .int .i64 d] 25)) (.cells #[.int .i64 P, .int .i64 Q, .int .i64 R, .int .i64 S] 50)
  have G2 := (hg.alloc (.cells #[.int .i64 a, .int .i64 b, .int .i64 c, .int .i64 d] 25)).alloc (.cells #[.int .i64 P, .int .i64 Q, .int .i64 R, .int .i64 S] 50)
  simp only [World.size_alloc] at M2
  obtain ⟨K, hK⟩ : ∃ K, K = chc a b c d P Q R S := ⟨_, rfl⟩
  obtain ⟨n0, hn0⟩ : ∃ n, n = if0 K (cA a b c d P R) := ⟨_, rfl⟩
  obtain ⟨n1, hn1⟩ : ∃ n, n = if0 K (cB a b c d P Q R S) := ⟨_, rfl⟩
  obtain ⟨n2, hn2⟩ : ∃ n, n = if0 K (cC a b c d P Q R S) := ⟨_, rfl⟩
  obtain ⟨n3, hn3⟩ : ∃ n, n = if0 K (cA a b c d Q S) := ⟨_, rfl⟩
  have hi := fun W => iChangeForm_any a b c d P Q R S W
  have hs := fun W => sChange_any a b c d P Q R S W
  rw [← hK, ← hn0, ← hn1, ← hn2, ← hn3] at hi hs
  have HI := hid hi; have HS := hid hs; have HK := hid hK; have HN0 := hid hn0; have HN1 := hid hn1; have HN2 := hid hn2; have HN3 := hid hn3
  clear hi hs hK hn0 hn1 hn2 hn3 hg
  go_enter Tryd.func4, Tryd.ntmps4
  go_wp2_with fail
  refine (HI.out _).mono ?_
  rintro e w3 ⟨rfl, hb3⟩
  have F3 := (F2.next hb3).alloc (.cells #[.int .i64 n0, .int .i64 n1, .int .i64 n2, .int .i64 n3] 25)
  have M3 := (M2.next hb3).alloc (.cells #[.int .i64 n0, .int .i64 n1, .int .i64 n2, .int .i64 n3] 25)
  have X3 := Arr.new w3 n0 n1 n2 n3 25
  have U3 := gr_alloc (gr_trans U2 hb3) (.cells #[.int .i64 n0, .int .i64 n1, .int .i64 n2, .int .i64 n3] 25)
  have G3 := (G2.next hb3).alloc (.cells #[.int .i64 n0, .int .i64 n1, .int .i64 n2, .int .i64 n3] 25)
  have hl3 := (F2.next hb3).lt
  have hl3' := (M2.next hb3).lt
  clear F2 M2 U2 G2 hb3 HI
  obtain ⟨_, m0, m1, m2, m3, _⟩ := id F3
  obtain ⟨_, d0, d1, d2, d3, _⟩ := id M3
  go_wp2_with fail
  refine (HS.out _).mono ?_
  rintro e w4 ⟨rfl, hb4⟩
  clear m0 m1 m2 m3 d0 d1 d2 d3
  have F4 := (F3.next hb4).alloc (.cells #[.int .i64 n0, .int .i64 n1, .int .i64 n2, .int .i64 n3] 25)
  have M4 := (M3.next hb4).alloc (.cells #[.int .i64 n0, .int .i64 n1, .int .i64 n2, .int .i64 n3] 25)
  have X4 := (X3.next hb4).alloc (.cells #[.int .i64 n0, .int .i64 n1, .int .i64 n2, .int .i64 n3] 25)
  have Y4 := Arr.new w4 n0 n1 n2 n3 25
  have U4 := gr_alloc (gr_trans U3 hb4) (.cells #[.int .i64 n0, .int .i64 n1, .int .i64 n2, .int .i64 n3] 25)
  have G4 := (G3.next hb4).alloc (.cells #[.int .i64 n0, .int .i64 n1, .int .i64 n2, .int .i64 n3] 25)
  have hl4 := (X3.next hb4).lt
  clear F3 M3 X3 U3 G3 hb4 HS
  go_upto_region 3 with fail
  generalize hj1 : w.heap.size = j1 at F4 M4 hl3 hl3' ⊢
  generalize hj3 : w3.heap.size = j3 at X4 hl3 hl3' hl4 ⊢
  generalize hj4 : w4.heap.size = j4 at Y4 hl4 ⊢
  generalize w4.alloc (.cells #[.int .i64 n0, .int .i64 n1, .int .i64 n2, .int .i64 n3] 25) = W at F4 M4 X4 Y4 U4 G4 ⊢
  obtain ⟨_, x0, x1, x2, x3, _⟩ := id X4
  obtain ⟨_, y0, y1, y2, y3, _⟩ := id Y4
  go_upto_if 63 with (fail)
  clear x0 x1 x2 x3 y0 y1 y2 y3 Y4 hl4 hl3 hl3'
  by_cases hk : K = 0
  · have kk := HK.out
    rw [hk] at kk
    have e0 : n0 = cA a b c d P R := by rw [HN0.out, hk]; simp [if0]
    have e1 : n1 = cB a b c d P Q R S := by rw [HN1.out, hk]; simp [if0]
    have e2 : n2 = cC a b c d P Q R S := by rw [HN2.out, hk]; simp [if0]
    have e3 : n3 = cA a b c d Q S := by rw [HN3.out, hk]; simp [if0]
    have E0 := hid e0; have E1 := hid e1; have E2 := hid e2; have E3 := hid e3; have HKK := hid kk
    clear e0 e1 e2 e3 kk HK HN0 HN1 HN2 HN3
    have hkt : (K == 0) = true := by simpa using hk
    subst hk
    obtain ⟨_, m0, m1, m2, m3, _⟩ := id M4
    go_upto_region 8 with fail
    have hgd0 : det P Q R S = P * S - Q * R := by
      obtain ⟨hP, hQ, hR, hS⟩ := isF_t (chc_is HKK.out.symm).2.1
      exact det_eq hP hQ hR hS
    obtain ⟨g, hg0⟩ : ∃ g, g = det P Q R S := ⟨_, rfl⟩
    have hg1 : wrap64 (wrap64 (P * S) - wrap64 (Q * R)) = g := hg0.symm
    rw [← hg0] at hgd0
    rw [hg1]
    have HGD := hid hgd0
    clear hg0 hg1 hgd0 m0 m1 m2 m3
    go_cut [82] (fun s82 wx => s82 = .bool (decide (g = 1 ∨ g = -1)) ∧ wx = W)
    case first =>
      by_cases q1 : g = 1
      · have b1 : (g == 1) = true := by simpa using q1
        go_wp2_with fail
        go_meet
        exact ⟨by simp [q1], rfl⟩
      · have b1 : (g == 1) = false := by simpa using q1
        by_cases q2 : g = -1
        · have b2 : (g == -1) = true := by simpa using q2
          go_wp2_with fail
          go_meet
          exact ⟨by simp [q2], rfl⟩
        · have b2 : (g == -1) = false := by simpa using q2
          go_wp2_with fail
          go_meet
          exact ⟨by simp [q1, q2], rfl⟩
    case rest =>
      obtain ⟨rfl, rfl⟩ := hcut
      go_upto_if 82 with (fail)
      go_cut [] (fun wx => Arr wx j1 a b c d ∧ Arr wx (j1 + 1) P Q R S ∧ Arr wx j3 n0 n1 n2 n3 ∧ Below w.heap.size w wx)
      case first =>
        by_cases hu : g = 1 ∨ g = -1
        · obtain ⟨qd, qc, k1, k2, qk, qa, qb, qe, qm', qf⟩ := pr_eq (p := p) HKK.out.symm HGD.out hu E0.out E1.out E2.out E3.out
          have c1 := fun W => iDisc_any a b c d W
          have c2 := fun W => iDisc_any n0 n1 n2 n3 W
          have c3 := fun W => iContent_any a b c d W
          have c4 := fun W => iContent_any n0 n1 n2 n3 W
          have c5 := fun W => iHessianOf_any a b c d W
          have c6 := fun W => iHessianOf_any n0 n1 n2 n3 W
          have c7 := fun W => iChQ_any (ifF a b c d (h1 a b c)) (ifF a b c d (h2 a b c d)) (ifF a b c d (h3 b c d)) P Q R S W
          have c8 := fun W => sDisc_any a b c d W
          have c9 := fun W => sContent_any a b c d W
          have c10 := fun W => sHessianOf_any a b c d W
          have c11 := fun W hg => iKindModulo_any a b c d p pv W hg
          have c12 := fun W hg => iKindModulo_any n0 n1 n2 n3 p pv W hg
          rw [k1] at c1 c3 c5 c8 c9 c10
          rw [k2] at c2 c4 c6
          rw [qd] at c2
          rw [qc] at c4
          rw [qk, qa, qb, qe] at c7
          simp only [if0, if_true] at c7
          rw [qm', qf] at c12
          generalize dsc0 a b c d = D at c1 c2 c8
          generalize ifF a b c d (cnt a b c d) = C at c3 c4 c9
          generalize ifF a b c d (h1 a b c) = u1 at c5 c7 c10
          generalize ifF a b c d (h2 a b c d) = u2 at c5 c7 c10
          generalize ifF a b c d (h3 b c d) = u3 at c5 c7 c10
          generalize ifF n0 n1 n2 n3 (h1 n0 n1 n2) = v1 at c6 c7
          generalize ifF n0 n1 n2 n3 (h2 n0 n1 n2 n3) = v2 at c6 c7
          generalize ifF n0 n1 n2 n3 (h3 n1 n2 n3) = v3 at c6 c7
          generalize kmv a b c d p = kn at c11 c12
          generalize fpc a b c d p = kf at c11 c12
          have C1 := hid c1; have C2 := hid c2; have C3 := hid c3; have C4 := hid c4; have C5 := hid c5; have C6 := hid c6; have C7 := hid c7; have C8 := hid c8; have C9 := hid c9; have C10 := hid c10; have C11 := hid c11; have C12 := hid c12
          clear c1 c2 c3 c4 c5 c6 c7 c8 c9 c10 c11 c12 qd qc k1 k2 qk qa qb qe qm' qf
          have hdt : decide (g = 1 ∨ g = -1) = true := by simpa using hu
          obtain ⟨_, o0, o1, o2, o3, _⟩ := id F4
          go_wp2_with fail
          refine (C1.out _).mono ?_
          rintro e v5 ⟨rfl, hv5⟩
          clear o0 o1 o2 o3
          have F5 := F4.next hv5
          have M5 := M4.next hv5
          have X5 := X4.next hv5
          have G5 := G4.next hv5
          have U5 := gr_trans U4 hv5
          clear F4 M4 X4 G4 U4 hv5 C1
          obtain ⟨_, o0, o1, o2, o3, _⟩ := id X5
          go_wp2_with fail
          refine (C2.out _).mono ?_
          rintro e v6 ⟨rfl, hv6⟩
          clear o0 o1 o2 o3
          have F6 := F5.next hv6
          have M6 := M5.next hv6
          have X6 := X5.next hv6
          have G6 := G5.next hv6
          have U6 := gr_trans U5 hv6
          clear F5 M5 X5 G5 U5 hv6 C2
          obtain ⟨_, o0, o1, o2, o3, _⟩ := id F6
          go_wp2_with fail
          refine (C3.out _).mono ?_
          rintro e v7 ⟨rfl, hv7⟩
          clear o0 o1 o2 o3
          have F7 := F6.next hv7
          have M7 := M6.next hv7
          have X7 := X6.next hv7
          have G7 := G6.next hv7
          have U7 := gr_trans U6 hv7
          clear F6 M6 X6 G6 U6 hv7 C3
          obtain ⟨_, o0, o1, o2, o3, _⟩ := id X7
          go_wp2_with fail
          refine (C4.out _).mono ?_
          rintro e v8 ⟨rfl, hv8⟩
          clear o0 o1 o2 o3
          have F8 := F7.next hv8
          have M8 := M7.next hv8
          have X8 := X7.next hv8
          have G8 := G7.next hv8
          have U8 := gr_trans U7 hv8
          clear F7 M7 X7 G7 U7 hv8 C4
          obtain ⟨_, o0, o1, o2, o3, _⟩ := id F8
          go_wp2_with fail
          refine (C5.out _).mono ?_
          rintro e v9 ⟨rfl, hv9⟩
          clear o0 o1 o2 o3
          have F9 := F8.next hv9
          have M9 := M8.next hv9
          have X9 := X8.next hv9
          have G9 := G8.next hv9
          have U9 := gr_trans U8 hv9
          clear F8 M8 X8 G8 U8 hv9 C5
          have F10 := F9.alloc (.cells #[.int .i64 u1, .int .i64 u2, .int .i64 u3] 52)
          have M10 := M9.alloc (.cells #[.int .i64 u1, .int .i64 u2, .int .i64 u3] 52)
          have X10 := X9.alloc (.cells #[.int .i64 u1, .int .i64 u2, .int .i64 u3] 52)
          have G10 := G9.alloc (.cells #[.int .i64 u1, .int .i64 u2, .int .i64 u3] 52)
          have U10 := gr_alloc U9 (.cells #[.int .i64 u1, .int .i64 u2, .int .i64 u3] 52)
          have H10 := Arr3.new v9 u1 u2 u3 52
          clear F9 M9 X9 G9 U9
          obtain ⟨_, o0, o1, o2, o3, _⟩ := id X10
          go_wp2_with fail
          refine (C6.out _).mono ?_
          rintro e v11 ⟨rfl, hv11⟩
          clear o0 o1 o2 o3
          have F11 := (F10.next hv11).alloc (.cells #[.int .i64 v1, .int .i64 v2, .int .i64 v3] 52)
          have M11 := (M10.next hv11).alloc (.cells #[.int .i64 v1, .int .i64 v2, .int .i64 v3] 52)
          have X11 := (X10.next hv11).alloc (.cells #[.int .i64 v1, .int .i64 v2, .int .i64 v3] 52)
          have G11 := (G10.next hv11).alloc (.cells #[.int .i64 v1, .int .i64 v2, .int .i64 v3] 52)
          have U11 := gr_alloc (gr_trans U10 hv11) (.cells #[.int .i64 v1, .int .i64 v2, .int .i64 v3] 52)
          have H11 := (H10.next hv11).alloc (.cells #[.int .i64 v1, .int .i64 v2, .int .i64 v3] 52)
          have I11 := Arr3.new v11 v1 v2 v3 52
          have hl11 := (H10.next hv11).lt
          clear F10 M10 X10 G10 U10 H10 hv11 C6
          obtain ⟨_, o0, o1, o2, _⟩ := id H11
          obtain ⟨_, p0, p1, p2, p3, _⟩ := id M11
          go_wp2_with fail
          refine (C7.out _).mono ?_
          rintro e v12 ⟨rfl, hv12⟩
          clear o0 o1 o2 p0 p1 p2 p3
          have F12 := (F11.next hv12).alloc (.cells #[.int .i64 v1, .int .i64 v2, .int .i64 v3] 52)
          have M12 := (M11.next hv12).alloc (.cells #[.int .i64 v1, .int .i64 v2, .int .i64 v3] 52)
          have X12 := (X11.next hv12).alloc (.cells #[.int .i64 v1, .int .i64 v2, .int .i64 v3] 52)
          have G12 := (G11.next hv12).alloc (.cells #[.int .i64 v1, .int .i64 v2, .int .i64 v3] 52)
          have U12 := gr_alloc (gr_trans U11 hv12) (.cells #[.int .i64 v1, .int .i64 v2, .int .i64 v3] 52)
          have I12 := (I11.next hv12).alloc (.cells #[.int .i64 v1, .int .i64 v2, .int .i64 v3] 52)
          have J12 := Arr3.new v12 v1 v2 v3 52
          have hl12 := (I11.next hv12).lt
          clear F11 M11 X11 G11 U11 H11 I11 hv12 C7
          go_upto_region 16 with fail
          generalize hj11 : v11.heap.size = j11 at I12 hl12 hl11 ⊢
          generalize hj12 : v12.heap.size = j12 at J12 hl12 ⊢
          generalize v12.alloc (.cells #[.int .i64 v1, .int .i64 v2, .int .i64 v3] 52) = V at F12 M12 X12 G12 U12 I12 J12 ⊢
          obtain ⟨_, o0, o1, o2, _⟩ := id I12
          obtain ⟨_, p0, p1, p2, _⟩ := id J12
          go_upto_if 159 with (fail)
          clear o0 o1 o2 p0 p1 p2 I12 J12 hl11 hl12 hj11 hj12
          obtain ⟨_, o0, o1, o2, o3, _⟩ := id F12
          go_wp2_with fail
          refine (C8.out _).mono ?_
          rintro e v13 ⟨rfl, hv13⟩
          clear o0 o1 o2 o3
          have F13 := F12.next hv13
          have M13 := M12.next hv13
          have X13 := X12.next hv13
          have G13 := G12.next hv13
          have U13 := gr_trans U12 hv13
          clear F12 M12 X12 G12 U12 hv13 C8
          obtain ⟨_, o0, o1, o2, o3, _⟩ := id F13
          go_wp2_with fail
          refine (C9.out _).mono ?_
          rintro e v14 ⟨rfl, hv14⟩
          clear o0 o1 o2 o3
          have F14 := F13.next hv14
          have M14 := M13.next hv14
          have X14 := X13.next hv14
          have G14 := G13.next hv14
          have U14 := gr_trans U13 hv14
          clear F13 M13 X13 G13 U13 hv14 C9
          obtain ⟨_, o0, o1, o2, o3, _⟩ := id F14
          go_wp2_with fail
          refine (C10.out _).mono ?_
          rintro e v15 ⟨rfl, hv15⟩
          clear o0 o1 o2 o3
          have F15 := F14.next hv15
          have M15 := M14.next hv15
          have X15 := X14.next hv15
          have G15 := G14.next hv15
          have U15 := gr_trans U14 hv15
          clear F14 M14 X14 G14 U14 hv15 C10
          have F16 := F15.alloc (.cells #[.int .i64 u1, .int .i64 u2, .int .i64 u3] 52)
          have M16 := M15.alloc (.cells #[.int .i64 u1, .int .i64 u2, .int .i64 u3] 52)
          have X16 := X15.alloc (.cells #[.int .i64 u1, .int .i64 u2, .int .i64 u3] 52)
          have G16 := G15.alloc (.cells #[.int .i64 u1, .int .i64 u2, .int .i64 u3] 52)
          have U16 := gr_alloc U15 (.cells #[.int .i64 u1, .int .i64 u2, .int .i64 u3] 52)
          clear F15 M15 X15 G15 U15
          go_upto_region 21 with fail
          generalize v15.alloc (.cells #[.int .i64 u1, .int .i64 u2, .int .i64 u3] 52) = V2 at F16 M16 X16 G16 U16 ⊢
          obtain ⟨_, o0, o1, o2, o3, _⟩ := id F16
          go_wp2_with fail
          refine (C11.out _ G16).mono ?_
          rintro e v17 ⟨rfl, hv17⟩
          clear o0 o1 o2 o3
          have F17 := F16.next hv17
          have M17 := M16.next hv17
          have X17 := X16.next hv17
          have G17 := G16.next hv17
          have U17 := gr_trans U16 hv17
          clear F16 M16 X16 G16 U16 hv17 C11
          obtain ⟨_, o0, o1, o2, o3, _⟩ := id X17
          go_wp2_with fail
          refine (C12.out _ G17).mono ?_
          rintro e v18 ⟨rfl, hv18⟩
          clear o0 o1 o2 o3
          have F18 := F17.next hv18
          have M18 := M17.next hv18
          have X18 := X17.next hv18
          have G18 := G17.next hv18
          have U18 := gr_trans U17 hv18
          clear F17 M17 X17 G17 U17 hv18 C12
          by_cases hz : kf = 0
          · have bz : (kf == 0) = true := by simpa using hz
            go_wp2_with fail
            go_meet
            exact ⟨F18, M18, X18, U18⟩
          · have bz : (kf == 0) = false := by simpa using hz
            go_wp2_with fail
            go_meet
            exact ⟨F18, M18, X18, U18⟩
        · have hdf : decide (g = 1 ∨ g = -1) = false := by simpa using hu
          go_wp2_with fail
          go_meet
          exact ⟨F4, M4, X4, U4⟩
      case rest =>
        obtain ⟨F5, M5, X5, U5⟩ := hcut
        clear F4 M4 X4 U4 G4
        by_cases x1 : x < -100000
        · go_wp2_with fail
          go_ret
          exact ⟨rfl, by first | exact U5 | exact hj1 ▸ U5⟩
        by_cases x2 : x > 100000
        · go_wp2_with fail
          go_ret
          exact ⟨rfl, by first | exact U5 | exact hj1 ▸ U5⟩
        by_cases y1 : y < -100000
        · go_wp2_with fail
          go_ret
          exact ⟨rfl, by first | exact U5 | exact hj1 ▸ U5⟩
        by_cases y2 : y > 100000
        · go_wp2_with fail
          go_ret
          exact ⟨rfl, by first | exact U5 | exact hj1 ▸ U5⟩
        have hx : -100000 ≤ x ∧ x ≤ 100000 := by omega
        have hy : -100000 ≤ y ∧ y ≤ 100000 := by omega
        have c1 := fun W => iValueAt_any n0 n1 n2 n3 x y W
        have c2 := fun W => iValueAt_any a b c d (pl (mu P x) (mu Q y)) (pl (mu R x) (mu S y)) W
        have q := fun h1 h2 => pv_eq HKK.out.symm E0.out E1.out E2.out E3.out hx hy h1 h2
        generalize va0 n0 n1 n2 n3 x y = r1 at c1 q
        generalize va0 a b c d (pl (mu P x) (mu Q y)) (pl (mu R x) (mu S y)) = r2 at c2 q
        generalize plc n0 n1 n2 n3 x y = r3 at c1 q
        generalize plc a b c d (pl (mu P x) (mu Q y)) (pl (mu R x) (mu S y)) = r4 at c2 q
        have C1 := hid c1; have C2 := hid c2; have HQ := hid q
        clear c1 c2 q hx hy
        obtain ⟨_, o0, o1, o2, o3, _⟩ := id X5
        go_wp2_with fail
        refine (C1.out _).mono ?_
        rintro e v6 ⟨rfl, hv6⟩
        clear o0 o1 o2 o3
        have F6 := F5.next hv6
        have M6 := M5.next hv6
        have U6 := gr_trans U5 hv6
        clear F5 M5 X5 U5 hv6 C1
        obtain ⟨_, o0, o1, o2, o3, _⟩ := id F6
        obtain ⟨_, p0, p1, p2, p3, _⟩ := id M6
        go_wp2_with fail
        refine (C2.out _).mono ?_
        rintro e v7 ⟨rfl, hv7⟩
        have U7 := gr_trans U6 hv7
        clear o0 o1 o2 o3 p0 p1 p2 p3 F6 M6 U6 hv7 C2 x1 x2 y1 y2
        by_cases h3 : r3 = 0
        · have b3 : (r3 == 0) = true := by simpa using h3
          by_cases h4 : r4 = 0
          · have b4 : (r4 == 0) = true := by simpa using h4
            have e := HQ.out h3 h4
            subst e
            go_wp2_with fail
            go_ret
            exact ⟨rfl, U7⟩
          · have b4 : (r4 == 0) = false := by simpa using h4
            go_wp2_with fail
            go_ret
            exact ⟨rfl, U7⟩
        · have b3 : (r3 == 0) = false := by simpa using h3
          go_wp2_with fail
          go_ret
          exact ⟨rfl, U7⟩
  · have hkf : (K == 0) = false := by simpa using hk
    clear hk
    go_wp2_with fail
    go_ret
    exact ⟨rfl, U4⟩

set_option maxRecDepth 100000 in
set_option maxHeartbeats 1000000 in
theorem FnPromiseOfAll_lifted (os : Os) (started : os.Started) (H : Type) (enc : TypeId × Value → H) :
    ReturnsInHanded {} Tryd.checked os 4 .any (fun w args => (Rows.fnPromiseOfAllSpec.pre enc Tryd.prog Tryd.f4 Rows.fnPromiseOfAllRow.domain false w args ∧ laidMetH Tryd.prog Rows.fnPromiseOfAllRow.laid w) ∧ sizedMet enc Tryd.prog Tryd.f4 (OpenSpec.ofChange Rows.fnPromiseOfAllSpec) false w args)
      (Rows.fnPromiseOfAllSpec.post enc Tryd.prog Tryd.f4 false true false false) := by
  refine returnsInHanded_of_change_and (C := Tryd.checked) (X := fun w _ => laidMetH Tryd.prog Rows.fnPromiseOfAllRow.laid w) (fun _ _ _ hh h => h.of_heap hh) own started (by kernel_rfl) Tryd.func4
    (ChangeSpec.witness_shaped (enc := enc) (C := Tryd.checked) (os := os) (X := fun w _ => laidMetH Tryd.prog Rows.fnPromiseOfAllRow.laid w) false (World.doorLaid Tryd.prog 400 os) #[.agg #[.int .i64 0, .int .i64 0, .int .i64 0, .int .i64 0], .agg #[.int .i64 0, .int .i64 0, .int .i64 0, .int .i64 0], .int .i64 0, .int .i64 0, .int .i64 0] 8 rfl (World.shaped_of_RefB (by kernel_rfl) (by kernel_rfl)) (by kernel_rfl) (by kernel_rfl) (by kernel_rfl) (nf_door os _)) ?_
  intro W base args ds gs before hval0 hW _ _ hL _
  have hval : ∀ (j : Nat) t v, Tryd.f4.params[j]? = some t → args[j]? = some v → Value.okWide Tryd.prog W .any base t v := hval0
  have hW' := hW
  obtain ⟨p, q, hA0, hV, rfl, hfz, hnd⟩ := hW
  have hA : DataW.TrodAll enc Tryd.prog W 0 (fun _ => true) true Tryd.f4.params.toList args.toList ds p := hA0
  rw [Tryd.params4] at hA hval
  obtain ⟨v0, vs0, d0, ds0, p0, q0, hargs, rfl, rfl, h0, r0⟩ := trodAll_cons hA
  obtain ⟨v1, vs1, d1, ds1, p1, q1, rfl, rfl, rfl, h1, r1⟩ := trodAll_cons r0
  obtain ⟨v2, vs2, d2, ds2, p2, q2, rfl, rfl, rfl, h2, r2⟩ := trodAll_cons r1
  obtain ⟨v3, vs3, d3, ds3, p3, q3, rfl, rfl, rfl, h3, r3⟩ := trodAll_cons r2
  obtain ⟨v4, vs4, d4, ds4, p4, q4, rfl, rfl, rfl, h4, r4⟩ := trodAll_cons r3
  obtain ⟨rfl, rfl, rfl⟩ := trodAll_nil r4
  obtain rfl : args = #[v0, v1, v2, v3, v4] := by cases args; simp_all
  obtain ⟨x0, hv0, hs0⟩ := nf_laid hL
  obtain ⟨rfl, rfl⟩ := DataW.TrodVars.unique hV (vars_read1 enc nfG nfT Tryd.underlying69 hv0 trivial _)
  have k0 := h0
  have lt0 : ∀ x ∈ p0, x.block < W.heap.size := by obtain ⟨m, hm⟩ := k0; exact DataW.trod_lt m _ _ _ hm
  obtain ⟨a0, b0, c0, e0, rfl, w0⟩ := open_arr4 Tryd.underlying25 Tryd.underlying2 (by kernel_rfl) (by kernel_rfl) (hval 0 25 v0 rfl rfl) h0
  have k1 := h1
  have lt1 : ∀ x ∈ p1, x.block < W.heap.size := by obtain ⟨m, hm⟩ := k1; exact DataW.trod_lt m _ _ _ hm
  obtain ⟨a1, b1, c1, e1, rfl, w1⟩ := open_arr4 Tryd.underlying50 Tryd.underlying2 (by kernel_rfl) (by kernel_rfl) (hval 1 50 v1 rfl rfl) h1
  have k2 := h2
  have lt2 : ∀ x ∈ p2, x.block < W.heap.size := by obtain ⟨m, hm⟩ := k2; exact DataW.trod_lt m _ _ _ hm
  obtain ⟨a2, rfl, _, _, w2⟩ := open_int Tryd.underlying2 (hval 2 2 v2 rfl rfl) h2
  have k3 := h3
  have lt3 : ∀ x ∈ p3, x.block < W.heap.size := by obtain ⟨m, hm⟩ := k3; exact DataW.trod_lt m _ _ _ hm
  obtain ⟨a3, rfl, _, _, w3⟩ := open_int Tryd.underlying2 (hval 3 2 v3 rfl rfl) h3
  have k4 := h4
  have lt4 : ∀ x ∈ p4, x.block < W.heap.size := by obtain ⟨m, hm⟩ := k4; exact DataW.trod_lt m _ _ _ hm
  obtain ⟨a4, rfl, _, _, w4⟩ := open_int Tryd.underlying2 (hval 4 2 v4 rfl rfl) h4
  clear hA0 hval0
  refine (FnPromiseOfAll_walk a0 b0 c0 e0 w0 a1 b1 c1 e1 w1 a2 w2 a3 w3 a4 w4 x0 W hs0).mono fun e W' ⟨he, bel⟩ => ?_
  subst he
  exact ⟨_, rfl, _, _, _, [], _, _, hW', trodAll_mk1 (shut_bool Tryd.underlying4 _), (trodAll_cons_mk (Below.trod laidOut (by kernel_rfl) (of_decide_eq_true (by kernel_rfl)) k0 bel lt0) (trodAll_cons_mk (Below.trod laidOut (by kernel_rfl) (of_decide_eq_true (by kernel_rfl)) k1 bel lt1) (trodAll_cons_mk (Below.trod laidOut (by kernel_rfl) (of_decide_eq_true (by kernel_rfl)) k2 bel lt2) (trodAll_cons_mk (Below.trod laidOut (by kernel_rfl) (of_decide_eq_true (by kernel_rfl)) k3 bel lt3) (trodAll_cons_mk (Below.trod laidOut (by kernel_rfl) (of_decide_eq_true (by kernel_rfl)) k4 bel lt4) trodAll_mk0))))), vars_read1 enc nfG nfT Tryd.underlying69 (var_below hv0 bel) trivial _, bel.frame _, fun h => by cases h⟩

set_option maxRecDepth 100000 in
set_option maxHeartbeats 1000000 in
theorem FnPromiseOfAll_closed : joinedFacts Tryd.prog 4 Tryd.f4 Rows.fnPromiseOfAllSpec Rows.fnPromiseOfAllRow = true := by
  unfold joinedFacts
  exact clo_and (clo_and (clo_and (clo_and (clo_and (clo_and (clo_and (clo_and (clo_and (clo_and (clo_and (clo_and (clo_and (clo_and (clo_and (clo_and (clo_and (clo_and (clo_and (clo_and (clo_and (clo_and (clo_and (clo_and (clo_and (clo_and (clo_and (clo_and (clo_and (clo_and (clo_and (by kernel_rfl) laidOut) (by kernel_rfl)) (by kernel_rfl)) (by kernel_rfl)) (by kernel_rfl)) (by kernel_rfl)) (by kernel_rfl)) (by kernel_rfl)) (by kernel_rfl)) (by kernel_rfl)) (by kernel_rfl)) (by kernel_rfl)) (by kernel_rfl)) (by kernel_rfl)) (by kernel_rfl)) (by kernel_rfl)) (by kernel_rfl)) (by kernel_rfl)) (by kernel_rfl)) (by kernel_rfl)) (by kernel_rfl)) (by kernel_rfl)) (by kernel_rfl)) (by kernel_rfl)) clo_enter) clo_lifts) clo_make) (by kernel_rfl)) (by kernel_rfl)) (by kernel_rfl)) (by kernel_rfl)

/-- The row of the statement. -/
theorem FnPromiseOfAll_holds : Rows.FnPromiseOfAllSaid :=
  OpenClaim.holds_of_wide 4 Tryd.f4 rfl rfl rfl rfl rfl rfl rfl ⟨rfl, rfl, rfl, rfl, rfl⟩ rfl rfl rfl rfl rfl (by kernel_rfl) Tryd.func4 FnPromiseOfAll_closed
    (of_decide_eq_true (by kernel_rfl)) (by unfold Func.isWrapper; first | (rw [if_pos (by decide +kernel)]; kernel_rfl) | (rw [if_neg (by decide +kernel)]; exact ⟨rfl, rfl⟩))
    (fun os started H enc _ => FnPromiseOfAll_lifted os started H enc)

/-- THE STATEMENT: the row, its listed variable tied to the program's text. -/
theorem FnPromiseOfAll_card : Rows.FnPromiseOfAllCardSaid :=
  Claim7.holds_tied_plain_at .later [] [.sentinel] true (true, "6c26d8e01380eb7f49b15f41cbcd25fecafc0afc05e772a876ec755d07859c05") true
    FnPromiseOfAll_holds (fun _ h => by cases h) (by kernel_rfl) (fun _ h => by cases h) fnPromiseOfAll_row_tie rfl ⟨rfl, rfl⟩ (by kernel_rfl) rfl
    (fun f fn hf hfn => by
      obtain rfl : f = 4 := Option.some.inj ((show Tryd.prog.funcNamed "loop.example/g01342/laws.FnPromiseOfAll" = some 4 by kernel_rfl).symm.trans hf) |>.symm
      obtain rfl : fn = Tryd.f4 := (Option.some.inj (Tryd.func4.symm.trans hfn)).symm
      exact ⟨by kernel_rfl, fun j t ht => by
        rw [Tryd.params4] at ht
        have hm : t ∈ [25, 50, 2, 2, 2] := by simpa using Array.mem_of_getElem? ht
        have hall : ([25, 50, 2, 2, 2].all fun u => !Tryd.prog.wantsStandIn u) = true := by kernel_rfl
        exact (show Tryd.prog.wantsStandIn t = false by simpa using List.all_eq_true.1 hall t hm)⟩)
    (by kernel_rfl)
#print axioms FnPromiseOfAll_card


end Go.Proofs.YtdogkkmdccieiaaDoor
