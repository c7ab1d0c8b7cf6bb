/- Chapter 4: inverses of units, the program's, whole. -/
import Derived.Test.YtdogkkmdccieiaaDoorIw
import Derived.Test.YtdogkkmdccieiaaDoorZ17
import Derived.Test.YtdogkkmdccieiaaDoorZ24
namespace Go.Proofs.YtdogkkmdccieiaaDoor
open Go.RowKit

theorem ne_nilU (w : World) : (binOp .neq 69 .nilIface .nilIface).run Tryd.prog w = .ok (.bool false) w := by kernel_rfl
theorem ne_errU (pv : Value) (w : World) : (binOp .neq 69 (.iface 154 pv) .nilIface).run Tryd.prog w = .ok (.bool true) w := by kernel_rfl

set_option maxRecDepth 100000 in
set_option maxHeartbeats 1000000 in
theorem orErrE_err (a b : Addr) (pv : Value) (w : World) (hC : Calls Tryd.prog 51 #[.pointer (some a), .pointer (some b)] ((w.alloc (.cells #[.int .i64 0, .int .i64 0, .int .i64 0] 27)).alloc (.cells #[.nilIface] 69)) (PanU pv ((w.alloc (.cells #[.int .i64 0, .int .i64 0, .int .i64 0] 27)).alloc (.cells #[.nilIface] 69)))) :
    Calls Tryd.prog 50 #[.func (.func 51) #[] #[.pointer (some a), .pointer (some b)]] w fun e w' => e = .returned (.tuple #[.agg #[.int .i64 0, .int .i64 0, .int .i64 0], .iface 154 pv]) ∧ Below w.heap.size w w' := by
  have hmf : ∀ (fn : Fn) (first cap : Array Value) (w : World), (Instr.makeFunc fn first cap).run Tryd.prog w = .ok (.func fn first cap) w := fun _ _ _ _ => rfl
  have H := hid hC
  clear hC
  have R0 := (Arr3.new w 0 0 0 27).alloc (.cells #[.nilIface] 69)
  have E0 := Bx.new (w.alloc (.cells #[.int .i64 0, .int .i64 0, .int .i64 0] 27)) #[.nilIface] 69
  simp only [World.size_alloc] at E0
  have U0 := gr_alloc (gr_alloc (Below.refl w.heap.size w) (.cells #[.int .i64 0, .int .i64 0, .int .i64 0] 27)) (.cells #[.nilIface] 69)
  go_enter_defers Tryd.func50, Tryd.ntmps50
  go_wp2_with fail
  refine H.out.mono ?_
  rintro e w1 ⟨rfl, hb⟩
  have R1 := R0.next hb
  have E1 := E0.next hb
  have U1 := gr_trans U0 hb
  have e0 := E1.cell 0
  have f0 := E1.frozen 0
  refine leaves_cons (f := 93) (args := #[.pointer (some ⟨w.heap.size + 1, 0, none⟩)]) (by simp) (by simp [go_sem]) ?_
  refine (catchE_panic ⟨w.heap.size + 1, 0, none⟩ .nilIface pv [] _ (by rw [e0]; rfl) f0).mono ?_
  rintro e u' w2 ⟨rfl, rfl, rfl⟩
  have hc : (w1.setCell ⟨w.heap.size + 1, 0, none⟩ (.iface 154 pv)).cell? ⟨w.heap.size + 1, 0, none⟩ = some (.iface 154 pv) := World.cell?_setCell_same' _ _ _ (by rw [e0]; rfl)
  have R3 := R1.oth (p := ⟨w.heap.size + 1, 0, none⟩) (by simp) (.iface 154 pv)
  refine ⟨.tuple #[.agg #[.int .i64 0, .int .i64 0, .int .i64 0], .iface 154 pv], res_A3c (e := 2) rfl Tryd.underlying27 (by kernel_rfl) rfl rfl R3 (by simp [go_sem, hc]), rfl, ?_⟩
  exact gr_set U1 (by show w.heap.size ≤ w.heap.size + 1; omega) _

set_option maxRecDepth 100000 in
set_option maxHeartbeats 2000000 in
theorem iInverseElem_any (a b c d u v x : Int) (pv : Value) (w : World) (hg : SenU w pv) :
    Calls Tryd.prog 10 #[.agg #[.int .i64 a, .int .i64 b, .int .i64 c, .int .i64 d], .agg #[.int .i64 u, .int .i64 v, .int .i64 x]] w fun e w' =>
      e = .returned (.tuple #[.agg #[.int .i64 (if0 (ivc a b c d u v x) (iv0 a b c d u v x)), .int .i64 (if0 (ivc a b c d u v x) (iv1 a b c d u v x)), .int .i64 (if0 (ivc a b c d u v x) (iv2 a b c d u v x))], .int .i64 (ivc a b c d u v x)]) ∧ Below w.heap.size w w' := by
  have hc := fun W => iWithinFE_any 100 a b c d u v x W (by omega) (by omega)
  have hpol : few 100 a b c d u v x = 0 → ∀ W, Calls Tryd.prog 61 #[.agg #[.int .i64 (np a c), .int .i64 b, .int .i64 (ng a), .int .i64 (np a d), .int .i64 0, .int .i64 0, .int .i64 (np b d), .int .i64 d, .int .i64 (ng c)], .agg #[.int .i64 u, .int .i64 v, .int .i64 x]] W fun e w' =>
      e = .returned (.agg #[.int .i64 1, .int .i64 (wrap64 (-tr3 (mtf a b c d u v x))), .int .i64 (wrap64 (mi3 (mtf a b c d u v x))), .int .i64 (wrap64 (-de3 (mtf a b c d u v x)))]) ∧ Below W.heap.size W w' := fun h W => iPoly_any (np a c) b (ng a) (np a d) 0 0 (np b d) d (ng c) u v x W (mtf_bd (few_t h).1 (few_t h).2.1)
  have hok : few 100 a b c d u v x = 0 → (ivN a b c d u v x = 1 ∨ ivN a b c d u v x = -1) → ∀ W kf kx, Arr W kf a b c d → Arr3 W kx u v x → Calls Tryd.prog 50 #[.func (.func 51) #[] #[.pointer (some ⟨kf, 0, none⟩), .pointer (some ⟨kx, 0, none⟩)]] W fun e w' => e = .returned (.tuple #[.agg #[.int .i64 (iv0 a b c d u v x), .int .i64 (iv1 a b c d u v x), .int .i64 (iv2 a b c d u v x)], .nilIface]) ∧ Below W.heap.size W w' := fun h hu W kf kx hF hX =>
    orErrE_ok _ _ _ _ _ W (ivc_ok kf kx a b c d u v x _ _ _ _ ((hF.alloc _).alloc _) ((hX.alloc _).alloc _) fun W' => inverse_ok _ _ _ _ _ _ _ _ _ u v x _ _ _ _ W' (hpol h) rfl hu)
  have hno : few 100 a b c d u v x = 0 → ¬ (ivN a b c d u v x = 1 ∨ ivN a b c d u v x = -1) → ∀ W kf kx, SenU W pv → Arr W kf a b c d → Arr3 W kx u v x → Calls Tryd.prog 50 #[.func (.func 51) #[] #[.pointer (some ⟨kf, 0, none⟩), .pointer (some ⟨kx, 0, none⟩)]] W fun e w' => e = .returned (.tuple #[.agg #[.int .i64 0, .int .i64 0, .int .i64 0], .iface 154 pv]) ∧ Below W.heap.size W w' := fun h hu W kf kx hG hF hX =>
    orErrE_err _ _ pv W (ivc_err kf kx a b c d u v x pv _ ((hG.alloc _).alloc _) ((hF.alloc _).alloc _) ((hX.alloc _).alloc _) fun W' hG' => inverse_pan _ _ _ _ _ _ _ _ _ u v x _ _ _ _ pv W' hG' (hpol h) rfl (fun e => hu (.inl e)) (fun e => hu (.inr e)))
  have ht := fun W => iTold_any (iv0 a b c d u v x) (iv1 a b c d u v x) (iv2 a b c d u v x) W
  unfold ivc
  generalize iv0 a b c d u v x = r0 at hok ht ⊢
  generalize iv1 a b c d u v x = r1 at hok ht ⊢
  generalize iv2 a b c d u v x = r2 at hok ht ⊢
  generalize ivN a b c d u v x = N at hok hno ⊢
  generalize few 100 a b c d u v x = k at hc hok hno ⊢
  generalize elc r0 r1 r2 = ec at ht ⊢
  generalize hKK : ivK k N ec = K
  have HKK := hid hKK
  clear hKK
  have HC := hid hc; have HO := hid hok; have HN := hid hno; have HT := hid ht
  clear hc hok hno ht hpol
  have q1 := ne_nilU
  have q2 := ne_errU pv
  have F0 := ((Arr.new w a b c d 25).alloc (.cells #[.int .i64 u, .int .i64 v, .int .i64 x] 27)).alloc (.cells #[.int .i64 0, .int .i64 0, .int .i64 0] 27)
  have X0 := (Arr3.new (w.alloc (.cells #[.int .i64 a, .int .i64 b, .int .i64 c, .int .i64 d] 25)) u v x 27).alloc (.cells #[.int .i64 0, .int .i64 0, .int .i64 0] 27)
  have R0 := Arr3.new ((w.alloc (.cells #[.int .i64 a, .int .i64 b, .int .i64 c, .int .i64 d] 25)).alloc (.cells #[.int .i64 u, .int .i64 v, .int .i64 x] 27)) 0 0 0 27
  have U0 := gr_alloc (gr_alloc (gr_alloc (Below.refl w.heap.size w) (.cells #[.int .i64 a, .int .i64 b, .int .i64 c, .int .i64 d] 25)) (.cells #[.int .i64 u, .int .i64 v, .int .i64 x] 27)) (.cells #[.int .i64 0, .int .i64 0, .int .i64 0] 27)
  have G0 := ((hg.alloc (.cells #[.int .i64 a, .int .i64 b, .int .i64 c, .int .i64 d] 25)).alloc (.cells #[.int .i64 u, .int .i64 v, .int .i64 x] 27)).alloc (.cells #[.int .i64 0, .int .i64 0, .int .i64 0] 27)
  simp only [World.size_alloc] at X0 R0
  go_enter Tryd.func10, Tryd.ntmps10
  go_wp2_with fail
  refine (HC.out _).mono ?_
  rintro e w1 ⟨rfl, hb1⟩
  have F1 := F0.next hb1
  have X1 := X0.next hb1
  have R1 := R0.next hb1
  have U1 := gr_trans U0 hb1
  have G1 := G0.next hb1
  clear F0 X0 R0 U0 G0 hg
  by_cases hk : ¬ k = 0
  · obtain ⟨_, r0', r1', r2', f0, f1, f2⟩ := id R1
    have HK := hid hk
    have hk' : (k != 0) = true := by simpa using hk
    clear hk
    go_wp2_with fail
    refine bodyPost_ret (res_A3 (e := 2) rfl Tryd.underlying27 (by kernel_rfl) rfl (by (repeat (first | with_reducible assumption | with_reducible exact Arr3.box (by assumption) | with_reducible exact Arr3.new _ _ _ _ _ | with_reducible refine Arr3.drew ?_ | with_reducible refine Arr3.drewN ?_ _ | with_reducible refine Arr3.store3 ?_ | with_reducible refine Arr3.alloc ?_ _ | with_reducible refine Arr3.next ?_ (by assumption) | refine Arr3.oth ?_ (by first | (simp; done) | omega | (simp; omega)) _ )))) rfl ?_
    rw [← HKK.out, ivK_n HK.out]
    exact ⟨ret_t3 (by simp [if0, HK.out]) (by simp [if0, HK.out]) (by simp [if0, HK.out]) rfl, by (repeat' (first | with_reducible exact Below.refl _ _ | with_reducible assumption | with_reducible refine gr_alloc ?_ _ | with_reducible refine gr_drew ?_ | with_reducible refine gr_drewN ?_ _ | with_reducible refine gr_trans ?_ (by assumption) | with_reducible refine gr_set ?_ ?_ _ | (simp; done) | omega | (simp; omega)))⟩
  have hk0 : k = 0 := by omega
  subst hk0
  clear hk
  by_cases hu : N = 1 ∨ N = -1
  · have HO1 := hid (HO.out (by first | rfl | trivial) hu)
    have HU := hid (ivK_u (N := N) (e := ec) hu)
    clear hu HO HN
    go_wp2_with fail
    refine (HO1.out _ _ _ F1 X1).mono ?_
    rintro e w2 ⟨rfl, hb2⟩
    have R2 := R1.next hb2
    have U2 := gr_trans U1 hb2
    have hzr := R1.lt
    have hz2 := hb2.size
    have Y2 := Arr3.new w2 r0 r1 r2 27
    clear F1 X1 R1 U1
    go_upto_region 7 with fail
    have R3 := R2.alloc (.cells #[.int .i64 r0, .int .i64 r1, .int .i64 r2] 27)
    have U3 := gr_alloc U2 (.cells #[.int .i64 r0, .int .i64 r1, .int .i64 r2] 27)
    generalize w2.alloc (.cells #[.int .i64 r0, .int .i64 r1, .int .i64 r2] 27) = w3 at Y2 R3 U3 ⊢
    obtain ⟨_, y0, y1, y2, _⟩ := id Y2
    go_wp2_with fail
    refine (HT.out _).mono ?_
    rintro e w4 ⟨rfl, hb4⟩
    have R4 := R3.next hb4
    obtain ⟨_, r0', r1', r2', f0, f1, f2⟩ := id R4
    go_wp2_with fail
    refine bodyPost_ret (res_A3 (e := 2) rfl Tryd.underlying27 (by kernel_rfl) rfl (by (repeat (first | with_reducible assumption | with_reducible exact Arr3.box (by assumption) | with_reducible exact Arr3.new _ _ _ _ _ | with_reducible refine Arr3.drew ?_ | with_reducible refine Arr3.drewN ?_ _ | with_reducible refine Arr3.store3 ?_ | with_reducible refine Arr3.alloc ?_ _ | with_reducible refine Arr3.next ?_ (by assumption) | refine Arr3.oth ?_ (by first | (simp; done) | omega | (simp; omega)) _ )))) rfl ?_
    rw [← HKK.out, HU.out]
    exact ⟨rfl, by (repeat' (first | with_reducible exact Below.refl _ _ | with_reducible assumption | with_reducible refine gr_alloc ?_ _ | with_reducible refine gr_drew ?_ | with_reducible refine gr_drewN ?_ _ | with_reducible refine gr_trans ?_ (by assumption) | with_reducible refine gr_set ?_ ?_ _ | (simp; done) | omega | (simp; omega)))⟩
  · have HN1 := hid (HN.out (by first | rfl | trivial) hu)
    have HU := hid (ivK_5 (N := N) (e := ec) hu)
    clear hu HO HN
    go_wp2_with fail
    refine (HN1.out _ _ _ G1 F1 X1).mono ?_
    rintro e w2 ⟨rfl, hb2⟩
    have R2 := R1.next hb2
    have U2 := gr_alloc (gr_trans U1 hb2) (.cells #[.int .i64 0, .int .i64 0, .int .i64 0] 27)
    have R3 := R2.alloc (.cells #[.int .i64 0, .int .i64 0, .int .i64 0] 27)
    obtain ⟨_, r0', r1', r2', f0, f1, f2⟩ := id R3
    clear F1 X1 R1 U1
    go_wp2_with fail
    refine bodyPost_ret (res_A3 (e := 2) rfl Tryd.underlying27 (by kernel_rfl) rfl (by (repeat (first | with_reducible assumption | with_reducible exact Arr3.box (by assumption) | with_reducible exact Arr3.new _ _ _ _ _ | with_reducible refine Arr3.drew ?_ | with_reducible refine Arr3.drewN ?_ _ | with_reducible refine Arr3.store3 ?_ | with_reducible refine Arr3.alloc ?_ _ | with_reducible refine Arr3.next ?_ (by assumption) | refine Arr3.oth ?_ (by first | (simp; done) | omega | (simp; omega)) _ )))) rfl ?_
    rw [← HKK.out, HU.out]
    exact ⟨ret_t3 (by simp [if0]) (by simp [if0]) (by simp [if0]) rfl, by (repeat' (first | with_reducible exact Below.refl _ _ | with_reducible assumption | with_reducible refine gr_alloc ?_ _ | with_reducible refine gr_drew ?_ | with_reducible refine gr_drewN ?_ _ | with_reducible refine gr_trans ?_ (by assumption) | with_reducible refine gr_set ?_ ?_ _ | (simp; done) | omega | (simp; omega)))⟩


end Go.Proofs.YtdogkkmdccieiaaDoor
