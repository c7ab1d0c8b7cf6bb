/- Several texts in one: XRg, XOpenD. -/
import Derived.Test.YtambbhldhhlfgaaDoorFkRf
import Derived.Test.YtambbhldhhlfgaaDoorFkZ1
import Derived.Test.YtambbhldhhlfgaaDoorTie
import Derived.Test.YtambbhldhhlfgaaDoorCards
import Derived.Stop.LaidErr
import Derived.LaidMore
import Derived.Stop.Joined
import Derived.SevenTiedAt

/- Chapter 5: roots or an error, the program's. -/
namespace Go.Proofs.YtambbhldhhlfgaaDoor
open Go.RowKit

/-- The package's error for forms without factors is laid. -/
def Sen (w : World) (pv : Value) : Prop := w.cell? ⟨1, 0, none⟩ = some (.iface 191 pv) ∧ 1 < w.heap.size
theorem Sen.next {w w' : World} {pv : Value} (h : Sen w pv) (hb : Below w.heap.size w w') : Sen w' pv := ⟨(hb.cell (p := ⟨1, 0, none⟩) h.2).trans h.1, Nat.lt_of_lt_of_le h.2 hb.size⟩
theorem Sen.alloc {w : World} {pv : Value} (h : Sen w pv) (o : Obj) : Sen (w.alloc o) pv := h.next ((Below.refl _ w).alloc (Nat.le_refl _) o)

set_option maxRecDepth 100000 in
set_option maxHeartbeats 1000000 in
theorem rootsOf_pan (a b c d m : Int) (pv : Value) (w : World) (hg : Sen w pv) (hm0 : 0 ≤ m) (hm97 : m ≤ 499) (ha : -1000 ≤ a ∧ a ≤ 1000) (hb : -1000 ≤ b ∧ b ≤ 1000) (hc : -1000 ≤ c ∧ c ≤ 1000) (hd : -1000 ≤ d ∧ d ≤ 1000)
    (hN : mul0 (cnt a b c d) m = true) :
    Calls Tryd.prog 161 #[.agg #[.int .i64 a, .int .i64 b, .int .i64 c, .int .i64 d], .int .i64 m] w (PanOut pv w) := by
  have HN := hid hN
  clear hN
  have F0 := Bx.new w #[.int .i64 a, .int .i64 b, .int .i64 c, .int .i64 d] 25
  have U0 := gr_alloc (Below.refl w.heap.size w) (.cells #[.int .i64 a, .int .i64 b, .int .i64 c, .int .i64 d] 25)
  have G0 := hg.alloc (.cells #[.int .i64 a, .int .i64 b, .int .i64 c, .int .i64 d] 25)
  go_enter Tryd.func161, Tryd.ntmps161
  go_wp2_with fail
  go_step3
  go_wp2_with fail
  refine (iGcd4_any w.heap.size a b c d _ F0.arr4 ha hb hc hd).mono ?_
  rintro e w1 ⟨rfl, hb1⟩
  have U1 := gr_trans U0 hb1
  have g1 := (G0.next hb1).1
  clear F0 U0 G0
  have hN := HN.out
  generalize cnt a b c d = cn at hN ⊢
  go_wp2_with (go_at_call 85; refine (isMultiple_any _ _ _ hm0 (by omega)).mono ?_; rintro e w' ⟨rfl, rfl⟩)
  exact ⟨rfl, rfl, U1⟩

set_option maxRecDepth 100000 in
set_option maxHeartbeats 1000000 in
theorem rte1_ok (kf km : Nat) (a b c d m : Int) (P : List (Int × Int)) (w : World) (hF : Bx w kf #[.int .i64 a, .int .i64 b, .int .i64 c, .int .i64 d] 25) (hM : Bx w km #[.int .i64 m] 2) (hm0 : 0 ≤ m) (hm97 : m ≤ 499) (ha : -1000 ≤ a ∧ a ≤ 1000) (hb : -1000 ≤ b ∧ b ≤ 1000) (hc : -1000 ≤ c ∧ c ≤ 1000) (hd : -1000 ≤ d ∧ d ≤ 1000)
    (hpl : ∀ W, Calls Tryd.prog 186 #[.agg #[.int .i64 a, .int .i64 b, .int .i64 c, .int .i64 d], .int .i64 m] W (PlOut P W)) (hP0 : 0 < P.length) (hP1 : P.length ≤ 10000000) (hN : mul0 (cnt a b c d) m = false) (hst : ∀ k, (h : k < P.length) → stp m P[k].1 P[k].2 4 [a, b, c, d] = true) :
    Calls Tryd.prog 160 #[.pointer (some ⟨kf, 0, none⟩), .pointer (some ⟨km, 0, none⟩)] w (RtOut (rts m [a, b, c, d] P).length ((rts m [a, b, c, d] P).flatMap tr3) w) := by
  have H := hid (rootsOf_any a b c d m P w hm0 hm97 ha hb hc hd hpl hP0 hP1 hN hst)
  generalize (rts m [a, b, c, d] P).length = n at H ⊢
  generalize (rts m [a, b, c, d] P).flatMap tr3 = xs at H ⊢
  clear hpl hN hst
  obtain ⟨_, c0, c1, c2, c3, _⟩ := hF.arr4
  have d0 := hM.cell 0
  go_enter Tryd.func160, Tryd.ntmps160
  go_wp2_with fail
  refine H.out.mono ?_
  rintro e w1 ⟨v, rfl, hO, hU⟩
  go_wp2_with fail
  go_ret
  exact ⟨v, rfl, hO, hU⟩

set_option maxRecDepth 100000 in
set_option maxHeartbeats 1000000 in
theorem rte1_err (kf km : Nat) (a b c d m : Int) (pv : Value) (w : World) (hg : Sen w pv) (hF : Bx w kf #[.int .i64 a, .int .i64 b, .int .i64 c, .int .i64 d] 25) (hM : Bx w km #[.int .i64 m] 2) (hm0 : 0 ≤ m) (hm97 : m ≤ 499) (ha : -1000 ≤ a ∧ a ≤ 1000) (hb : -1000 ≤ b ∧ b ≤ 1000) (hc : -1000 ≤ c ∧ c ≤ 1000) (hd : -1000 ≤ d ∧ d ≤ 1000) (hN : mul0 (cnt a b c d) m = true) :
    Calls Tryd.prog 160 #[.pointer (some ⟨kf, 0, none⟩), .pointer (some ⟨km, 0, none⟩)] w (PanOut pv w) := by
  have H := hid (rootsOf_pan a b c d m pv w hg hm0 hm97 ha hb hc hd hN)
  clear hN hg
  obtain ⟨_, c0, c1, c2, c3, _⟩ := hF.arr4
  have d0 := hM.cell 0
  go_enter Tryd.func160, Tryd.ntmps160
  go_wp2_with fail
  refine H.out.mono ?_
  rintro e w1 ⟨rfl, hU⟩
  exact ⟨rfl, rfl, hU⟩

set_option maxRecDepth 100000 in
set_option maxHeartbeats 1000000 in
theorem rootsOrError_ok (a b c d m : Int) (P : List (Int × Int)) (w : World) (hm0 : 0 ≤ m) (hm97 : m ≤ 499) (ha : -1000 ≤ a ∧ a ≤ 1000) (hb : -1000 ≤ b ∧ b ≤ 1000) (hc : -1000 ≤ c ∧ c ≤ 1000) (hd : -1000 ≤ d ∧ d ≤ 1000)
    (hpl : ∀ W, Calls Tryd.prog 186 #[.agg #[.int .i64 a, .int .i64 b, .int .i64 c, .int .i64 d], .int .i64 m] W (PlOut P W)) (hP0 : 0 < P.length) (hP1 : P.length ≤ 10000000) (hN : mul0 (cnt a b c d) m = false) (hst : ∀ k, (h : k < P.length) → stp m P[k].1 P[k].2 4 [a, b, c, d] = true) :
    Calls Tryd.prog 94 #[.agg #[.int .i64 a, .int .i64 b, .int .i64 c, .int .i64 d], .int .i64 m] w (RtOk (rts m [a, b, c, d] P).length ((rts m [a, b, c, d] P).flatMap tr3) w) := by
  have hmf : ∀ (fn : Fn) (first cap : Array Value) (w : World), (Instr.makeFunc fn first cap).run Tryd.prog w = .ok (.func fn first cap) w := fun _ _ _ _ => rfl
  have F0 := (Bx.new w #[.int .i64 a, .int .i64 b, .int .i64 c, .int .i64 d] 25).alloc (.cells #[.int .i64 m] 2)
  have M0 := Bx.new (w.alloc (.cells #[.int .i64 a, .int .i64 b, .int .i64 c, .int .i64 d] 25)) #[.int .i64 m] 2
  have U0 := gr_alloc (gr_alloc (Below.refl w.heap.size w) (.cells #[.int .i64 a, .int .i64 b, .int .i64 c, .int .i64 d] 25)) (.cells #[.int .i64 m] 2)
  simp only [World.size_alloc] at M0
  have H := hid (orErrR_ok ⟨w.heap.size, 0, none⟩ ⟨w.heap.size + 1, 0, none⟩ _ _ _ (rte1_ok w.heap.size (w.heap.size + 1) a b c d m P (((w.alloc (.cells #[.int .i64 a, .int .i64 b, .int .i64 c, .int .i64 d] 25)).alloc (.cells #[.int .i64 m] 2)).alloc (.cells #[.nilIface] 97)) (F0.alloc _) (M0.alloc _) hm0 hm97 ha hb hc hd hpl hP0 hP1 hN hst))
  generalize (rts m [a, b, c, d] P).length = n at H ⊢
  generalize (rts m [a, b, c, d] P).flatMap tr3 = xs at H ⊢
  clear hpl hN hst F0 M0
  go_enter Tryd.func94, Tryd.ntmps94
  go_wp2_with fail
  refine H.out.mono ?_
  rintro e w1 ⟨v, rfl, hO, hU⟩
  go_wp2_with fail
  go_ret2
  exact ⟨v, rfl, owns_mono hO U0.size, gr_trans U0 hU⟩

set_option maxRecDepth 100000 in
set_option maxHeartbeats 1000000 in
theorem rootsOrError_err (a b c d m : Int) (pv : Value) (w : World) (hg : Sen w pv) (hm0 : 0 ≤ m) (hm97 : m ≤ 499) (ha : -1000 ≤ a ∧ a ≤ 1000) (hb : -1000 ≤ b ∧ b ≤ 1000) (hc : -1000 ≤ c ∧ c ≤ 1000) (hd : -1000 ≤ d ∧ d ≤ 1000) (hN : mul0 (cnt a b c d) m = true) :
    Calls Tryd.prog 94 #[.agg #[.int .i64 a, .int .i64 b, .int .i64 c, .int .i64 d], .int .i64 m] w fun e w' => e = .returned (.tuple #[.slice none 0 0, .iface 191 pv]) ∧ Below w.heap.size w w' := by
  have hmf : ∀ (fn : Fn) (first cap : Array Value) (w : World), (Instr.makeFunc fn first cap).run Tryd.prog w = .ok (.func fn first cap) w := fun _ _ _ _ => rfl
  have F0 := (Bx.new w #[.int .i64 a, .int .i64 b, .int .i64 c, .int .i64 d] 25).alloc (.cells #[.int .i64 m] 2)
  have M0 := Bx.new (w.alloc (.cells #[.int .i64 a, .int .i64 b, .int .i64 c, .int .i64 d] 25)) #[.int .i64 m] 2
  have U0 := gr_alloc (gr_alloc (Below.refl w.heap.size w) (.cells #[.int .i64 a, .int .i64 b, .int .i64 c, .int .i64 d] 25)) (.cells #[.int .i64 m] 2)
  simp only [World.size_alloc] at M0
  have H := hid (orErrR_err ⟨w.heap.size, 0, none⟩ ⟨w.heap.size + 1, 0, none⟩ pv _ (rte1_err w.heap.size (w.heap.size + 1) a b c d m pv (((w.alloc (.cells #[.int .i64 a, .int .i64 b, .int .i64 c, .int .i64 d] 25)).alloc (.cells #[.int .i64 m] 2)).alloc (.cells #[.nilIface] 97)) (((hg.alloc _).alloc _).alloc _) (F0.alloc _) (M0.alloc _) hm0 hm97 ha hb hc hd hN))
  clear hN hg F0 M0
  go_enter Tryd.func94, Tryd.ntmps94
  go_wp2_with fail
  refine H.out.mono ?_
  rintro e w1 ⟨rfl, hU⟩
  go_wp2_with fail
  go_ret2
  exact ⟨rfl, gr_trans U0 hU⟩


end Go.Proofs.YtambbhldhhlfgaaDoor

/- What the door's condition gives a walk: the package's error for forms without factors is laid. -/
namespace Go.Proofs.YtambbhldhhlfgaaDoor
open Go.ChangeShapes Go.WideShapes Go.ChangeAt Go.RowKit

theorem nfG : Tryd.prog.globalNamed "loop.example/g01342/impl.errNoFactors" = some 1 := by kernel_rfl
theorem nfT : (Tryd.prog.globals[1]?).map (·.type) = some 97 := by kernel_rfl
theorem esStar : "*" ++ "errors.errorString" = "*errors.errorString" := by decide
theorem esRow (u : TypeId) (h : Tryd.prog.typeName? 3 u = some "*errors.errorString") : u = 191 :=
  typeName_ptr_named (nm := "errors.errorString") (by rw [esStar]; kernel_rfl) (by kernel_rfl) (by decide) u (by rw [esStar]; exact h)
theorem esCells : Tryd.prog.cellsOf 209 = 1 := by kernel_rfl
theorem strCells : Tryd.prog.cellsOf 9 = 1 := by kernel_rfl
theorem var_below {P : Program} {W W' : World} {n : String} {cs : Array Value} (h : W.var? P n = some cs) (hb : Below W.heap.size W W') : W'.var? P n = some cs := by
  unfold World.var? at h ⊢
  cases hg : P.globalNamed n with
  | none => simp [hg] at h
  | some g =>
    simp only [hg, Option.bind_some] at h ⊢
    have hlt : g < W.heap.size := by
      rcases Nat.lt_or_ge g W.heap.size with h' | h'
      · exact h'
      · simp [Array.getElem?_eq_none h'] at h
    rw [hb.block g hlt]; exact h
def nfLaid : List (String × DataW Unit) := [("loop.example/g01342/impl.errNoFactors", .iface "*errors.errorString" (.ptr (.agg [.lit (.string [116, 104, 101, 32, 102, 111, 114, 109, 32, 105, 115, 32, 48, 32, 97, 110, 100, 32, 104, 97, 115, 32, 110, 111, 32, 102, 97, 99, 116, 111, 114, 115])])))]
theorem nf_laid {W : World} (h : laidMetH Tryd.prog nfLaid W) : ∃ x0, W.var? Tryd.prog "loop.example/g01342/impl.errNoFactors" = some #[.iface 191 x0] ∧ Sen W x0 := by
  have h' : laidMet Tryd.prog nfLaid W := h
  obtain ⟨a, s, hv, _⟩ := laid_sentinel h' nfG nfT Tryd.underlying97 esRow Tryd.underlying191 Tryd.underlying209 rfl rfl Tryd.underlying9 esCells strCells
  have hc : W.cell? ⟨1, 0, none⟩ = some (.iface 191 (.pointer (some a))) := by simpa using World.var?_cell nfG hv 0
  exact ⟨_, hv, hc, World.block_lt_of_cell? W _ hc⟩
theorem nf_door (os : Os) (args : Array Value) : laidMetH Tryd.prog nfLaid ((World.doorLaid Tryd.prog 400 os).forCall (fun _ _ => 0) ⟨#[], args, []⟩).memory :=
  laidMetH_of_parts3 (fuel := 8) (laidMet_of_run' 8 (by kernel_rfl) (by kernel_rfl)) (by kernel_rfl) (by kernel_rfl)


end Go.Proofs.YtambbhldhhlfgaaDoor
