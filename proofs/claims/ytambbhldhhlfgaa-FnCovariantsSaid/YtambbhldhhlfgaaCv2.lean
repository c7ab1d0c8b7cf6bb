/- FnCovariants, cut: the second block: changed quadratic forms. -/
import Derived.Test.YtambbhldhhlfgaaCv4
import Derived.Test.YtambbhldhhlfgaaDraw11
import Derived.Test.YtambbhldhhlfgaaMath
namespace Go.Proofs.Ytambbhldhhlfgaa
open Go.ChangeShapes Go.WideShapes Go.ChangeAt Go.RowKit

theorem eqQ_run (a b c p q r : Int) (w : World) : (Op.equalIn 10000 49 (.agg #[.int .i64 a, .int .i64 b, .int .i64 c]) (.agg #[.int .i64 p, .int .i64 q, .int .i64 r])).run Try.prog w = .ok (a == p && b == q && c == r) w := by
  have u := Try.underlying2
  have ia := Try.isAgg2
  have z := Try.sizeOf2
  rw [show (10000 : Nat) = 9999 + 1 from rfl, Op.equalIn]
  simp only [Sem.run_bind, run_underlying Try.underlying49, Result.andThen_ok]
  simp only [Std.Legacy.Range.forIn_eq_forIn_range', Std.Legacy.Range.size, Nat.sub_zero, Nat.add_sub_cancel, Nat.div_one, List.range'_succ, List.range'_zero, List.forIn_cons, List.forIn_nil]
  go_simp
  by_cases h1 : a = p <;> by_cases h2 : b = q <;> by_cases h3 : c = r <;> simp [h1, h2, h3]

set_option maxRecDepth 1000000 in
set_option maxHeartbeats 8000000 in
theorem cseg71_any (w : World) (a0 : Option Addr) (len0 cap0 : Nat) (z0 : List Int) (HR : Hid (IsRow .u8 w a0 len0 cap0 z0)) (hlen : len0 ≤ 9223372036854775807) (wc : World) (hcut : Below w.heap.size w wc) (u1 u2 u3 u4 u5 u6 u7 u8 u9 u10 u11 u12 u13 u14 u15 u16 u17 u18 u19 u20 u21 u22 u23 u24 u25 u26 u27 u28 u29 u30 u31 u32 u33 u34 u35 u36 u37 u38 u39 u40 u41 u42 u43 u44 u45 u46 u47 u48 u49 u50 u51 u52 u53 u54 u55 u56 u57 u58 u59 u60 u61 u62 u63 u64 u65 u66 u67 u68 u69 u70 u71 u72 u73 u74 u75 u76 u77 u78 u79 u80 u81 u82 u83 u84 u85 u86 u87 u88 u89 u90 u91 u92 u93 u94 u95 u96 u97 u98 u99 u100 u101 u102 u103 u104 u105 u106 u107 u108 u109 u110 u111 u112 u113 u114 u115 u116 u117 u118 u119 u120 u121 u122 u123 u124 u125 u126 u127 u128 u129 u130 u131 u132 u133 u134 u135 u136 u137 u138 u139 u140 u141 u142 u143 u144 u145 u146 u147 u148 u149 u150 u151 u152 u153 u154 u155 u156 u157 u158 u159 u160 u161 u162 u163 u164 u165 u166 u167 u168 u169 u170 u171 u172 u173 u174 u175 u176 u177 u178 u179 u180 u181 u182 u183 u184 u185 u186 u187 u188 u189 u190 u191 u192 u193 u194 u195 u196 u197 u198 u199 u200 u201 u202 u203 u204 u205 u206 u207 u208 u209 u210 u211 u212 u213 u214 u215 u216 u217 u218 u219 u220 u221 u222 u223 u224 u225 u226 u227 u228 u229 u230 u231 u232 u233 u234 u235 u236 u237 u238 u239 u240 u241 u242 u243 u244 u245 u246 u247 u248 u249 u250 u251 u252 u253 u254 u255 u256 u257 u258 u259 u260 u261 u262 u263 u264 u265 u266 u267 u268 u269 u270 u271 u272 u273 u274 u275 u276 u277 u278 u279 u280 u281 u282 u283 u284 u285 u286 u287 u288 u289 u290 u291 u292 u293 u294 u295 u296 u297 u298 u299 u300 u301 u302 u303 u304 u305 u306 u307 u308 u309 u310 u311 u312 u313 u314 u315 u316 u317 u318 u319 u320 u321 u322 u323 u324 u325 u326 u327 u328 u329 u330 u331 u332 u333 u334 u335 u336 u337 u338 u339 u340 u341 u342 u343 u344 u345 u346 : Value) :
    Code.wp Try.prog (cseg 71) (bodyPost Try.prog Try.f4 fun e w' => e = .returned (.bool true) ∧ Below w.heap.size w w') ⟨#[.slice a0 len0 cap0, u1, u2, u3, u4, u5, u6, u7, u8, u9, u10, u11, u12, u13, u14, u15, u16, u17, u18, u19, u20, u21, u22, u23, u24, u25, u26, u27, u28, u29, u30, u31, u32, u33, u34, u35, u36, u37, u38, u39, u40, u41, u42, u43, u44, u45, u46, u47, u48, u49, u50, u51, u52, u53, u54, u55, u56, u57, u58, u59, u60, u61, u62, u63, u64, u65, u66, u67, u68, u69, u70, u71, u72, u73, u74, u75, u76, u77, u78, u79, u80, u81, u82, u83, u84, u85, u86, u87, u88, u89, u90, u91, u92, u93, u94, u95, u96, u97, u98, u99, u100, u101, u102, u103, u104, u105, u106, u107, u108, u109, u110, u111, u112, u113, u114, u115, u116, u117, u118, u119, u120, u121, u122, u123, u124, u125, u126, u127, u128, u129, u130, u131, u132, u133, u134, u135, u136, u137, u138, u139, u140, u141, u142, u143, u144, u145, u146, u147, u148, u149, u150, u151, u152, u153, u154, u155, u156, u157, u158, u159, u160, u161, u162, u163, u164, u165, u166, u167, u168, u169, u170, u171, u172, u173, u174, u175, u176, u177, u178, u179, u180, u181, u182, u183, u184, u185, u186, u187, u188, u189, u190, u191, u192, u193, u194, u195, u196, u197, u198, u199, u200, u201, u202, u203, u204, u205, u206, u207, u208, u209, u210, u211, u212, u213, u214, u215, u216, u217, u218, u219, u220, u221, u222, u223, u224, u225, u226, u227, u228, u229, u230, u231, u232, u233, u234, u235, u236, u237, u238, u239, u240, u241, u242, u243, u244, u245, u246, u247, u248, u249, u250, u251, u252, u253, u254, u255, u256, u257, u258, u259, u260, u261, u262, u263, u264, u265, u266, u267, u268, u269, u270, u271, u272, u273, u274, u275, u276, u277, u278, u279, u280, u281, u282, u283, u284, u285, u286, u287, u288, u289, u290, u291, u292, u293, u294, u295, u296, u297, u298, u299, u300, u301, u302, u303, u304, u305, u306, u307, u308, u309, u310, u311, u312, u313, u314, u315, u316, u317, u318, u319, u320, u321, u322, u323, u324, u325, u326, u327, u328, u329, u330, u331, u332, u333, u334, u335, u336, u337, u338, u339, u340, u341, u342, u343, u344, u345, u346], []⟩ wc := by
  have heq := eqQ_run
  have HR2 := hid (row8_next HR.out hcut)
  conv => arg 2; whnf
  go_wp2_with fail
  refine (drawChQ_any a0 len0 cap0 z0 _ HR2.out hlen).mono ?_
  rintro e w1 ⟨x, y, z, p, q, r, s, rfl, V1⟩
  have U1 := gr_trans hcut V1
  have F2 := (Arr3.new w1 x y z 49).alloc (.cells #[.int .i64 p, .int .i64 q, .int .i64 r, .int .i64 s] 57)
  have L2 := Arr.new (w1.alloc (.cells #[.int .i64 x, .int .i64 y, .int .i64 z] 49)) p q r s 57
  have U2 := gr_alloc (gr_alloc U1 (.cells #[.int .i64 x, .int .i64 y, .int .i64 z] 49)) (.cells #[.int .i64 p, .int .i64 q, .int .i64 r, .int .i64 s] 57)
  simp only [World.size_alloc] at L2
  clear U1 V1 hcut HR2
  obtain ⟨K, hK⟩ : ∃ K, K = cqc x y z p q r s := ⟨_, rfl⟩
  obtain ⟨n0, hn0⟩ : ∃ n, n = if0 K (qv x y z p r) := ⟨_, rfl⟩
  obtain ⟨n1, hn1⟩ : ∃ n, n = if0 K (qm x y z p q r s) := ⟨_, rfl⟩
  obtain ⟨n2, hn2⟩ : ∃ n, n = if0 K (qv x y z q s) := ⟨_, rfl⟩
  have hi := fun W => iChQ_any x y z p q r s W
  have hs := fun W => sChQ_any x y z p q r s W
  rw [← hK, ← hn0, ← hn1, ← hn2] at hi hs
  have HI := hid hi; have HS := hid hs; have HK := hid hK; have HN0 := hid hn0; have HN1 := hid hn1; have HN2 := hid hn2
  clear hi hs hK hn0 hn1 hn2
  go_wp2_with fail
  refine (HI.out _).mono ?_
  rintro e w3 ⟨rfl, hb3⟩
  have F3 := (F2.next hb3).alloc (.cells #[.int .i64 n0, .int .i64 n1, .int .i64 n2] 49)
  have L3 := (L2.next hb3).alloc (.cells #[.int .i64 n0, .int .i64 n1, .int .i64 n2] 49)
  have X3 := Arr3.new w3 n0 n1 n2 49
  have U3 := gr_alloc (gr_trans U2 hb3) (.cells #[.int .i64 n0, .int .i64 n1, .int .i64 n2] 49)
  have hl3 := (F2.next hb3).lt
  have hl3' := (L2.next hb3).lt
  clear F2 L2 U2 hb3 HI
  obtain ⟨_, m0, m1, m2, _⟩ := id F3
  obtain ⟨_, d0, d1, d2, d3, _⟩ := id L3
  go_wp2_with fail
  refine (HS.out _).mono ?_
  rintro e w4 ⟨rfl, hb4⟩
  clear m0 m1 m2 d0 d1 d2 d3
  have F4 := (F3.next hb4).alloc (.cells #[.int .i64 n0, .int .i64 n1, .int .i64 n2] 49)
  have L4 := (L3.next hb4).alloc (.cells #[.int .i64 n0, .int .i64 n1, .int .i64 n2] 49)
  have X4 := (X3.next hb4).alloc (.cells #[.int .i64 n0, .int .i64 n1, .int .i64 n2] 49)
  have Y4 := Arr3.new w4 n0 n1 n2 49
  have U4 := gr_alloc (gr_trans U3 hb4) (.cells #[.int .i64 n0, .int .i64 n1, .int .i64 n2] 49)
  have hl4 := (X3.next hb4).lt
  clear F3 L3 X3 U3 hb4 HS
  go_upto_region 20 with fail
  generalize hj1 : w1.heap.size = j1 at F4 L4 hl3 hl3' ⊢
  generalize hj3 : w3.heap.size = j3 at X4 hl3 hl3' hl4 ⊢
  generalize hj4 : w4.heap.size = j4 at Y4 hl4 ⊢
  generalize w4.alloc (.cells #[.int .i64 n0, .int .i64 n1, .int .i64 n2] 49) = W at F4 L4 X4 Y4 U4 ⊢
  clear hj1 hj3 hj4
  have FD := F4.drew; have LD := L4.drew; have XD := X4.drew; have YD := Y4.drew; have UD := gr_drew U4
  clear F4 L4 X4 Y4 U4
  go_cut [177] (fun s177 wx => s177 = .bool false ∧ Arr3 wx j1 x y z ∧ Arr wx (j1 + 1) p q r s ∧ Arr3 wx j3 n0 n1 n2 ∧ Below w.heap.size w wx)
  case first =>
    go_region_held3 (fun W => (W.cell? ⟨j1, 0, none⟩ = some (.int .i64 x) ∧ W.cell? ⟨j1, 1, none⟩ = some (.int .i64 y) ∧ W.cell? ⟨j1, 2, none⟩ = some (.int .i64 z)) ∧ (W.cell? ⟨j3, 0, none⟩ = some (.int .i64 n0) ∧ W.cell? ⟨j3, 1, none⟩ = some (.int .i64 n1) ∧ W.cell? ⟨j3, 2, none⟩ = some (.int .i64 n2)) ∧ (W.cell? ⟨j4, 0, none⟩ = some (.int .i64 n0) ∧ W.cell? ⟨j4, 1, none⟩ = some (.int .i64 n1) ∧ W.cell? ⟨j4, 2, none⟩ = some (.int .i64 n2))) (refine ⟨cells3 ?_, cells3 ?_, cells3 ?_⟩ <;> (repeat (first | with_reducible assumption | with_reducible exact Arr.box (by assumption) | with_reducible exact Box.new _ _ _ _ _ _ | with_reducible exact Arr.new _ _ _ _ _ _ | with_reducible refine Arr.drew ?_ | with_reducible refine Arr.drewN ?_ _ | with_reducible refine Arr.store4 ?_ | with_reducible refine Arr.alloc ?_ _ | with_reducible refine Box.drew ?_ | with_reducible refine Box.drewN ?_ _ | with_reducible refine Box.alloc ?_ _ | with_reducible refine Arr.next ?_ (by assumption) | with_reducible refine Box.next ?_ (by assumption) | refine Arr.oth ?_ (by first | (simp; done) | omega | (simp; omega)) _ | refine Box.oth ?_ (by first | (simp; done) | omega | (simp; omega)) _ | with_reducible exact Arr3.box (by assumption) | with_reducible exact Box3.new _ _ _ _ _ | with_reducible exact Arr3.new _ _ _ _ _ | with_reducible refine Arr3.drew ?_ | with_reducible refine Arr3.drewN ?_ _ | with_reducible refine Arr3.store3 ?_ | with_reducible refine Arr3.alloc ?_ _ | with_reducible refine Box3.drew ?_ | with_reducible refine Box3.drewN ?_ _ | with_reducible refine Box3.alloc ?_ _ | with_reducible refine Arr3.next ?_ (by assumption) | with_reducible refine Box3.next ?_ (by assumption) | refine Arr3.oth ?_ (by first | (simp; done) | omega | (simp; omega)) _ | refine Box3.oth ?_ (by first | (simp; done) | omega | (simp; omega)) _))) (first | (go_at_call 32; refine (iIsQ_any x y z _).mono ?_; rintro e v1 ⟨rfl, hv1⟩) | (go_at_call 36; refine (sIsQ_any x y z _).mono ?_; rintro e v2 ⟨rfl, hv2⟩))
    all_goals (go_wp2_with fail; go_meet; exact ⟨by simp, by (repeat (first | with_reducible assumption | with_reducible exact Arr.box (by assumption) | with_reducible exact Box.new _ _ _ _ _ _ | with_reducible exact Arr.new _ _ _ _ _ _ | with_reducible refine Arr.drew ?_ | with_reducible refine Arr.drewN ?_ _ | with_reducible refine Arr.store4 ?_ | with_reducible refine Arr.alloc ?_ _ | with_reducible refine Box.drew ?_ | with_reducible refine Box.drewN ?_ _ | with_reducible refine Box.alloc ?_ _ | with_reducible refine Arr.next ?_ (by assumption) | with_reducible refine Box.next ?_ (by assumption) | refine Arr.oth ?_ (by first | (simp; done) | omega | (simp; omega)) _ | refine Box.oth ?_ (by first | (simp; done) | omega | (simp; omega)) _ | with_reducible exact Arr3.box (by assumption) | with_reducible exact Box3.new _ _ _ _ _ | with_reducible exact Arr3.new _ _ _ _ _ | with_reducible refine Arr3.drew ?_ | with_reducible refine Arr3.drewN ?_ _ | with_reducible refine Arr3.store3 ?_ | with_reducible refine Arr3.alloc ?_ _ | with_reducible refine Box3.drew ?_ | with_reducible refine Box3.drewN ?_ _ | with_reducible refine Box3.alloc ?_ _ | with_reducible refine Arr3.next ?_ (by assumption) | with_reducible refine Box3.next ?_ (by assumption) | refine Arr3.oth ?_ (by first | (simp; done) | omega | (simp; omega)) _ | refine Box3.oth ?_ (by first | (simp; done) | omega | (simp; omega)) _)), by (repeat (first | with_reducible assumption | with_reducible exact Arr.box (by assumption) | with_reducible exact Box.new _ _ _ _ _ _ | with_reducible exact Arr.new _ _ _ _ _ _ | with_reducible refine Arr.drew ?_ | with_reducible refine Arr.drewN ?_ _ | with_reducible refine Arr.store4 ?_ | with_reducible refine Arr.alloc ?_ _ | with_reducible refine Box.drew ?_ | with_reducible refine Box.drewN ?_ _ | with_reducible refine Box.alloc ?_ _ | with_reducible refine Arr.next ?_ (by assumption) | with_reducible refine Box.next ?_ (by assumption) | refine Arr.oth ?_ (by first | (simp; done) | omega | (simp; omega)) _ | refine Box.oth ?_ (by first | (simp; done) | omega | (simp; omega)) _ | with_reducible exact Arr3.box (by assumption) | with_reducible exact Box3.new _ _ _ _ _ | with_reducible exact Arr3.new _ _ _ _ _ | with_reducible refine Arr3.drew ?_ | with_reducible refine Arr3.drewN ?_ _ | with_reducible refine Arr3.store3 ?_ | with_reducible refine Arr3.alloc ?_ _ | with_reducible refine Box3.drew ?_ | with_reducible refine Box3.drewN ?_ _ | with_reducible refine Box3.alloc ?_ _ | with_reducible refine Arr3.next ?_ (by assumption) | with_reducible refine Box3.next ?_ (by assumption) | refine Arr3.oth ?_ (by first | (simp; done) | omega | (simp; omega)) _ | refine Box3.oth ?_ (by first | (simp; done) | omega | (simp; omega)) _)), by (repeat (first | with_reducible assumption | with_reducible exact Arr.box (by assumption) | with_reducible exact Box.new _ _ _ _ _ _ | with_reducible exact Arr.new _ _ _ _ _ _ | with_reducible refine Arr.drew ?_ | with_reducible refine Arr.drewN ?_ _ | with_reducible refine Arr.store4 ?_ | with_reducible refine Arr.alloc ?_ _ | with_reducible refine Box.drew ?_ | with_reducible refine Box.drewN ?_ _ | with_reducible refine Box.alloc ?_ _ | with_reducible refine Arr.next ?_ (by assumption) | with_reducible refine Box.next ?_ (by assumption) | refine Arr.oth ?_ (by first | (simp; done) | omega | (simp; omega)) _ | refine Box.oth ?_ (by first | (simp; done) | omega | (simp; omega)) _ | with_reducible exact Arr3.box (by assumption) | with_reducible exact Box3.new _ _ _ _ _ | with_reducible exact Arr3.new _ _ _ _ _ | with_reducible refine Arr3.drew ?_ | with_reducible refine Arr3.drewN ?_ _ | with_reducible refine Arr3.store3 ?_ | with_reducible refine Arr3.alloc ?_ _ | with_reducible refine Box3.drew ?_ | with_reducible refine Box3.drewN ?_ _ | with_reducible refine Box3.alloc ?_ _ | with_reducible refine Arr3.next ?_ (by assumption) | with_reducible refine Box3.next ?_ (by assumption) | refine Arr3.oth ?_ (by first | (simp; done) | omega | (simp; omega)) _ | refine Box3.oth ?_ (by first | (simp; done) | omega | (simp; omega)) _)), by (repeat' (first | with_reducible exact Below.refl _ _ | with_reducible assumption | with_reducible refine gr_alloc ?_ _ | with_reducible refine gr_drew ?_ | with_reducible refine gr_drewN ?_ _ | with_reducible refine gr_trans ?_ (by assumption) | with_reducible refine gr_set ?_ ?_ _ | (simp; done) | omega | (simp; omega)))⟩)
  case rest =>
    obtain ⟨rfl, F5, L5, X5, U5⟩ := hcut
    clear FD LD XD YD UD hl3 hl3' hl4
    go_step
    go_cut [] (fun wx => Arr3 wx j1 x y z ∧ Arr wx (j1 + 1) p q r s ∧ Arr3 wx j3 n0 n1 n2 ∧ Below w.heap.size w wx)
    case first =>
      go_wp2_with fail
      go_meet
      exact ⟨F5, L5, X5, U5⟩
    case rest =>
      obtain ⟨F6, L6, X6, U6⟩ := hcut
      go_step
      exact cseg177_any w a0 len0 cap0 z0 HR hlen _ U6 j1 (j1 + 1) j3 x y z p q r s n0 n1 n2 K F6 L6 X6 HK HN0 HN1 HN2 _ _ _ _ _ _ _ _ _ _ _ _ _ _ _ _ _ _ _ _ _ _ _ _ _ _ _ _ _ _ _ _ _ _ _ _ _ _ _ _ _ _ _ _ _ _ _ _ _ _ _ _ _ _ _ _ _ _ _ _ _ _ _ _ _ _ _ _ _ _ _ _ _ _ _ _ _ _ _ _ _ _ _ _ _ _ _ _ _ _ _ _ _ _ _ _ _ _ _ _ _ _ _ _ _ _ _ _ _ _ _ _ _ _ _ _ _ _ _ _ _ _ _ _ _ _ _ _ _ _ _ _ _ _ _ _ _ _ _ _ _ _ _ _ _ _ _ _ _ _ _ _ _ _ _ _ _ _ _ _ _ _ _ _ _ _ _ _ _ _ _ _ _ _ _ _ _ _ _ _ _ _ _ _ _ _ _ _ _ _ _ _ _ _ _ _ _ _ _ _ _ _ _ _ _ _ _ _ _ _ _ _ _ _ _ _ _ _ _ _ _ _ _ _ _ _ _ _ _ _ _ _ _ _ _ _ _ _ _ _ _ _ _ _ _ _ _ _ _ _ _ _ _ _ _ _ _ _ _ _ _ _ _ _ _ _ _ _ _ _ _ _ _ _ _ _ _ _ _ _ _ _ _ _ _ _ _ _ _ _ _ _ _ _ _ _ _ _ _ _ _ _ _ _ _ _ _ _ _ _ _ _ _ _ _ _ _ _ _ _ _ _ _ _ _ _ _ _ _ _ _ _ _ _ _ _ _ _ _ _ _ _


end Go.Proofs.Ytambbhldhhlfgaa
