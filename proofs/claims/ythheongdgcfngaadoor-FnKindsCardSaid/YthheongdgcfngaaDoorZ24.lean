/- Several texts in one: XFf, XFg, XFi, XFj. -/
import Derived.Test.YthheongdgcfngaaDoorZ22
import Derived.Test.YthheongdgcfngaaDoorFc
import Derived.Test.YthheongdgcfngaaDoorZ14
import Derived.Deep.RegionHeld3

/- Chapter 5: division by y X - x Y, the model's. -/
namespace Go.Proofs.YthheongdgcfngaaDoor
open Go.RowKit

theorem ev_10 {L : List Int} (h : GL L) : ev L 1 0 = L.getD 0 0 := by
  rcases h.cases with ⟨a, rfl⟩ | ⟨a, b, rfl⟩ | ⟨a, b, c, rfl⟩ | ⟨a, b, c, d, rfl⟩
  · rw [ev1]; rfl
  · rw [ev2]; simp
  · rw [ev3]; simp
  · rw [ev4]; simp [vx]
theorem GL.get {L : List Int} (hgl : GL L) : ∀ i, i < L.length → -1003003001000 ≤ L.getD i 0 ∧ L.getD i 0 ≤ 1003003001000 := fun i hi => by
  have h3 := hgl.2.2.1 _ (getD_mem L i 0 hi)
  have h1 := hgl.1
  have h2 := hgl.2.1
  rcases (show L.length = 1 ∨ L.length = 2 ∨ L.length = 3 ∨ L.length = 4 by omega) with e | e | e | e <;> rw [e] at h3 <;> simp only [bdF] at h3 <;> omega
/-- A list in the making. -/
def outL (qs : List Int) (n : Nat) : List Int := qs ++ List.replicate (n - qs.length) 0
theorem outL_len {qs : List Int} {n : Nat} (h : qs.length ≤ n) : (outL qs n).length = n := by simp [outL]; omega
theorem outL_set {qs : List Int} {n : Nat} (h : qs.length < n) (q : Int) : (outL qs n).set qs.length q = outL (qs ++ [q]) n := by
  unfold outL
  rw [List.set_append_right _ _ (Nat.le_refl _), Nat.sub_self]
  obtain ⟨m, hm⟩ : ∃ m, n - qs.length = m + 1 := ⟨n - qs.length - 1, by omega⟩
  rw [hm, List.replicate_succ, List.length_append, List.length_singleton, show n - (qs.length + 1) = m by omega]
  simp
theorem outL_e {qs : List Int} {n : Nat} (h : qs.length = n) : outL qs n = qs := by simp [outL, h]
theorem RB.made (w : World) (n : Nat) : RB (w.alloc (.cells (madeCells #[.int .i64 0] n) 2)) w.heap.size (outL [] n) := by
  refine ⟨_, _, Bx.new _ _ _, .inl rfl, fun i hi => ?_⟩
  have hn : i < n := by simpa [outL] using hi
  simp [outL, madeCells, List.getD, hn, Nat.mod_one]
theorem tm_t {o y : Int} (h : y ∣ o) : (o.tmod y == 0) = true := by simpa using Int.tmod_eq_zero_of_dvd h
theorem tm_f {o y : Int} (h : ¬ y ∣ o) : (o.tmod y == 0) = false := by simpa [Int.dvd_iff_tmod_eq_zero] using h

def DviOut (L : List Int) (x y : Int) (n : Nat) (w : World) (e : Ending) (w' : World) : Prop :=
  ∃ ok : Bool, e = .returned (.tuple #[.slice (some ⟨w.heap.size, 0, none⟩) n n, .bool ok]) ∧ ok = decide (ev L x y = 0) ∧ (ok = true → RB w' w.heap.size (dvd L x y)) ∧ Below w.heap.size w w'

set_option maxRecDepth 100000 in
set_option maxHeartbeats 4000000 in
theorem l05Divide_any (v : Value) (L : List Int) (x y : Int) (n : Nat) (w : World) (h : RdP w v L) (hL : GL L) (hp : PT x y) (hn : L.length = n + 1) :
    Calls Tryd.prog 66 #[v, .int .i64 x, .int .i64 y] w (DviOut L x y n w) := by
  obtain ⟨b, cap, rfl, hlc, hcm, hb, hc⟩ := h
  have HC := hid hc
  have HL := hid hL
  have HN := hid hn
  have HP := hid hp
  have hn3 : n ≤ 3 := by have := hL.2.1; omega
  rw [hn] at hlc ⊢
  clear hc hn
  unfold maxLen at hcm
  have hmk := run_make_row' (P := Tryd.prog) 35 2 (.int .i64 0) 8 Tryd.underlying35 info_l64 rfl .i64 .i64 n (by omega) (by omega) w
  have R0 := hid (RB.made w n)
  have U0 := hid (gr_alloc (Below.refl w.heap.size w) (.cells (madeCells #[Value.int .i64 0] n) 2))
  by_cases hy : y = 0
  · subst hy
    have hx1 : x = 1 := by rcases hp with ⟨e, _⟩ | ⟨e, _⟩ <;> omega
    subst hx1
    have hE := ev_10 hL
    have ce := HC.out 0 (by rw [HN.out]; omega)
    have c0 : (w.alloc (.cells (madeCells #[Value.int .i64 0] n) 2)).cell? ⟨b, 0, none⟩ = some (.int .i64 (L.getD 0 0)) := (U0.out.cell (p := ⟨b, 0, none⟩) hb).trans ce
    have HE := hid hE
    clear hE ce hp hL
    go_enter Tryd.func66, Tryd.ntmps66
    by_cases hz : L.getD 0 0 = 0
    · rw [hz] at c0
      have HEZ := hid (HE.out.trans hz)
      clear hz
      go_wp2_with fail
      clear c0 hmk
      generalize (w.alloc (.cells (madeCells #[Value.int .i64 0] n) 2)) = W0 at R0 U0 ⊢
      go_loopw [10] (fun s10 wr => ∃ i : Nat, i ≤ n ∧ s10 = .int .i64 ((i : Int)) ∧ RB wr w.heap.size (outL (ngK L i) n) ∧ Below w.heap.size w wr) (fun s10 _ => n - (intOf s10).toNat)
      case atStart => exact ⟨0, Nat.zero_le _, rfl, R0.out, U0.out⟩
      case round =>
        obtain ⟨i, hi, rfl, hR, hU⟩ := hrel
        have HR := hid hR; have HU := hid hU
        have hsz := hU.size
        by_cases hil : i < n
        · have ck : wr.cell? ⟨b, i + 1, none⟩ = some (.int .i64 (L.getD (i + 1) 0)) := (hU.cell (p := ⟨b, i + 1, none⟩) hb).trans (HC.out (i + 1) (by rw [HN.out]; omega))
          have hkl := ngK_len HN.out hi
          obtain ⟨p0, p1⟩ := hR.cl.2 i (by rw [outL_len (by omega)]; exact hil)
          have HS := hid (ngK_s HN.out hil)
          have HT := hid (outL_set (qs := ngK L i) (n := n) (by omega) (wrap64 (-(L.getD (i + 1) 0))))
          have HKL := hid hkl
          generalize L.getD (i + 1) 0 = q at ck HS HT
          clear hR hU hkl
          simp only at p0
          generalize (outL (ngK L i) n).getD i 0 = q0 at p0
          have hbl := HR.out.lt
          go_wp2_with fail
          have hX := HR.out.set i (wrap64 (-q))
          rw [show (outL (ngK L i) n).set i (wrap64 (-q)) = outL (ngK L (i + 1)) n by rw [HS.out, ← HT.out, HKL.out]] at hX
          exact ⟨⟨i + 1, by omega, by go_num, hX, gr_set HU.out (Nat.le_refl _) _ (p := ⟨w.heap.size, i, none⟩)⟩, by simp [intOf]; omega⟩
        · have e : i = n := by omega
          subst e
          have hD : outL (ngK L i) i = dvd L 1 0 := by rw [outL_e (ngK_len HN.out (Nat.le_refl _)), ngK_e HN.out]
          rw [hD] at hR
          have HR2 := hid hR
          clear hR hU HR
          go_wp2_with fail
          go_ret2
          exact ⟨true, rfl, by simp [HEZ.out], fun _ => HR2.out, HU.out⟩
    · have hzb : (L.getD 0 0 == 0) = false := by simpa using hz
      have HEZ := hid (show ev L 1 0 ≠ 0 by rw [HE.out]; exact hz)
      clear hz
      generalize L.getD 0 0 = q at c0 hzb
      go_wp2_with fail
      go_ret2
      exact ⟨false, rfl, by simp [HEZ.out], fun h => (by cases h), U0.out⟩
  · have hyb : (y == 0) = false := by simpa using hy
    have HY := hid hy
    obtain ⟨⟨hx1, hx2⟩, ⟨hy1, hy2⟩⟩ := hp.bd
    have HQ0 := hid (Pq.nil (x := x) (y := y) (L := L) (by rw [HN.out]; omega))
    have HG := hid hL.get
    clear hy hp hL
    go_enter Tryd.func66, Tryd.ntmps66
    go_wp2_with fail
    clear hmk
    generalize (w.alloc (.cells (madeCells #[Value.int .i64 0] n) 2)) = W0 at R0 U0 ⊢
    go_loopw [11, 12] (fun s11 s12 wr => ∃ qs : List Int, qs.length ≤ n ∧ s12 = .int .i64 ((qs.length : Int)) ∧ s11 = .int .i64 (x * lastD qs) ∧ Pq x y L qs ∧ RB wr w.heap.size (outL qs n) ∧ Below w.heap.size w wr) (fun _ s12 _ => n - (intOf s12).toNat)
    case atStart => exact ⟨[], Nat.zero_le _, rfl, by simp [lastD], HQ0.out, R0.out, U0.out⟩
    case round =>
      obtain ⟨qs, hi, rfl, rfl, hP, hR, hU⟩ := hrel
      have HR := hid hR; have HU := hid hU; have HPq := hid hP
      have hsz := hU.size
      obtain ⟨k1, k2⟩ := hP.bd HL.out HP.out HY.out
      have mc := mulb (A := 1000) (B := 1003003001000) (by omega : -1000 ≤ x ∧ x ≤ 1000) ⟨k1, k2⟩
      simp only [Int.reduceMul] at mc
      have ck : wr.cell? ⟨b, qs.length, none⟩ = some (.int .i64 (L.getD qs.length 0)) := (hU.cell (p := ⟨b, qs.length, none⟩) hb).trans (HC.out _ (by rw [HN.out]; omega))
      obtain ⟨g1, g2⟩ := HG.out qs.length (by rw [HN.out]; omega)
      obtain ⟨o, ho⟩ : ∃ o, o = L.getD qs.length 0 + x * lastD qs := ⟨_, rfl⟩
      have hw : wrap64 (L.getD qs.length 0 + x * lastD qs) = o := by rw [ho]; exact wr_in (by omega)
      by_cases hil : qs.length < n
      · obtain ⟨p0, p1⟩ := hR.cl.2 qs.length (by rw [outL_len (by omega)]; exact hil)
        simp only at p0
        have hbl := hR.lt
        by_cases hdv : y ∣ o
        · have ht := tm_t hdv
          obtain ⟨q, hq⟩ := hdv
          have hq' : wrap64 (o.tdiv y) = q := by
            rw [hq, Int.mul_tdiv_cancel_left _ HY.out]
            have hP2 : Pq x y L (qs ++ [q]) := hP.step (by rw [HN.out]; omega) (by omega)
            have := hP2.bd HL.out HP.out HY.out
            rw [lastD_app] at this
            exact wr_in (by omega)
          have HP2 := hid (hP.step (q := q) (by rw [HN.out]; omega) (by omega))
          have hq2 := HP2.out.bd HL.out HP.out HY.out
          rw [lastD_app] at hq2
          have mc2 := mulb (A := 1000) (B := 1003003001000) (by omega : -1000 ≤ x ∧ x ≤ 1000) hq2
          simp only [Int.reduceMul] at mc2
          have hw2 : wrap64 (x * q) = x * q := wr_in (by omega)
          have HT := hid (outL_set (qs := qs) (n := n) hil q)
          have HLD := hid (lastD_app qs q)
          clear hP hR hU HPq ho hq hq2 mc2 mc k1 k2 g1 g2
          generalize hLq : L.getD qs.length 0 = l0 at ck hw
          generalize hxl : x * lastD qs = c at hw ⊢
          generalize (outL qs n).getD qs.length 0 = q0 at p0
          clear hLq hxl
          go_wp2_with fail
          exact ⟨⟨qs ++ [q], by simp; omega, by simp, by rw [HLD.out, hw2], HP2.out, by rw [← HT.out]; exact HR.out.set qs.length q, gr_set HU.out (Nat.le_refl _) _ (p := ⟨w.heap.size, qs.length, none⟩)⟩, by simp [intOf]; omega⟩
        · have ht := tm_f hdv
          have HNO := hid (hP.no HL.out HP.out HY.out (by rw [HN.out]; omega) (by rw [← ho]; exact hdv))
          clear hP hR hU HPq ho hdv mc k1 k2 g1 g2 p0 p1
          generalize L.getD qs.length 0 = l0 at ck hw
          generalize x * lastD qs = c at hw ⊢
          go_wp2_with fail
          go_ret2
          exact ⟨false, rfl, by simp [HNO.out], fun h => (by cases h), HU.out⟩
      · have e : qs.length = n := by omega
        obtain ⟨f1, f2⟩ := hP.fin HL.out HP.out HY.out (by rw [HN.out]; omega)
        rw [← ho] at f1
        rw [outL_e e] at hR
        have HR2 := hid hR; have HF1 := hid f1; have HF2 := hid f2
        clear hP hR hU HPq ho f1 f2 mc k1 k2 g1 g2 HR
        rw [e] at ck hw ⊢
        generalize L.getD n 0 = l0 at ck hw
        generalize x * lastD qs = c at hw ⊢
        clear hil
        go_wp2_with fail
        go_quiet (fail)
        rename_i nq
        have HU2 := hid (gr_drewN HU.out nq)
        have HR3 := hid (HR2.out.next (gr_drewN (Below.refl _ _) nq))
        go_wp2_with fail
        go_ret2
        refine ⟨(o == 0), rfl, ?_, fun h => ?_, HU2.out⟩
        · rw [Bool.eq_iff_iff]; simp [HF1.out]
        · rw [HF2.out (HF1.out.1 (by simpa using h))]; exact HR3.out


end Go.Proofs.YthheongdgcfngaaDoor

/- Chapter 5: copies of lists, rows of the model in the making, rows that are the same. -/
namespace Go.Proofs.YthheongdgcfngaaDoor
open Go.RowKit

def nums (n : Nat) (g : Nat → Int) : List Value := (List.range n).map fun j => .int .i64 (g j)
theorem nums_get {n : Nat} {g : Nat → Int} {j : Nat} {u : Value} (h : (nums n g)[j]? = some u) : j < n ∧ u = .int .i64 (g j) := by
  unfold nums at h
  rw [List.getElem?_map] at h
  cases hj : (List.range n)[j]? with
  | none => rw [hj] at h; cases h
  | some x =>
    rw [hj] at h
    obtain ⟨h1, h2⟩ := List.getElem?_eq_some_iff.1 hj
    simp at h1 h2 h
    subst h2
    exact ⟨h1, h.symm⟩

set_option maxRecDepth 100000 in
set_option maxHeartbeats 1000000 in
theorem sOwn_any (b off len cap : Nat) (g : Nat → Int) (w : World) (hb : b < w.heap.size) (hcell : ∀ j, j < len → w.cell? ⟨b, off + j, none⟩ = some (.int .i64 (g j))) (hlen : len ≤ 1000) :
    Calls Tryd.prog 67 #[.slice (some ⟨b, off, none⟩) len cap] w fun e w' => ∃ v, e = .returned v ∧ w'.ownsRow w.heap.size 2 1 v len (nums len g) ∧ Below w.heap.size w w' := by
  obtain ⟨i0, hi, hz0, hz1, hz2⟩ := info_parts info_l64
  have HI := hid hi; have HZ0 := hid hz0; have HZ1 := hid hz1; have HZ2 := hid hz2
  clear hi hz0 hz1 hz2
  have O0 : (w.alloc (.cells #[] 2)).ownsRow w.heap.size 2 1 (.slice (some ⟨w.heap.size, 0, none⟩) 0 0) 0 [] :=
    ⟨rfl, .inr ⟨w.heap.size, 0, #[], rfl, Nat.le_refl _, heap_alloc_new w _, Nat.le_refl _, by decide, rfl, rfl⟩⟩
  have hU := gr_alloc (Below.refl w.heap.size w) (.cells #[] 2)
  have HC := hid hcell
  clear hcell
  go_enter Tryd.func67, Tryd.ntmps67
  go_wp2_with (at_builtin; refine wpList_append_own _ rfl _ _ 35 rfl w.heap.size 2 i0 (.int .i64 0) 1 8 Tryd.underlying35 HI.out HZ0.out HZ1.out HZ2.out rfl (by decide) _ _ _ rfl O0 ⟨b, off, none⟩ len cap (nums len g) rfl ?l1 ?a1 ?b1 ?c1 ?d1 ?e1 ?_)
  case l1 => simp [nums]
  case a1 =>
    intro j u hj
    obtain ⟨h1, rfl⟩ := nums_get hj
    have hadd : (⟨b, off, none⟩ : Addr).add j = ⟨b, off + j, none⟩ := by unfold Addr.add; split <;> simp_all
    rw [hadd]
    exact (hU.cell (p := ⟨b, off + j, none⟩) hb).trans (HC.out j h1)
  case b1 =>
    intro u hu
    obtain ⟨j, hj, rfl⟩ := List.mem_map.1 hu
    rfl
  case c1 => unfold maxLen; omega
  case d1 => omega
  case e1 => simp
  intro y1 z1 P1 hg1 _
  have W1 := gr_own hU hg1 (fun j hj => by simp [Value.ownBlock] at hj; omega)
  go_wp2
  go_ret
  exact ⟨_, rfl, by simpa using P1, W1⟩
/-- Rows that can be read, of whatever capacities. -/
def RdRw (w : World) (v : Value) (s n : Nat) (G : Nat → Nat → Int) (T : Nat → Nat × Nat) : Prop :=
  ∃ a cap, v = .slice a n cap ∧ n ≤ cap ∧ cap ≤ maxLen ∧ (0 < n → ∃ g, a = some ⟨g, 0, none⟩ ∧ g < w.heap.size ∧ ∀ i, i < n → w.cell? ⟨g, i, none⟩ = some (.slice (some ⟨(T i).1, 0, none⟩) s (T i).2)) ∧
    (∀ i, i < n → Rd w (.slice (some ⟨(T i).1, 0, none⟩) s (T i).2) s (G i))



/-- Rows of the model in the making. -/
structure Rwm (B : Nat) (w : World) (v : Value) (R : List (List Int)) (T : List (Nat × Nat)) : Prop where
  own : w.ownsRow B 35 1 v R.length (T.map fun t => Value.slice (some ⟨t.1, 0, none⟩) 2 t.2)
  len : T.length = R.length
  row : ∀ i, i < R.length → RB w (T.getD i (0, 0)).1 (R.getD i []) ∧ 2 ≤ (T.getD i (0, 0)).2 ∧ (T.getD i (0, 0)).2 ≤ maxLen
  wid : ∀ r ∈ R, r.length = 2
theorem Rwm.next {B : Nat} {w w' : World} {v : Value} {R : List (List Int)} {T : List (Nat × Nat)} (h : Rwm B w v R T) (hb : Below w.heap.size w w') : Rwm B w' v R T :=
  ⟨owns_next h.own hb, h.len, fun i hi => ⟨(h.row i hi).1.next hb, (h.row i hi).2⟩, h.wid⟩
theorem RB.grown {w W : World} {b : Nat} {L : List Int} (h : RB w b L) {B s n : Nat} {v : Value} {ys : List Value} (h' : w.ownsRow B 35 s v n ys) (hg : w.grownBy W v.ownBlock) : RB W b L := by
  obtain ⟨cur, T, g1, g2, g3⟩ := h
  exact ⟨cur, T, g1.grown hg (g1.own h' (by rcases g2 with rfl | rfl <;> decide)), g2, g3⟩
theorem Rwm.app {B : Nat} {w W : World} {v v' : Value} {R : List (List Int)} {T : List (Nat × Nat)} (h : Rwm B w v R T) {r : List Int} {t cp : Nat} (hr : RB w t r) (hl : r.length = 2) (hc : 2 ≤ cp) (hm : cp ≤ maxLen) {o : Obj} (hg : (w.alloc o).grownBy W v.ownBlock)
    (hO : W.ownsRow B 35 1 v' (R.length + 1) ((T.map fun t => Value.slice (some ⟨t.1, 0, none⟩) 2 t.2) ++ [.slice (some ⟨t, 0, none⟩) 2 cp])) : Rwm B W v' (R ++ [r]) (T ++ [(t, cp)]) := by
  have keep : ∀ {b : Nat} {L : List Int}, RB w b L → RB W b L := fun hb => (hb.next ((Below.refl _ w).alloc (Nat.le_refl _) o)).grown (h.own.alloc o) hg
  refine ⟨by simpa using hO, by simp [h.len], fun i hi => ?_, fun x hx => ?_⟩
  · rw [List.length_append, List.length_singleton] at hi
    by_cases e : i < R.length
    · rw [show (T ++ [(t, cp)]).getD i (0, 0) = T.getD i (0, 0) by simp [List.getD, List.getElem?_append_left (show i < T.length by rw [h.len]; exact e)], show (R ++ [r]).getD i [] = R.getD i [] by simp [List.getD, List.getElem?_append_left e]]
      exact ⟨keep (h.row i e).1, (h.row i e).2⟩
    · have e' : i = R.length := by omega
      subst e'
      rw [show (T ++ [(t, cp)]).getD R.length (0, 0) = (t, cp) by rw [← h.len]; simp [List.getD], show (R ++ [r]).getD R.length [] = r by simp [List.getD]]
      exact ⟨keep hr, hc, hm⟩
  · rcases List.mem_append.1 hx with hx | hx
    · exact h.wid x hx
    · simp at hx; subst hx; exact hl
theorem Rwm.lt {B : Nat} {w : World} {v : Value} {R : List (List Int)} {T : List (Nat × Nat)} (h : Rwm B w v R T) : ∀ p ∈ T, p.1 < w.heap.size := fun p hp => by
  obtain ⟨i, hi, rfl⟩ := List.getElem_of_mem hp
  have := (h.row i (by rw [← h.len]; exact hi)).1.lt
  simpa [List.getD, hi] using this
theorem Rwm.rd {B : Nat} {w : World} {v : Value} {R : List (List Int)} {T : List (Nat × Nat)} (h : Rwm B w v R T) : RdRw w v 2 R.length (fun i j => (R.getD i []).getD j 0) (fun i => T.getD i (0, 0)) := by
  obtain ⟨a, cap, rfl, hcm, hnc, hcell⟩ := owns_form h.own
  refine ⟨a, cap, rfl, hnc, hcm, fun hn => ?_, fun i hi => ?_⟩
  · obtain ⟨g, rfl, hg, hc⟩ := hcell hn
    refine ⟨g, rfl, hg, fun i hi => hc i _ ?_⟩
    have hi' : i < T.length := by rw [h.len]; exact hi
    simp [List.getD, hi']
  · obtain ⟨h1, h2, h3⟩ := h.row i hi
    have hw := h.wid _ (getD_mem R i [] hi)
    exact .inr ⟨_, _, rfl, h2, h3, h1.lt, fun j hj => (h1.cl.2 j (by omega)).1⟩
theorem RwX.grown {B B' : Nat} {w W : World} {va vr : Value} {s n : Nat} {R : List (List Int)} {ys : List Value} (h : RwX B w va s R) (h' : w.ownsRow B' 35 1 vr n ys) (hne : va.ownBlock = none ∨ va.ownBlock ≠ vr.ownBlock) (hg : w.grownBy W vr.ownBlock) : RwX B W va s R := by
  obtain ⟨T, hT⟩ := h
  refine ⟨T, hT.own.kept hg hne, hT.len, fun i hi => (hT.row i hi).grown hg ((hT.row i hi).own h' (by decide)), fun t ht => ⟨(hT.bas t ht).1, Nat.lt_of_lt_of_le (hT.bas t ht).2 hg.size⟩, hT.srt, hT.wid⟩
theorem Rwm.setB {B : Nat} {w : World} {v : Value} {R : List (List Int)} {T : List (Nat × Nat)} (h : Rwm B w v R T) {b : Nat} {L : List Int} (hb : RB w b L) (hs : ∀ t ∈ T, t.1 ≠ b) (i : Nat) (u : Value) : Rwm B (w.setCell ⟨b, i, none⟩ u) v R T := by
  obtain ⟨cur, T', g1, g2, _⟩ := hb
  refine ⟨h.own.kept (grown_set w b i u) (by
    cases hv : v.ownBlock with
    | none => exact .inl rfl
    | some g => exact .inr (fun e => g1.own h.own (by rcases g2 with rfl | rfl <;> decide) g hv (by simpa using e))), h.len, fun j hj => ⟨?_, (h.row j hj).2⟩, h.wid⟩
  obtain ⟨c2, T2, k1, k2, k3⟩ := (h.row j hj).1
  exact ⟨c2, T2, k1.far (hs _ (getD_mem T j (0, 0) (by rw [h.len]; exact hj))) i u, k2, k3⟩


end Go.Proofs.YthheongdgcfngaaDoor

/- Chapter 5: marks in two lists, one behind the other; nil lists. -/
namespace Go.Proofs.YthheongdgcfngaaDoor
open Go.RowKit
















/-- Blocks that are not turned. -/
theorem RowsC.keep {B C : Nat} {w w' : World} {v : Value} {s n : Nat} {G : Nat → Nat → Int} {T : Nat → Nat} (h : RowsC B C w v s n G T) {b : Nat} (hk : KB b w w') (ht : ∀ i, i < n → T i ≠ b) (hv : ∀ j, v.ownBlock = some j → j ≠ b) : RowsC B C w' v s n G T := by
  obtain ⟨a, cap, rfl, h1, h2, h3, h4, h5, h6⟩ := h
  have hz := hk.2.2.2.1
  refine ⟨a, cap, rfl, h1, h2, by omega, fun hn => ?_, fun i hi => ?_, h6⟩
  · obtain ⟨g, rfl, g1, g2, g3⟩ := h4 hn
    exact ⟨g, rfl, g1, g2, fun i hi => ⟨(hk.cell (by omega) (hv g rfl)).trans (g3 i hi).1, (g3 i hi).2⟩⟩
  · obtain ⟨k1, k2, k3⟩ := h5 i hi
    exact ⟨k1, k2, k3.kb hk (ht i hi)⟩
theorem Cl.same {w w' : World} {k len : Nat} {g : Nat → Int} (h : Cl w k len g) (hz : w.heap.size ≤ w'.heap.size) (hb : w'.heap[k]? = w.heap[k]?) : Cl w' k len g :=
  ⟨Nat.lt_of_lt_of_le h.1 hz, fun i hi => ⟨(World.cell?_of_block (a := ⟨k, i, none⟩) hb).trans (h.2 i hi).1, (World.frozen?_of_block (a := ⟨k, i, none⟩) hb).trans (h.2 i hi).2⟩⟩
theorem RdRw.next {w w' : World} {v : Value} {s n : Nat} {G : Nat → Nat → Int} {T : Nat → Nat × Nat} (h : RdRw w v s n G T) (hb : Below w.heap.size w w') : RdRw w' v s n G T := by
  obtain ⟨a, cap, rfl, h1, h2, h3, h4⟩ := h
  refine ⟨a, cap, rfl, h1, h2, fun hn => ?_, fun i hi => (h4 i hi).next hb⟩
  obtain ⟨g, rfl, g1, g2⟩ := h3 hn
  exact ⟨g, rfl, Nat.lt_of_lt_of_le g1 hb.size, fun i hi => (hb.cell (p := ⟨g, i, none⟩) g1).trans (g2 i hi)⟩
theorem RB.rd {w : World} {b cap : Nat} {L : List Int} (h : RB w b L) (h1 : L.length ≤ cap) (h2 : cap ≤ maxLen) : Rd w (.slice (some ⟨b, 0, none⟩) L.length cap) L.length (fun i => L.getD i 0) :=
  .inr ⟨b, cap, rfl, h1, h2, h.lt, fun i hi => (h.cl.2 i hi).1⟩
/-- The rows of the program, as they are read; their table is not the block of the rest. -/
theorem Rwb.toC {B : Nat} {w : World} {v : Value} {R : List (List Int)} {T : List Nat} (h : Rwb B w v 2 R T) {b : Nat} {L : List Int} (hb : RB w b L) (hs : ∀ t ∈ T, t ≠ b) :
    ∃ T', RowsC B w.heap.size w v 2 R.length (fun i j => (R.getD i []).getD j 0) T' ∧ (∀ i, i < R.length → T' i ≠ b) ∧ ∀ j, v.ownBlock = some j → j ≠ b := by
  refine ⟨fun i => T.getD i 0, ?_, fun i hi => hs _ (getD_mem T i 0 (by rw [h.len]; exact hi)), fun j hj => ?_⟩
  · skip
    obtain ⟨a, cap, rfl, hcm, hnc, hcell⟩ := owns_form h.own
    refine ⟨a, cap, rfl, hnc, hcm, Nat.le_refl _, fun hn => ?_, fun i hi => ?_, fun i j hij hj => ?_⟩
    · obtain ⟨g, rfl, hg, hc⟩ := hcell hn
      refine ⟨g, rfl, (h.own.lt g rfl).1, hg, fun i hi => ⟨hc i _ ?_, ?_⟩⟩
      · have hi' : i < T.length := by rw [h.len]; exact hi
        simp [List.getD, hi']
      · exact fun e => (h.row i hi).own h.own (by decide) g rfl e.symm
    · have hb := h.bas _ (getD_mem T i 0 (by rw [h.len]; exact hi))
      have hw := h.wid _ (getD_mem R i [] hi)
      have hr := h.row i hi
      refine ⟨hb.1, hb.2, hb.2, fun j hj => ⟨?_, hr.frozen j⟩⟩
      rw [hr.cell]
      exact cI_get _ _ (by omega)
    · have hj' : j < T.length := by rw [h.len]; exact hj
      have := List.pairwise_iff_getElem.1 h.srt i j (by omega) hj' hij
      simpa [List.getD, hj', show i < T.length by omega] using this
  · obtain ⟨cur, T', g1, g2, _⟩ := hb
    exact g1.own h.own (by rcases g2 with rfl | rfl <;> decide) j hj


end Go.Proofs.YthheongdgcfngaaDoor

/- Lists and rows that are the same, as the laws with draws compare them. -/
namespace Go.Proofs.YthheongdgcfngaaDoor
open Go.RowKit

set_option maxRecDepth 100000 in
set_option maxHeartbeats 1000000 in
theorem likeI_any (u v : Value) (n : Nat) (g : Nat → Int) (w : World) (hu : Rd w u n g) (hv : Rd w v n g) :
    Calls Tryd.prog 19 #[u, v] w fun e w' => e = .returned (.bool true) ∧ Below w.heap.size w w' := by
  rcases hu with ⟨rfl, hn⟩ | ⟨b, cap, rfl, hc1, hm1, hb1, hcell1⟩
  · rcases hv with ⟨rfl, _⟩ | ⟨b', cap', rfl, hc2, hm2, hb2, hcell2⟩
    · go_enter Tryd.func19, Tryd.ntmps19
      go_wp2
      refine wp_loop_rounds 1 ?_
      rw [rounds_succ]; go_wp2
      go_ret
      exact ⟨rfl, Below.refl _ _⟩
    · subst hn
      go_enter Tryd.func19, Tryd.ntmps19
      go_wp2
      refine wp_loop_rounds 1 ?_
      rw [rounds_succ]; go_wp2
      go_ret
      exact ⟨rfl, Below.refl _ _⟩
  · unfold maxLen at hm1
    have hlen : ∃ a' cap', v = .slice a' n cap' := by
      rcases hv with ⟨rfl, rfl⟩ | ⟨b', cap', rfl, _⟩
      · exact ⟨_, _, rfl⟩
      · exact ⟨_, _, rfl⟩
    obtain ⟨a', cap', rfl⟩ := hlen
    have HV := hid hv
    have HC := hid hcell1
    clear hv hcell1
    go_enter Tryd.func19, Tryd.ntmps19
    go_wp2
    go_loopw [5] (fun i wr => ∃ k : Nat, k ≤ n ∧ i = .int .i64 k ∧ Below w.heap.size w wr) (fun i _ => n - (intOf i).toNat)
    case atStart => exact ⟨0, Nat.zero_le _, rfl, Below.refl _ _⟩
    case round =>
      obtain ⟨k, hk, rfl, hB⟩ := hrel
      by_cases hlt : k < n
      · rcases HV.out with ⟨h0, rfl⟩ | ⟨b', cap'', h0, hc2, hm2, hb2, hcell2⟩
        · omega
        · cases h0
          have c1 : wr.cell? ⟨b, k, none⟩ = some (.int .i64 (g k)) := (hB.cell (p := ⟨b, k, none⟩) hb1).trans (HC.out k hlt)
          have c2 : wr.cell? ⟨b', k, none⟩ = some (.int .i64 (g k)) := (hB.cell (p := ⟨b', k, none⟩) hb2).trans (hcell2 k hlt)
          unfold maxLen at hm2
          clear hcell2
          go_wp2
          go_quiet (fail)
          go_wp2
          go_roundw
          case rel => exact ⟨k + 1, by omega, by go_num, gr_drewN hB _⟩
          case measure => simp [intOf]; omega
      · go_wp2
        go_ret
        exact ⟨rfl, hB⟩

set_option maxRecDepth 100000 in
set_option maxHeartbeats 1000000 in
theorem rows5_any (B C B' C' : Nat) (u v : Value) (s n : Nat) (G : Nat → Nat → Int) (T T' : Nat → Nat) (w : World) (hs : s ≤ 1000) (hu : RowsC B C w u s n G T) (hv : RowsC B' C' w v s n G T') :
    Calls Tryd.prog 24 #[u, v] w fun e w' => e = .returned (.bool true) ∧ Below w.heap.size w w' := by
  have HU := hid hu; have HV := hid hv
  obtain ⟨a, cap, rfl, hc1, hm1, hw1, ha, hr, _⟩ := hu
  obtain ⟨a', cap', rfl, hc2, hm2, hw2, ha', hr', _⟩ := hv
  have HA := hid ha; have HA' := hid ha'; have HR := hid hr; have HR' := hid hr'
  clear ha ha' hr hr'
  unfold maxLen at hm1 hm2
  go_enter Tryd.func24, Tryd.ntmps24
  go_wp2_with fail
  go_loopw [5] (fun i wr => ∃ k : Nat, k ≤ n ∧ i = .int .i64 k ∧ Below w.heap.size w wr) (fun i _ => n - (intOf i).toNat)
  case atStart => exact ⟨0, Nat.zero_le _, rfl, Below.refl _ _⟩
  case round =>
    obtain ⟨k, hk, rfl, hB⟩ := hrel
    by_cases hlt : k < n
    · obtain ⟨g, rfl, _, hg, hcell⟩ := HA.out (by omega)
      obtain ⟨g', rfl, _, hg', hcell'⟩ := HA'.out (by omega)
      have c0 := (hB.cell (p := ⟨g, k, none⟩) (by show g < _; omega)).trans (hcell k hlt).1
      have d0 := (hB.cell (p := ⟨g', k, none⟩) (by show g' < _; omega)).trans (hcell' k hlt).1
      have A0 := ((HR.out k hlt).2.2.rd (by unfold maxLen; omega)).next hB
      have D0 := ((HR'.out k hlt).2.2.rd (by unfold maxLen; omega)).next hB
      have hsz := hB.size
      have hgs : g < w.heap.size := by omega
      have hgs' : g' < w.heap.size := by omega
      clear hcell hcell'
      generalize T k = t at c0 A0
      generalize T' k = t' at d0 D0
      generalize G k = gk at A0 D0
      go_wp2_with fail
      go_region_held3 (fun W => W.cell? ⟨g, k, none⟩ = some (.slice (some ⟨t, 0, none⟩) s s) ∧ W.cell? ⟨g', k, none⟩ = some (.slice (some ⟨t', 0, none⟩) s s)) (first | exact ⟨by assumption, by assumption⟩ | (refine ⟨?_, ?_⟩ <;> (refine (Below.cell (by assumption) ?_).trans (by assumption); (first | omega | (simp; omega))))) ((go_at_call 19; refine (likeI_any _ _ s gk _ (A0.next (by (repeat' (first | with_reducible exact Below.refl _ _ | with_reducible assumption | with_reducible refine gr_alloc ?_ _ | with_reducible refine gr_drew ?_ | with_reducible refine gr_drewN ?_ _ | with_reducible refine gr_trans ?_ (by assumption) | with_reducible refine gr_set ?_ ?_ _ | (simp; done) | omega | (simp; omega))))) (D0.next (by (repeat' (first | with_reducible exact Below.refl _ _ | with_reducible assumption | with_reducible refine gr_alloc ?_ _ | with_reducible refine gr_drew ?_ | with_reducible refine gr_drewN ?_ _ | with_reducible refine gr_trans ?_ (by assumption) | with_reducible refine gr_set ?_ ?_ _ | (simp; done) | omega | (simp; omega)))))).mono ?_; rintro e z1 ⟨rfl, hz1⟩; have hs1 := hz1.size; (try simp at hs1)))
      have hB1 : Below w.heap.size w z1 := by (repeat' (first | with_reducible exact Below.refl _ _ | with_reducible assumption | with_reducible refine gr_alloc ?_ _ | with_reducible refine gr_drew ?_ | with_reducible refine gr_drewN ?_ _ | with_reducible refine gr_trans ?_ (by assumption) | with_reducible refine gr_set ?_ ?_ _ | (simp; done) | omega | (simp; omega)))
      clear c0 d0 A0 D0
      go_wp2_with fail
      go_roundw
      case rel => exact ⟨k + 1, by omega, by go_num, hB1⟩
      case measure => simp [intOf]; omega
    · have e : k = n := by omega
      subst e
      go_wp2_with fail
      go_ret
      exact ⟨rfl, hB⟩

set_option maxRecDepth 100000 in
set_option maxHeartbeats 1000000 in
theorem rows5M_any (B C : Nat) (u v : Value) (s n : Nat) (G : Nat → Nat → Int) (T : Nat → Nat) (T' : Nat → Nat × Nat) (w : World) (hs : s ≤ 1000) (hu : RowsC B C w u s n G T) (hv : RdRw w v s n G T') :
    Calls Tryd.prog 24 #[u, v] w fun e w' => e = .returned (.bool true) ∧ Below w.heap.size w w' := by
  have HU := hid hu; have HV := hid hv
  obtain ⟨a, cap, rfl, hc1, hm1, hw1, ha, hr, _⟩ := hu
  obtain ⟨a', cap', rfl, hc2, hm2, ha', hr'⟩ := hv
  have HA := hid ha; have HA' := hid ha'; have HR := hid hr; have HR' := hid hr'
  clear ha ha' hr hr'
  unfold maxLen at hm1 hm2
  go_enter Tryd.func24, Tryd.ntmps24
  go_wp2_with fail
  go_loopw [5] (fun i wr => ∃ k : Nat, k ≤ n ∧ i = .int .i64 k ∧ Below w.heap.size w wr) (fun i _ => n - (intOf i).toNat)
  case atStart => exact ⟨0, Nat.zero_le _, rfl, Below.refl _ _⟩
  case round =>
    obtain ⟨k, hk, rfl, hB⟩ := hrel
    by_cases hlt : k < n
    · obtain ⟨g, rfl, _, hg, hcell⟩ := HA.out (by omega)
      obtain ⟨g', rfl, hg', hcell'⟩ := HA'.out (by omega)
      have c0 := (hB.cell (p := ⟨g, k, none⟩) (by show g < _; omega)).trans (hcell k hlt).1
      have d0 := (hB.cell (p := ⟨g', k, none⟩) (by show g' < _; omega)).trans (hcell' k hlt)
      have A0 := ((HR.out k hlt).2.2.rd (by unfold maxLen; omega)).next hB
      have D0 := (HR'.out k hlt).next hB
      have hsz := hB.size
      have hgs : g < w.heap.size := by omega
      have hgs' : g' < w.heap.size := by omega
      clear hcell hcell'
      generalize T k = t at c0 A0
      generalize (T' k).1 = t' at d0 D0
      generalize (T' k).2 = cp' at d0 D0
      generalize G k = gk at A0 D0
      go_wp2_with fail
      go_region_held3 (fun W => W.cell? ⟨g, k, none⟩ = some (.slice (some ⟨t, 0, none⟩) s s) ∧ W.cell? ⟨g', k, none⟩ = some (.slice (some ⟨t', 0, none⟩) s cp')) (first | exact ⟨by assumption, by assumption⟩ | (refine ⟨?_, ?_⟩ <;> (refine (Below.cell (by assumption) ?_).trans (by assumption); (first | omega | (simp; omega))))) ((go_at_call 19; refine (likeI_any _ _ s gk _ (A0.next (by (repeat' (first | with_reducible exact Below.refl _ _ | with_reducible assumption | with_reducible refine gr_alloc ?_ _ | with_reducible refine gr_drew ?_ | with_reducible refine gr_drewN ?_ _ | with_reducible refine gr_trans ?_ (by assumption) | with_reducible refine gr_set ?_ ?_ _ | (simp; done) | omega | (simp; omega))))) (D0.next (by (repeat' (first | with_reducible exact Below.refl _ _ | with_reducible assumption | with_reducible refine gr_alloc ?_ _ | with_reducible refine gr_drew ?_ | with_reducible refine gr_drewN ?_ _ | with_reducible refine gr_trans ?_ (by assumption) | with_reducible refine gr_set ?_ ?_ _ | (simp; done) | omega | (simp; omega)))))).mono ?_; rintro e z1 ⟨rfl, hz1⟩; have hs1 := hz1.size; (try simp at hs1)))
      have hB1 : Below w.heap.size w z1 := by (repeat' (first | with_reducible exact Below.refl _ _ | with_reducible assumption | with_reducible refine gr_alloc ?_ _ | with_reducible refine gr_drew ?_ | with_reducible refine gr_drewN ?_ _ | with_reducible refine gr_trans ?_ (by assumption) | with_reducible refine gr_set ?_ ?_ _ | (simp; done) | omega | (simp; omega)))
      clear c0 d0 A0 D0
      go_wp2_with fail
      go_roundw
      case rel => exact ⟨k + 1, by omega, by go_num, hB1⟩
      case measure => simp [intOf]; omega
    · have e : k = n := by omega
      subst e
      go_wp2_with fail
      go_ret
      exact ⟨rfl, hB⟩


end Go.Proofs.YthheongdgcfngaaDoor
