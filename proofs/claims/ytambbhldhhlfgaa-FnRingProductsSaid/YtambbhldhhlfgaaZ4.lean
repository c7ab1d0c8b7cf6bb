/- Several texts in one: XRsA, XSgf. -/
import Derived.Test.YtambbhldhhlfgaaMath
import Derived.Test.YtambbhldhhlfgaaC1

/- Plain mathematics: determinants of rows. No Go function in sight. -/
namespace Go.Proofs.Ytambbhldhhlfgaa
open Go.RowKit

/-- The sum of g c over col ≤ c < col + k. -/
def sumc (g : Nat → Int) : Nat → Nat → Int
  | _, 0 => 0
  | col, k + 1 => g col + sumc g (col + 1) k
theorem sumc_congr {g h : Nat → Int} {col k : Nat} (e : ∀ c, g c = h c) : sumc g col k = sumc h col k := by
  rw [show g = h from funext e]

/-- The number x, its sign turned for each number of the list beyond c; 0 if c is one of them. -/
def sgf : List Nat → Nat → Int → Int
  | [], _, x => x
  | t :: T, c, x => if t = c then 0 else if c < t then sgf T c (-x) else sgf T c x
theorem sgf_zero (T : List Nat) (c : Nat) : sgf T c 0 = 0 := by
  induction T with
  | nil => rfl
  | cons t T ih => simp [sgf, ih]
theorem sgf_mem {T : List Nat} {c : Nat} {x : Int} (h : c ∈ T) : sgf T c x = 0 := by
  induction T generalizing x with
  | nil => cases h
  | cons t T ih =>
    unfold sgf
    by_cases e : t = c
    · simp [e]
    · have hm : c ∈ T := by simpa [Ne.symm e] using h
      simp only [e, if_false]
      split <;> exact ih hm
theorem sgf_bd {T : List Nat} {c : Nat} {x B : Int} (h : -B ≤ x ∧ x ≤ B) : -B ≤ sgf T c x ∧ sgf T c x ≤ B := by
  induction T generalizing x with
  | nil => exact h
  | cons t T ih =>
    unfold sgf
    split
    · omega
    · split
      · exact ih (by omega)
      · exact ih h

/-- The sum of the products of one number from each row that is left, the columns of the first rows being taken. -/
def DS (M : Nat → Nat → Int) (n : Nat) : Nat → List Nat → Int
  | 0, _ => 1
  | r + 1, T => sumc (fun c => sgf T c (M T.length c) * DS M n r (T ++ [c])) 0 n
/-- The same without the numbers that are known to be 0. -/
def DSm (z : Nat → Nat → Bool) (M : Nat → Nat → Int) (n : Nat) : Nat → List Nat → Int
  | 0, _ => 1
  | r + 1, T => sumc (fun c => bif z T.length c && !T.elem c then sgf T c (M T.length c) * DSm z M n r (T ++ [c]) else 0) 0 n
theorem DS_m {z : Nat → Nat → Bool} {M : Nat → Nat → Int} {n : Nat} (h : ∀ i j, z i j = false → M i j = 0) (r : Nat) (T : List Nat) : DS M n r T = DSm z M n r T := by
  induction r generalizing T with
  | zero => rfl
  | succ r ih =>
    unfold DS DSm
    refine sumc_congr fun c => ?_
    by_cases hz : z T.length c = true
    · by_cases hm : c ∈ T
      · simp [sgf_mem hm, hm]
      · simp [hz, hm, ih]
    · have hz' : z T.length c = false := by simpa using hz
      simp [hz', h _ _ hz', sgf_zero]

/-- The determinant by the numbers of the first row. -/
def mnr (M : Nat → Nat → Int) (k : Nat) : Nat → Nat → Int := fun i j => M (i + 1) (if j < k then j else j + 1)
def alt (k : Nat) (x : Int) : Int := if k % 2 = 1 then -x else x
def DL : Nat → (Nat → Nat → Int) → Int
  | 0, _ => 1
  | n + 1, M => sumc (fun k => alt k (M 0 k * DL n (mnr M k))) 0 (n + 1)
def DLm : Nat → (Nat → Nat → Bool) → (Nat → Nat → Int) → Int
  | 0, _, _ => 1
  | n + 1, z, M => sumc (fun k => bif z 0 k then alt k (M 0 k * DLm n (fun i j => z (i + 1) (if j < k then j else j + 1)) (mnr M k)) else 0) 0 (n + 1)
theorem DL_m {n : Nat} {z : Nat → Nat → Bool} {M : Nat → Nat → Int} (h : ∀ i j, z i j = false → M i j = 0) : DL n M = DLm n z M := by
  induction n generalizing z M with
  | zero => rfl
  | succ n ih =>
    unfold DL DLm
    refine sumc_congr fun k => ?_
    have hk := ih (z := fun i j => z (i + 1) (if j < k then j else j + 1)) (M := mnr M k) (fun i j hz => h _ _ hz)
    by_cases hz : z 0 k = true
    · simp [hz, hk]
    · have hz' : z 0 k = false := by simpa using hz
      simp [hz', h _ _ hz', alt]

/-! What is left of the sum while the columns of a list (its last one first) are taken. -/
def rest (M : Nat → Nat → Int) (n : Nat) (T : List Nat) (col : Nat) : Int :=
  match n - T.length with
  | 0 => 1
  | r + 1 => sumc (fun c => sgf T c (M T.length c) * DS M n r (T ++ [c])) col (n - col)
def prd (M : Nat → Nat → Int) : List Nat → Int
  | [] => 1
  | c :: K => prd M K * sgf K.reverse c (M K.length c)
def pnd (M : Nat → Nat → Int) (n : Nat) : List Nat → Int
  | [] => 0
  | c :: K => prd M K * rest M n K.reverse (c + 1) + pnd M n K
theorem rest_full {M : Nat → Nat → Int} {n : Nat} {K : List Nat} {col : Nat} (h : K.length = n) : rest M n K.reverse col = 1 := by
  simp [rest, h]
theorem rest_end {M : Nat → Nat → Int} {n : Nat} {K : List Nat} (h : K.length < n) : rest M n K.reverse n = 0 := by
  unfold rest
  rw [List.length_reverse]
  obtain ⟨r, hr⟩ : ∃ r, n - K.length = r + 1 := ⟨n - K.length - 1, by omega⟩
  rw [hr]
  simp [sumc]
theorem rest_zero {M : Nat → Nat → Int} {n : Nat} {K : List Nat} : rest M n K.reverse 0 = DS M n (n - K.length) K.reverse := by
  unfold rest
  rw [List.length_reverse]
  cases n - K.length with
  | zero => rfl
  | succ r => simp [DS]
theorem rest_step {M : Nat → Nat → Int} {n : Nat} {K : List Nat} {col : Nat} (h : K.length < n) (hc : col < n) :
    rest M n K.reverse col = sgf K.reverse col (M K.length col) * rest M n (col :: K).reverse 0 + rest M n K.reverse (col + 1) := by
  rw [rest_zero]
  unfold rest
  rw [List.length_reverse]
  obtain ⟨r, hr⟩ : ∃ r, n - K.length = r + 1 := ⟨n - K.length - 1, by omega⟩
  obtain ⟨s, hs⟩ : ∃ s, n - col = s + 1 := ⟨n - col - 1, by omega⟩
  have h1 : n - (col + 1) = s := by omega
  have h2 : n - (col :: K).length = r := by rw [List.length_cons]; omega
  rw [hr, h2]
  simp only [hs, h1, sumc, List.reverse_cons]
/-- How far the search still is from its end. -/
def msr (n : Nat) : List Nat → Nat
  | [] => 0
  | c :: K => (n - c) * (n + 2) ^ (n - K.length) + msr n K
def mst (n : Nat) (K : List Nat) (col : Nat) : Nat := (n + 1 - col) * (n + 2) ^ (n - K.length) + msr n K
theorem mst_col {n : Nat} {K : List Nat} {col : Nat} (hc : col < n) : mst n K (col + 1) < mst n K col := by
  unfold mst
  have hp : 0 < (n + 2) ^ (n - K.length) := Nat.pow_pos (by omega)
  have : (n + 1 - col) = (n + 1 - (col + 1)) + 1 := by omega
  rw [this, Nat.add_mul]
  omega
theorem mst_take {n : Nat} {K : List Nat} {col : Nat} (hc : col < n) (hK : K.length < n) : mst n (col :: K) 0 < mst n K col := by
  obtain ⟨r, hr⟩ : ∃ r, n - K.length = r + 1 := ⟨n - K.length - 1, by omega⟩
  have h2 : n - (col :: K).length = r := by rw [List.length_cons]; omega
  have hp : 0 < (n + 2) ^ r := Nat.pow_pos (by omega)
  have key : ∀ A X Y m : Nat, (n + 1) * X < Y → (n + 1) * X + (A * Y + m) < (A + 1) * Y + m := by
    intro A X Y m h
    generalize (n + 1) * X = Z at h ⊢
    rw [Nat.add_mul, Nat.one_mul]
    omega
  have hX : (n + 1) * (n + 2) ^ r < (n + 2) ^ (r + 1) := by
    rw [Nat.pow_succ, Nat.mul_comm ((n + 2) ^ r)]
    exact Nat.mul_lt_mul_of_pos_right (by omega) hp
  have e : n + 1 - col = (n - col) + 1 := by omega
  show (n + 1 - 0) * (n + 2) ^ (n - (col :: K).length) + ((n - col) * (n + 2) ^ (n - K.length) + msr n K) < (n + 1 - col) * (n + 2) ^ (n - K.length) + msr n K
  rw [h2, hr, e, Nat.sub_zero]
  exact key _ _ _ _ hX
theorem mst_back {n c : Nat} {K : List Nat} {col : Nat} (hc : col ≤ n) (hcn : c < n) : mst n K (c + 1) < mst n (c :: K) col := by
  have hp : 0 < (n + 1 - col) * (n + 2) ^ (n - (c :: K).length) := Nat.mul_pos (by omega) (Nat.pow_pos (by omega))
  have e : n + 1 - (c + 1) = n - c := by omega
  show (n + 1 - (c + 1)) * (n + 2) ^ (n - K.length) + msr n K < (n + 1 - col) * (n + 2) ^ (n - (c :: K).length) + ((n - c) * (n + 2) ^ (n - K.length) + msr n K)
  rw [e]
  generalize (n + 1 - col) * (n + 2) ^ (n - (c :: K).length) = Z at hp
  omega

end Go.Proofs.Ytambbhldhhlfgaa

/- Chapter 3: the number of a row in a column, with its sign. -/
namespace Go.Proofs.Ytambbhldhhlfgaa
open Go.RowKit

/-- A slice of small counts. -/
def RdN (w : World) (v : Value) (L : List Nat) : Prop :=
  (v = .slice none 0 0 ∧ L = []) ∨ ∃ b cap, v = .slice (some ⟨b, 0, none⟩) L.length cap ∧ L.length ≤ cap ∧ cap ≤ maxLen ∧ b < w.heap.size ∧ ∀ i, i < L.length → w.cell? ⟨b, i, none⟩ = some (.int .i64 ((L.getD i 0 : Nat) : Int))
theorem drop_getD {L : List Nat} {k : Nat} (h : k < L.length) : L.drop k = L.getD k 0 :: L.drop (k + 1) := by
  rw [List.drop_eq_getElem_cons h]
  simp [List.getD, h]

set_option maxRecDepth 100000 in
set_option maxHeartbeats 1000000 in
theorem iSgf_any {n : Nat} (tb off cap : Nat) (tv : Value) (L : List Nat) (c : Nat) (x : Int) (w : World) (hrow : w.cell? ⟨tb, off + c, none⟩ = some (.int .i64 x)) (hc : c < n) (hx : -1000000000000 ≤ x ∧ x ≤ 1000000000000) (hT : RdN w tv L) (hL : L.length ≤ 6) (hLb : ∀ i, L.getD i 0 < 1000) :
    Calls Try.prog 100 #[.slice (some ⟨tb, off, none⟩) n cap, tv, .int .i64 c] w fun e w' => e = .returned (.int .i64 (sgf L c x)) ∧ w = w' := by
  rcases hT with ⟨rfl, rfl⟩ | ⟨b, cap', rfl, hlc, hcm, hb, hcells⟩
  · go_enter Try.func100, Try.ntmps100
    go_wp2
    refine wp_loop_rounds 1 ?_
    rw [rounds_succ]; go_wp2
    go_ret
    exact ⟨rfl, rfl⟩
  · have HC := hid hcells
    clear hcells
    unfold maxLen at hcm
    go_enter Try.func100, Try.ntmps100
    go_wp2
    go_loop [7, 16] (fun f i => ∃ (k : Nat) (y : Int), k ≤ L.length ∧ i = .int .i64 k ∧ f = .int .i64 y ∧ -1000000000000 ≤ y ∧ y ≤ 1000000000000 ∧ sgf (L.drop k) c y = sgf L c x) (fun _ i => L.length - (intOf i).toNat)
    case atStart => exact ⟨0, x, Nat.zero_le _, rfl, rfl, hx.1, hx.2, by simp⟩
    case round =>
      obtain ⟨k, y, hk, rfl, rfl, hy1, hy2, hs⟩ := hrel
      by_cases hlt : k < L.length
      · have hcell := HC.out k hlt
        have hdr := drop_getD hlt
        have htb := hLb k
        generalize L.getD k 0 = t at hcell hdr htb
        rw [hdr] at hs
        simp only [sgf] at hs
        clear hdr
        by_cases e1 : t = c
        · subst e1
          simp only [if_true] at hs
          have HS := hid hs
          clear hs
          go_wp2
          go_ret
          exact ⟨ret_int HS.out, rfl⟩
        · simp only [e1, if_false] at hs
          by_cases e2 : c < t
          · simp only [e2, if_true] at hs
            have HS := hid hs
            clear hs
            go_wp2
            go_round
            case rel => exact ⟨k + 1, -y, by omega, by go_num, by go_num, by omega, by omega, HS.out⟩
            case measure => simp [intOf]; omega
          · simp only [e2, if_false] at hs
            have HS := hid hs
            clear hs
            go_wp2
            go_round
            case rel => exact ⟨k + 1, y, by omega, by go_num, rfl, by omega, by omega, HS.out⟩
            case measure => simp [intOf]; omega
      · have e : L.drop k = [] := List.drop_eq_nil_of_le (by omega)
        rw [e] at hs
        simp only [sgf] at hs
        have HS := hid hs
        clear hs e
        go_wp2
        go_ret
        exact ⟨ret_int HS.out, rfl⟩

end Go.Proofs.Ytambbhldhhlfgaa
