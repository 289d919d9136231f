/- Reduction by cyclotomic polynomials over the whole numbers: what wraps round and what does not; tables for the orders up to 16. Plain facts, no walk. -/
import Derived.Test.YtnhpodlcgkgpbaaSpecRed
namespace Go.Proofs.Ytnhpodlcgkgpbaa
open Go.RowKit Go.ChangeShapes Go.Sort

/-- A list's numbers, with their places. -/
def mapI (f : Nat → Int → Int) : Nat → List Int → List Int
  | _, [] => []
  | i, x :: xs => f i x :: mapI f (i + 1) xs
theorem mapI_getD (f : Nat → Int → Int) : ∀ (xs : List Int) (i j : Nat), (mapI f i xs).getD j 0 = if j < xs.length then f (i + j) (xs.getD j 0) else 0
  | [], i, j => by simp [mapI]
  | x :: xs, i, 0 => by simp [mapI]
  | x :: xs, i, j + 1 => by
    have := mapI_getD f xs (i + 1) j
    simp only [mapI, List.getD_cons_succ, List.length_cons, Nat.add_lt_add_iff_right]
    rw [this, show i + 1 + j = i + (j + 1) by omega]
theorem mapI_length (f : Nat → Int → Int) : ∀ (xs : List Int) (i : Nat), (mapI f i xs).length = xs.length
  | [], _ => rfl
  | x :: xs, i => by simp [mapI, mapI_length f xs]

/-- The division's step and the division, over the whole numbers. -/
def stepZ (g : Nat → Int) (d k : Nat) (L : Nat → Int) : Nat → Int := fun j => if k ≤ j ∧ j < k + d then L j - L (k + d) * g (j - k) else L j
def divZ (g : Nat → Int) (d : Nat) : Nat → (Nat → Int) → Nat → Int
  | 0, L => L
  | k + 1, L => divZ g d k (stepZ g d k L)
def stepZL (g : List Int) (d k : Nat) (L : List Int) : List Int :=
  let lead := L.getD (k + d) 0
  mapI (fun j x => if k ≤ j ∧ j < k + d then x - lead * g.getD (j - k) 0 else x) 0 L
def divZL (g : List Int) (d : Nat) : Nat → List Int → List Int
  | 0, L => L
  | k + 1, L => divZL g d k (stepZL g d k L)

theorem stepZL_eq (g : List Int) (d k : Nat) (L : List Int) (h : k + d < L.length) (j : Nat) : (stepZL g d k L).getD j 0 = stepZ (fun i => g.getD i 0) d k (fun i => L.getD i 0) j := by
  unfold stepZL stepZ
  simp only [mapI_getD, Nat.zero_add]
  by_cases hj : j < L.length
  · rw [if_pos hj]
  · rw [if_neg hj, if_neg (by omega)]
    simp [List.getD_eq_getElem?_getD, List.getElem?_eq_none (by omega : L.length ≤ j)]
theorem stepZL_length (g : List Int) (d k : Nat) (L : List Int) : (stepZL g d k L).length = L.length := mapI_length _ _ _
theorem divZL_length (g : List Int) (d : Nat) : ∀ (r : Nat) (L : List Int), (divZL g d r L).length = L.length
  | 0, _ => rfl
  | r + 1, L => by rw [divZL, divZL_length g d r, stepZL_length]
theorem divZL_eq (g : List Int) (d : Nat) : ∀ (r : Nat) (L : List Int), r + d ≤ L.length → ∀ j, (divZL g d r L).getD j 0 = divZ (fun i => g.getD i 0) d r (fun i => L.getD i 0) j
  | 0, _, _, _ => rfl
  | r + 1, L, h, j => by
    rw [divZL, divZ, divZL_eq g d r _ (by rw [stepZL_length]; omega)]
    congr 1
    exact funext fun i => stepZL_eq g d r L (by omega) i

/-! ### Wrapped and not. -/
theorem wrap_sub (a b : Int) : wrap64 (wrap64 a - wrap64 (wrap64 b)) = wrap64 (a - b) := by unfold wrap64; omega
theorem wrap_wrap (a : Int) : wrap64 (wrap64 a) = wrap64 a := wrap_inR (inR_wrap a)
theorem wrap_eq_iff (a b : Int) : wrap64 a = wrap64 b ↔ (a - b) % 18446744073709551616 = 0 := by unfold wrap64; omega
theorem wrap_mul (a b : Int) : wrap64 (wrap64 a * b) = wrap64 (a * b) := by
  rw [wrap_eq_iff]
  have h : (wrap64 a - a) % 18446744073709551616 = 0 := by unfold wrap64; omega
  obtain ⟨q, hq⟩ := Int.dvd_of_emod_eq_zero h
  have : wrap64 a * b - a * b = 18446744073709551616 * (q * b) := by
    rw [← Int.sub_mul, hq, Int.mul_assoc]
  rw [this]
  exact Int.mul_emod_right _ _
theorem wrap_congr_sub {a a' b b' : Int} (h : wrap64 a = wrap64 a') (h' : wrap64 b = wrap64 b') : wrap64 (a - b) = wrap64 (a' - b') := by
  rw [wrap_eq_iff] at *; omega
theorem wrap_congr_add {a a' b b' : Int} (h : wrap64 a = wrap64 a') (h' : wrap64 b = wrap64 b') : wrap64 (a + b) = wrap64 (a' + b') := by
  rw [wrap_eq_iff] at *; omega

theorem stepD_wrap {g : Nat → Int} {d k n : Nat} {L L' : Nat → Int} (hk : k + d < n) (h : ∀ j, j < n → L j = wrap64 (L' j)) : ∀ j, j < n → stepD g d k L j = wrap64 (stepZ g d k L' j) := by
  intro j hj
  have hr : inR (L j) := by rw [h j hj]; exact inR_wrap _
  by_cases e : k ≤ j ∧ j < k + d
  · rw [stepD_plain hr e.1 e.2]
    unfold stepZ
    rw [if_pos e, h j hj, h (k + d) hk, wrap_mul]
    exact wrap_congr_sub (wrap_wrap _) (wrap_wrap _)
  · unfold stepZ
    rw [if_neg e, ← h j hj]
    by_cases e1 : j < k
    · exact stepD_low e1
    · exact stepD_ge (by omega)
theorem divL_wrap {g : Nat → Int} {d n : Nat} : ∀ (r : Nat) {L L' : Nat → Int}, r + d ≤ n → (∀ j, j < n → L j = wrap64 (L' j)) → ∀ j, j < n → divL g d r L j = wrap64 (divZ g d r L' j)
  | 0, _, _, _, h => h
  | r + 1, L, L', hn, h => by
    rw [divL_succ, divZ]
    exact divL_wrap r (by omega) (stepD_wrap (by omega) h)

/-! ### The tables. -/
def cycT : Nat → List Int
  | 1 => [-1, 1]
  | 2 => [1, 1]
  | 3 => [1, 1, 1]
  | 4 => [1, 0, 1]
  | 5 => [1, 1, 1, 1, 1]
  | 6 => [1, -1, 1]
  | 7 => [1, 1, 1, 1, 1, 1, 1]
  | 8 => [1, 0, 0, 0, 1]
  | 9 => [1, 0, 0, 1, 0, 0, 1]
  | 10 => [1, -1, 1, -1, 1]
  | 11 => [1, 1, 1, 1, 1, 1, 1, 1, 1, 1, 1]
  | 12 => [1, 0, -1, 0, 1]
  | 13 => [1, 1, 1, 1, 1, 1, 1, 1, 1, 1, 1, 1, 1]
  | 14 => [1, -1, 1, -1, 1, -1, 1]
  | 15 => [1, -1, 0, 1, -1, 1, 0, -1, 1]
  | 16 => [1, 0, 0, 0, 0, 0, 0, 0, 1]
  | _ => []
/-- The division on lists, with wraps, as both programs carry it out. -/
def stepDL (g : List Int) (d k : Nat) (L : List Int) : List Int :=
  let lead := L.getD (k + d) 0
  mapI (fun j x => if k ≤ j ∧ j < k + d then wrap64 (x - wrap64 (lead * g.getD (j - k) 0)) else x) 0 L
def divDL (g : List Int) (d : Nat) : Nat → List Int → List Int
  | 0, L => L
  | k + 1, L => divDL g d k (stepDL g d k L)
theorem stepDL_length (g : List Int) (d k : Nat) (L : List Int) : (stepDL g d k L).length = L.length := mapI_length _ _ _
theorem divDL_length (g : List Int) (d : Nat) : ∀ (r : Nat) (L : List Int), (divDL g d r L).length = L.length
  | 0, _ => rfl
  | r + 1, L => by rw [divDL, divDL_length g d r, stepDL_length]
theorem divDL_eq {g : Nat → Int} {gl : List Int} {d : Nat} (hg : ∀ i, i < d → g i = gl.getD i 0) : ∀ (r : Nat) {M : Nat → Int} {L : List Int}, r + d ≤ L.length → (∀ j, j < L.length → inR (M j)) → (∀ j, j < L.length → M j = L.getD j 0) →
    ∀ j, j < L.length → divL g d r M j = (divDL gl d r L).getD j 0
  | 0, _, _, _, _, h, j, hj => h j hj
  | r + 1, M, L, hr, hi, h, j, hj => by
    rw [divL_succ, divDL]
    refine divDL_eq hg r (by rw [stepDL_length]; omega) (fun j hj => stepD_inR hi j (by rwa [stepDL_length] at hj)) (fun j hj => ?_) j (by rwa [stepDL_length])
    rw [stepDL_length] at hj
    unfold stepDL
    simp only [mapI_getD, Nat.zero_add]
    rw [if_pos hj]
    by_cases e : r ≤ j ∧ j < r + d
    · rw [if_pos e, stepD_plain (hi j hj) e.1 e.2, h j hj, h (r + d) (by omega), hg (j - r) (by omega)]
    · rw [if_neg e, ← h j hj]
      by_cases e1 : j < r
      · exact stepD_low e1
      · exact stepD_ge (by omega)

/-- The polynomial of n by the table's lesser ones. -/
def cycTL (n : Nat) : Nat → List Int
  | 0 => mapI (fun j _ => cycBase n j) 0 (List.replicate (n + 1) 0)
  | d + 1 => if 1 ≤ d ∧ n % d = 0 then (divDL (cycT d) (phiN d) (n + 1 - sumPhi n d - phiN d) (cycTL n d)).drop (phiN d) else cycTL n d
set_option maxRecDepth 100000 in
theorem cycTL_table : ∀ n, n < 17 → 1 ≤ n → cycTL n n = cycT n := by decide +kernel

theorem cycTL_length {n : Nat} (hn : n < 17) (h1 : 1 ≤ n) : ∀ d, d ≤ n → (cycTL n d).length = n + 1 - sumPhi n d
  | 0, _ => by show (mapI _ _ _).length = _; rw [mapI_length]; simp [sumPhi]
  | d + 1, h => by
    have ih := cycTL_length hn h1 d (by omega)
    by_cases e : 1 ≤ d ∧ n % d = 0
    · rw [sumPhi_div e.1 e.2, show cycTL n (d + 1) = _ from if_pos e, List.length_drop, divDL_length, ih]; omega
    · have e2 : sumPhi n (d + 1) = sumPhi n d := by show sumPhi n d + _ = _; rw [if_neg e]; rfl
      rw [e2, show cycTL n (d + 1) = _ from if_neg e, ih]

theorem cycTo_inR (P : Nat → Nat → Int) {n : Nat} (hn : n < 61) (h1 : 1 ≤ n) : ∀ d, d ≤ n → ∀ j, j < n + 1 - sumPhi n d → inR (cycTo P n d j)
  | 0, _, j, _ => cycBase_inR n j
  | d + 1, h, j, hj => by
    by_cases e : 1 ≤ d ∧ n % d = 0
    · rw [cycTo_div e.1 e.2]
      rw [sumPhi_div e.1 e.2] at hj
      have hle := sumPhi_le hn h1 (by omega) e.1 e.2
      exact divL_inR (n := n + 1 - sumPhi n d) _ (cycTo_inR P hn h1 d (by omega)) _ (by omega)
    · have e2 : sumPhi n (d + 1) = sumPhi n d := by show sumPhi n d + _ = _; rw [if_neg e]; rfl
      rw [show cycTo P n (d + 1) = _ from if_neg e]
      rw [e2] at hj
      exact cycTo_inR P hn h1 d (by omega) j hj

theorem cycTo_table {n : Nat} (hn : n < 17) (h1 : 1 ≤ n) (ih : ∀ d, d < n → 1 ≤ d → ∀ i, i < phiN d → cyc d i = (cycT d).getD i 0) : ∀ d, d ≤ n → ∀ j, j < n + 1 - sumPhi n d → cycTo cyc n d j = (cycTL n d).getD j 0
  | 0, _, j, hj => by
    show cycBase n j = (mapI _ _ _).getD j 0
    simp only [mapI_getD, Nat.zero_add]
    rw [if_pos (by simpa [sumPhi] using hj)]
  | d + 1, h, j, hj => by
    have ihd := cycTo_table hn h1 ih d (by omega)
    by_cases e : 1 ≤ d ∧ n % d = 0
    · rw [cycTo_div e.1 e.2, show cycTL n (d + 1) = _ from if_pos e]
      rw [sumPhi_div e.1 e.2] at hj
      have hle := sumPhi_le (by omega) h1 (by omega) e.1 e.2
      have hl := cycTL_length hn h1 d (by omega)
      have := divDL_eq (ih d (by omega) e.1) (n + 1 - sumPhi n d - phiN d) (M := cycTo cyc n d) (L := cycTL n d) (by omega) (fun j hj => cycTo_inR cyc (by omega) h1 d (by omega) j (by omega)) (fun j hj => ihd j (by omega)) (j + phiN d) (by omega)
      refine this.trans ?_
      simp only [List.getD_eq_getElem?_getD, List.getElem?_drop]
      rw [Nat.add_comm j]
    · have e2 : sumPhi n (d + 1) = sumPhi n d := by show sumPhi n d + _ = _; rw [if_neg e]; rfl
      rw [show cycTo cyc n (d + 1) = _ from if_neg e, show cycTL n (d + 1) = _ from if_neg e]
      rw [e2] at hj
      exact ihd j hj

/-- The polynomials of the orders up to 16, told. -/
theorem cyc_table : ∀ n, n < 17 → 1 ≤ n → ∀ i, i ≤ phiN n → cyc n i = (cycT n).getD i 0 := by
  intro n
  induction n using Nat.strongRecOn with
  | _ n ih =>
    intro hn h1 i hi
    have hg := gauss n (by omega) h1
    rw [cyc_eq n h1, cycTo_table hn h1 (fun d hd h1d i hi => ih d hd (by omega) h1d i (by omega)) n (Nat.le_refl _) i (by omega), cycTL_table n hn h1]

/-! ### Reduction over the whole numbers. -/
def redZ (n : Nat) (P : Nat → Int) : Nat → Int := divZ (fun i => (cycT n).getD i 0) (phiN n) (24 - phiN n) P

theorem stepD_g {g g' : Nat → Int} {d k : Nat} {L : Nat → Int} (h : ∀ i, i < d → g i = g' i) : stepD g d k L = stepD g' d k L := by
  unfold stepD
  split
  · rfl
  · funext j
    by_cases e : k ≤ j ∧ j < k + d
    · rw [if_pos e, if_pos e, h (j - k) (by omega)]
    · rw [if_neg e, if_neg e]
theorem divL_g {g g' : Nat → Int} {d : Nat} (h : ∀ i, i < d → g i = g' i) : ∀ (r : Nat) (L : Nat → Int), divL g d r L = divL g' d r L
  | 0, _ => rfl
  | r + 1, L => by rw [divL_succ, divL_succ, stepD_g h, divL_g h r]

/-- The programs' reduction is the true one, wrapped. -/
theorem redP_wrap {n : Nat} (hn : n < 17) (h1 : 1 ≤ n) {P P' : Nat → Int} (h : ∀ j, j < 24 → P j = wrap64 (P' j)) : ∀ j, j < 24 → redP n P j = wrap64 (redZ n P' j) := by
  intro j hj
  have hp := phi_le12 n (by omega) h1
  unfold redP redZ
  rw [divL_g (fun i hi => cyc_table n hn h1 i (by omega))]
  exact divL_wrap (n := 24) _ (by omega) h j hj
theorem redP_exact {n : Nat} (hn : n < 17) (h1 : 1 ≤ n) {P P' : Nat → Int} (h : ∀ j, j < 24 → P j = wrap64 (P' j)) {j : Nat} (hj : j < 24) (hr : inR (redZ n P' j)) : redP n P j = redZ n P' j := by
  rw [redP_wrap hn h1 h j hj, wrap_inR hr]

theorem stepZ_lin (g : Nat → Int) (d k : Nat) (a b : Int) (L M : Nat → Int) : stepZ g d k (fun j => a * L j + b * M j) = fun j => a * stepZ g d k L j + b * stepZ g d k M j := by
  funext j
  unfold stepZ
  by_cases e : k ≤ j ∧ j < k + d
  · simp only [if_pos e]
    rw [Int.mul_sub, Int.mul_sub, Int.add_mul, Int.mul_assoc, Int.mul_assoc]
    omega
  · simp only [if_neg e]
theorem divZ_lin (g : Nat → Int) (d : Nat) (a b : Int) : ∀ (r : Nat) (L M : Nat → Int), divZ g d r (fun j => a * L j + b * M j) = fun j => a * divZ g d r L j + b * divZ g d r M j
  | 0, _, _ => rfl
  | r + 1, L, M => by
    show divZ g d r (stepZ g d r _) = _
    rw [stepZ_lin, divZ_lin g d a b r]
    rfl
theorem redZ_lin (n : Nat) (a b : Int) (L M : Nat → Int) (j : Nat) : redZ n (fun j => a * L j + b * M j) j = a * redZ n L j + b * redZ n M j := by
  unfold redZ; rw [divZ_lin]
theorem stepZ_congr {g : Nat → Int} {d k B : Nat} {M M' : Nat → Int} (hB : k + d < B) (h : ∀ j, j < B → M j = M' j) : ∀ j, j < B → stepZ g d k M j = stepZ g d k M' j := by
  intro j hj
  unfold stepZ
  rw [h (k + d) hB, h j hj]
theorem divZ_congr {g : Nat → Int} {d : Nat} : ∀ (r B : Nat) {M M' : Nat → Int}, r + d ≤ B → (∀ j, j < B → M j = M' j) → ∀ j, j < B → divZ g d r M j = divZ g d r M' j
  | 0, _, _, _, _, h, j, hj => h j hj
  | r + 1, B, M, M', hB, h, j, hj => divZ_congr r B (by omega) (stepZ_congr (by omega) h) j hj
theorem redZ_congr {n : Nat} (hn : n < 17) (h1 : 1 ≤ n) {M M' : Nat → Int} (h : ∀ j, j < 24 → M j = M' j) : ∀ j, j < 24 → redZ n M j = redZ n M' j := by
  have hp := phi_le12 n (by omega) h1
  exact divZ_congr _ 24 (by omega) h

def unit (k : Nat) : Nat → Int := fun j => if j = k then 1 else 0
def unitL (k : Nat) : List Int := mapI (fun j _ => if j = k then 1 else 0) 0 (List.replicate 24 0)
/-- z^k, reduced: a list. -/
def redT (n k : Nat) : List Int := divZL (cycT n) (phiN n) (24 - phiN n) (unitL k)
theorem redT_eq {n : Nat} (hn : n < 17) (h1 : 1 ≤ n) (k : Nat) {j : Nat} (hj : j < 24) : (redT n k).getD j 0 = redZ n (unit k) j := by
  have hp := phi_le12 n (by omega) h1
  have hl : (unitL k).length = 24 := by unfold unitL; rw [mapI_length]; simp
  unfold redT
  rw [divZL_eq _ _ _ _ (by omega)]
  exact redZ_congr hn h1 (fun j hj => by
    unfold unitL unit
    simp only [mapI_getD, Nat.zero_add]
    rw [if_pos (by simpa using hj)]) j hj
set_option maxRecDepth 100000 in
theorem redT_all : ∀ n, n < 17 → 1 ≤ n → ∀ k, k < 24 → (redT n k).all (fun x => decide (-2 ≤ x) && decide (x ≤ 2)) = true := by decide +kernel
theorem redT_small (n : Nat) (hn : n < 17) (h1 : 1 ≤ n) (k : Nat) (hk : k < 24) (j : Nat) : -2 ≤ (redT n k).getD j 0 ∧ (redT n k).getD j 0 ≤ 2 := by
  have h := List.all_eq_true.1 (redT_all n hn h1 k hk)
  rw [List.getD_eq_getElem?_getD]
  cases e : (redT n k)[j]? with
  | none => simp
  | some x =>
    have := h x (List.mem_of_getElem? e)
    simpa using this

theorem redZ_unit_small {n : Nat} (hn : n < 17) (h1 : 1 ≤ n) {k : Nat} (hk : k < 24) {j : Nat} (hj : j < phiN n) : -2 ≤ redZ n (unit k) j ∧ redZ n (unit k) j ≤ 2 := by
  have hp := phi_le12 n (by omega) h1
  rw [← redT_eq hn h1 k (by omega)]
  exact redT_small n hn h1 k hk j

/-- The first m numbers alone. -/
def upto (P : Nat → Int) (m : Nat) : Nat → Int := fun j => if j < m then P j else 0
theorem redZ_zero (n : Nat) (j : Nat) : redZ n (fun _ => 0) j = 0 := by
  have := redZ_lin n 0 0 (fun _ => 0) (fun _ => 0) j
  simpa using this
theorem redZ_upto (n : Nat) (P : Nat → Int) (m j : Nat) : redZ n (upto P (m + 1)) j = redZ n (upto P m) j + P m * redZ n (unit m) j := by
  have e : upto P (m + 1) = fun j => 1 * upto P m j + P m * unit m j := by
    funext i
    unfold upto unit
    by_cases h : i = m
    · subst h; simp
    · by_cases h2 : i < m
      · rw [if_pos (by omega), if_pos h2, if_neg h]; omega
      · rw [if_neg (by omega), if_neg h2, if_neg h]; omega
  rw [e, redZ_lin, Int.one_mul]
theorem redZ_all {n : Nat} (hn : n < 17) (h1 : 1 ≤ n) (P : Nat → Int) {j : Nat} (hj : j < 24) : redZ n P j = redZ n (upto P 24) j :=
  redZ_congr hn h1 (fun _ hi => (if_pos hi).symm) j hj
theorem mul_small {a b B : Int} (h1 : -B ≤ a) (h2 : a ≤ B) (h3 : -2 ≤ b) (h4 : b ≤ 2) : -(2 * B) ≤ a * b ∧ a * b ≤ 2 * B := by
  have : b = -2 ∨ b = -1 ∨ b = 0 ∨ b = 1 ∨ b = 2 := by omega
  rcases this with rfl | rfl | rfl | rfl | rfl <;> omega
theorem redZ_bound {n : Nat} (hn : n < 17) (h1 : 1 ≤ n) {P : Nat → Int} {B : Int} (h : ∀ k, k < 24 → -B ≤ P k ∧ P k ≤ B) {j : Nat} (hj : j < phiN n) :
    ∀ m : Nat, m ≤ 24 → -(2 * B * m) ≤ redZ n (upto P m) j ∧ redZ n (upto P m) j ≤ 2 * B * m
  | 0, _ => by
    have e : upto P 0 = fun _ => 0 := by funext _; unfold upto; simp
    rw [e, redZ_zero]; simp
  | m + 1, hm => by
    obtain ⟨a, b⟩ := redZ_bound hn h1 h hj m (by omega)
    obtain ⟨c, d⟩ := redZ_unit_small hn h1 (show m < 24 by omega) hj
    obtain ⟨e, f⟩ := h m (by omega)
    obtain ⟨g1, g2⟩ := mul_small e f c d
    rw [redZ_upto]
    rw [show (2 * B * ((m + 1 : Nat) : Int)) = 2 * B * m + 2 * B by rw [Int.natCast_add, Int.mul_add]; simp]
    omega
theorem redZ_within {n : Nat} (hn : n < 17) (h1 : 1 ≤ n) {P : Nat → Int} {B : Int} (h : ∀ k, k < 24 → -B ≤ P k ∧ P k ≤ B) {j : Nat} (hj : j < phiN n) : -(48 * B) ≤ redZ n P j ∧ redZ n P j ≤ 48 * B := by
  have hp := phi_le12 n (by omega) h1
  rw [redZ_all hn h1 P (show j < 24 by omega)]
  have := redZ_bound hn h1 h hj 24 (Nat.le_refl _)
  omega
end Go.Proofs.Ytnhpodlcgkgpbaa
