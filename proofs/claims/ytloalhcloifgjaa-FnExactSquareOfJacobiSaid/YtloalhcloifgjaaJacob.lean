/- Jacobi sums by counting: rows of powers turned and added, as the program and as the model count them. Plain facts, no walk. Rows that share one table: what lies in memory. Plain facts, no walk. addTurned of the program: a row, turned, is added to another one. newRows and valueRows of the program: rows that share a table; the rows of one character. countSum of the program: rows are turned by values and added. Rows of numbers that are made one by one, each in a block of its own, in a list that grows: what lies in memory. Plain facts, no walk. l04Sum of the model: sums of products of values over all lists with a sum. JacobiSum of both. -/
import Derived.Test.YtloalhcloifgjaaSumZ
import Derived.Test.YtloalhcloifgjaaAlg
import Derived.Test.YtloalhcloifgjaaPrm
import Derived.Test.YtloalhcloifgjaaInvC
import Derived.Test.YtloalhcloifgjaaFin
import Derived.Test.YtloalhcloifgjaaCopy
import Derived.Deep.RegionHeld3
import Derived.Test.YtloalhcloifgjaaVal1
import Derived.Test.YtloalhcloifgjaaExp
import Derived.Test.YtloalhcloifgjaaRowE
import Derived.Test.YtloalhcloifgjaaSpecRed
import Derived.BigRegion
import Derived.Test.YtloalhcloifgjaaMulC
import Derived.Test.YtloalhcloifgjaaCycloOf
import Derived.Test.YtloalhcloifgjaaBox3
namespace Go.Proofs.Ytloalhcloifgjaa
set_option linter.unusedVariables false
set_option linter.unusedSimpArgs false
section
open Go.RowKit Go.ChangeShapes Go.Sort
set_option linter.unusedVariables false
set_option linter.unusedSimpArgs false

/-- The first m numbers of a row, each e powers of z on. -/
def turnT (n e : Nat) (r : Nat → Int) (m j : Nat) : Int := sumN m (fun t => if (t + e) % n = j then r t else 0)
def turnZ (n e : Nat) (r : Nat → Int) (j : Nat) : Int := turnT n e r n j
theorem turnT_succ (n e : Nat) (r : Nat → Int) (m j : Nat) : turnT n e r (m + 1) j = if (m + e) % n = j then turnT n e r m j + r m else turnT n e r m j := by
  unfold turnT
  simp only [sumN]
  split
  · rfl
  · omega
theorem turnT_zero (n e : Nat) (r : Nat → Int) (j : Nat) : turnT n e r 0 j = 0 := rfl
theorem turnT_bd {n e : Nat} {r : Nat → Int} {B : Int} (hB : 0 ≤ B) (j : Nat) : ∀ m, (∀ t, t < m → 0 ≤ r t ∧ r t ≤ B) → 0 ≤ turnT n e r m j ∧ turnT n e r m j ≤ (m : Int) * B
  | 0, _ => by simp [turnT, sumN]
  | m + 1, h => by
    have ih := turnT_bd (n := n) (e := e) hB j m (fun t ht => h t (by omega))
    have h1 := h m (by omega)
    have e1 : ((m + 1 : Nat) : Int) * B = (m : Int) * B + B := by rw [Int.natCast_add, Int.add_mul]; simp
    rw [turnT_succ, e1]
    split <;> omega
theorem turnT_congr {n e : Nat} {r r' : Nat → Int} {m : Nat} (h : ∀ t, t < m → r t = r' t) (j : Nat) : turnT n e r m j = turnT n e r' m j := by
  unfold turnT
  exact sumN_congr (fun t ht => by rw [h t ht])
theorem turnZ_congr {n e : Nat} {r r' : Nat → Int} (h : ∀ t, t < n → r t = r' t) (j : Nat) : turnZ n e r j = turnZ n e r' j := turnT_congr h j
theorem sumN_nonneg {F : Nat → Int} : ∀ {m}, (∀ i, i < m → 0 ≤ F i) → 0 ≤ sumN m F
  | 0, _ => by simp [sumN]
  | m + 1, h => by
    have := sumN_nonneg (m := m) (fun i hi => h i (by omega))
    have := h m (by omega)
    simp only [sumN]; omega
theorem sumN_one_le {F : Nat → Int} : ∀ {m}, (∀ i, i < m → 0 ≤ F i) → ∀ i, i < m → F i ≤ sumN m F
  | 0, _, i, hi => by omega
  | m + 1, h, i, hi => by
    have h1 := sumN_nonneg (m := m) (fun i hi => h i (by omega))
    have h2 := h m (by omega)
    simp only [sumN]
    by_cases e : i < m
    · have := sumN_one_le (m := m) (fun i hi => h i (by omega)) i e
      omega
    · obtain rfl : i = m := by omega
      omega
theorem sumN_le {F : Nat → Int} {B : Int} : ∀ {m : Nat}, (∀ i, i < m → F i ≤ B) → sumN m F ≤ (m : Int) * B
  | 0, _ => by simp [sumN]
  | m + 1, h => by
    have h1 := sumN_le (m := m) (fun i hi => h i (by omega))
    have h2 := h m (by omega)
    have e1 : ((m + 1 : Nat) : Int) * B = (m : Int) * B + B := by rw [Int.natCast_add, Int.add_mul]; simp
    simp only [sumN]
    omega
/-- Turning keeps what a row adds up to. -/
theorem turn_mass {n e : Nat} (h1 : 1 ≤ n) (r : Nat → Int) : sumN n (turnZ n e r) = sumN n r := by
  unfold turnZ turnT
  rw [sumN_swap]
  refine sumN_congr (fun t ht => ?_)
  have e1 : (fun j => if (t + e) % n = j then r t else 0) = fun j => if j = (t + e) % n then r t else 0 := funext fun j => by
    by_cases h : j = (t + e) % n
    · rw [if_pos h.symm, if_pos h]
    · rw [if_neg (fun q => h q.symm), if_neg h]
  rw [e1, sumN_single, if_pos (Nat.mod_lt _ (by omega))]

/-- The rest of s - x. -/
theorem restN_sub {p s x : Nat} (hs : s < p) (hx : x < p) : restN p ((s : Int) - (x : Int)) = if x ≤ s then s - x else s + p - x := by
  by_cases h : x ≤ s
  · rw [if_pos h, show (s : Int) - (x : Int) = ((s - x : Nat) : Int) by omega]
    exact restN_nat (by omega)
  · rw [if_neg h]
    have h1 : ((s : Int) - (x : Int)).tmod (p : Int) = (s : Int) - (x : Int) := by
      rw [show (s : Int) - (x : Int) = -((x - s : Nat) : Int) by omega, Int.neg_tmod, Int.tmod_eq_emod_of_nonneg (by omega), Int.emod_eq_of_lt (by omega) (by omega)]
    unfold restN
    rw [h1, Int.emod_eq_of_lt (by omega) (by omega)]
    omega
theorem restN_back {p s x y : Nat} (hs : s < p) (hx : x < p) (hy : y < p) : (x + y) % p = s ↔ y = restN p ((s : Int) - (x : Int)) := by
  rw [restN_sub hs hx]
  by_cases h : x + y < p
  · rw [Nat.mod_eq_of_lt h]
    split <;> omega
  · rw [Nat.mod_eq_sub_mod (by omega), Nat.mod_eq_of_lt (by omega)]
    split <;> omega

/-- What the first m rows, each turned by the value at what lacks to s, add up to. -/
def cntT (p n k : Nat) (s : Int) (R : Nat → Nat → Int) (m j : Nat) : Int :=
  sumN m (fun x => if restN p (s - (x : Int)) = 0 then 0 else turnZ n (expN p n k (restN p (s - (x : Int)))) (R x) j)
theorem cntT_zero (p n k : Nat) (s : Int) (R : Nat → Nat → Int) (j : Nat) : cntT p n k s R 0 j = 0 := rfl
theorem cntT_no {p n k m : Nat} {s : Int} {R : Nat → Nat → Int} (h : restN p (s - (m : Int)) = 0) (j : Nat) : cntT p n k s R (m + 1) j = cntT p n k s R m j := by
  unfold cntT; simp only [sumN]; rw [if_pos h]; omega
theorem cntT_yes {p n k m : Nat} {s : Int} {R : Nat → Nat → Int} (h : ¬ restN p (s - (m : Int)) = 0) (j : Nat) : cntT p n k s R (m + 1) j = cntT p n k s R m j + turnZ n (expN p n k (restN p (s - (m : Int)))) (R m) j := by
  unfold cntT; simp only [sumN]; rw [if_neg h]
theorem cntT_bd {p n k : Nat} {s : Int} {R : Nat → Nat → Int} {B : Int} (hB : 0 ≤ B) (j : Nat) : ∀ m, (∀ x t, x < m → t < n → 0 ≤ R x t ∧ R x t ≤ B) → 0 ≤ cntT p n k s R m j ∧ cntT p n k s R m j ≤ (m : Int) * ((n : Int) * B)
  | 0, _ => by simp [cntT, sumN]
  | m + 1, h => by
    have ih := cntT_bd (p := p) (k := k) (s := s) hB j m (fun x t hx ht => h x t (by omega) ht)
    have h1 := turnT_bd (n := n) (e := expN p n k (restN p (s - (m : Int)))) hB j n (fun t ht => h m t (by omega) ht)
    have e1 : ((m + 1 : Nat) : Int) * ((n : Int) * B) = (m : Int) * ((n : Int) * B) + (n : Int) * B := by rw [Int.natCast_add, Int.add_mul]; simp
    have hnB : 0 ≤ (n : Int) * B := Int.mul_nonneg (by omega) hB
    rw [e1]
    by_cases e : restN p (s - (m : Int)) = 0
    · rw [cntT_no e]; omega
    · rw [cntT_yes e]; unfold turnZ; omega
theorem cntT_congr {p n k : Nat} {s : Int} {R R' : Nat → Nat → Int} {m : Nat} (h : ∀ x t, x < m → t < n → R x t = R' x t) (j : Nat) : cntT p n k s R m j = cntT p n k s R' m j := by
  unfold cntT
  refine sumN_congr (fun x hx => ?_)
  split
  · rfl
  · exact turnZ_congr (fun t ht => h x t hx ht) j
/-- One number more. -/
def lenZ (p n k : Nat) (R : Nat → Nat → Int) (s j : Nat) : Int := cntT p n k (s : Int) R p j
theorem lenZ_congr {p n k : Nat} {R R' : Nat → Nat → Int} (h : ∀ x t, x < p → t < n → R x t = R' x t) (s j : Nat) : lenZ p n k R s j = lenZ p n k R' s j := cntT_congr h j
theorem cnt_mass {p n k : Nat} (h1 : 1 ≤ n) {s : Int} {R : Nat → Nat → Int} {B : Int} (hR : ∀ x t, x < p → t < n → 0 ≤ R x t) (hm : ∀ x, x < p → sumN n (R x) ≤ B) (hB : 0 ≤ B) : sumN n (cntT p n k s R p) ≤ (p : Int) * B := by
  unfold cntT
  rw [sumN_swap]
  refine sumN_le (fun x hx => ?_)
  by_cases e : restN p (s - (x : Int)) = 0
  · have e1 : (fun j => if restN p (s - (x : Int)) = 0 then 0 else turnZ n (expN p n k (restN p (s - (x : Int)))) (R x) j) = fun _ => (0 : Int) := funext fun j => if_pos e
    rw [e1, sumN_zero]; exact hB
  · have e1 : (fun j => if restN p (s - (x : Int)) = 0 then 0 else turnZ n (expN p n k (restN p (s - (x : Int)))) (R x) j) = fun j => turnZ n (expN p n k (restN p (s - (x : Int)))) (R x) j := funext fun j => if_neg e
    rw [e1, show (fun j => turnZ n (expN p n k (restN p (s - (x : Int)))) (R x) j) = turnZ n (expN p n k (restN p (s - (x : Int)))) (R x) from rfl, turn_mass h1]
    exact hm x hx
/-- Rows of numbers of at least 0 that add up to B at most. -/
def Mass (p n : Nat) (R : Nat → Nat → Int) (B : Int) : Prop := 0 ≤ B ∧ (∀ x t, x < p → t < n → 0 ≤ R x t) ∧ ∀ x, x < p → sumN n (R x) ≤ B
theorem Mass.bd {p n : Nat} {R : Nat → Nat → Int} {B : Int} (h : Mass p n R B) : ∀ x t, x < p → t < n → 0 ≤ R x t ∧ R x t ≤ B := fun x t hx ht =>
  ⟨h.2.1 x t hx ht, Int.le_trans (sumN_one_le (fun i hi => h.2.1 x i hx hi) t ht) (h.2.2 x hx)⟩
theorem Mass.len {p n k : Nat} {R : Nat → Nat → Int} {B : Int} (h : Mass p n R B) (h1 : 1 ≤ n) : Mass p n (lenZ p n k R) ((p : Int) * B) :=
  ⟨Int.mul_nonneg (by omega) h.1, fun x t hx ht => (cntT_bd h.1 t p (fun y u hy hu => h.bd y u hy hu)).1, fun x hx => cnt_mass h1 h.2.1 h.2.2 h.1⟩

/-- The rows of one character. -/
def rowOne (p n k : Nat) (x t : Nat) : Int := if x ≠ 0 ∧ t = expN p n k x then 1 else 0
/-- The rows of none. -/
def rowNone (x t : Nat) : Int := if x = 0 ∧ t = 0 then 1 else 0
theorem rowNone_mass {p n : Nat} : Mass p n rowNone 1 := by
  refine ⟨by omega, fun x t _ _ => by unfold rowNone; split <;> omega, fun x _ => ?_⟩
  by_cases e : x = 0
  · subst e
    have e1 : rowNone 0 = fun t => if t = 0 then 1 else 0 := funext fun t => by simp [rowNone]
    rw [e1, sumN_single]
    split <;> omega
  · have e1 : rowNone x = fun _ => 0 := funext fun t => by simp [rowNone, e]
    rw [e1, sumN_zero]; omega
theorem turn_none {n e : Nat} (h1 : 1 ≤ n) (he : e < n) (j : Nat) : turnZ n e (rowNone 0) j = if j = e then 1 else 0 := by
  unfold turnZ turnT
  have e1 : (fun t => if (t + e) % n = j then rowNone 0 t else 0) = fun t => if t = 0 then (if j = e then 1 else 0) else 0 := funext fun t => by
    by_cases h : t = 0
    · subst h
      rw [if_pos rfl, Nat.zero_add, Nat.mod_eq_of_lt he]
      by_cases q : e = j
      · rw [if_pos q, if_pos q.symm]; rfl
      · rw [if_neg q, if_neg (fun h => q h.symm)]
    · rw [if_neg h]
      have : rowNone 0 t = 0 := by simp [rowNone, h]
      rw [this]; split <;> rfl
  rw [e1, sumN_single, if_pos (by omega)]
theorem turn_zero {n e : Nat} (j : Nat) {r : Nat → Int} (h : ∀ t, r t = 0) : turnZ n e r j = 0 := by
  unfold turnZ turnT
  have e1 : (fun t => if (t + e) % n = j then r t else 0) = fun _ => 0 := funext fun t => by rw [h]; split <;> rfl
  rw [e1, sumN_zero]
theorem len_none {p n k s : Nat} (h1 : 1 ≤ n) (hs : s < p) (j : Nat) : lenZ p n k rowNone s j = rowOne p n k s j := by
  unfold lenZ cntT
  have e1 : ∀ x, x < p → (if restN p ((s : Int) - (x : Int)) = 0 then 0 else turnZ n (expN p n k (restN p ((s : Int) - (x : Int)))) (rowNone x) j) = if x = 0 then rowOne p n k s j else 0 := fun x hx => by
    by_cases e : x = 0
    · subst e
      have hr : restN p ((s : Int) - ((0 : Nat) : Int)) = s := by rw [restN_sub hs hx, if_pos (Nat.zero_le _), Nat.sub_zero]
      rw [if_pos rfl, hr, turn_none h1 (expN_lt h1)]
      unfold rowOne
      by_cases q : s = 0
      · rw [if_pos q, if_neg (fun h => h.1 q)]
      · rw [if_neg q]
        by_cases r : j = expN p n k s
        · rw [if_pos r, if_pos ⟨q, r⟩]
        · rw [if_neg r, if_neg (fun h => r h.2)]
    · rw [if_neg e, turn_zero j (fun t => by simp [rowNone, e])]
      split <;> rfl
  rw [sumN_congr e1, sumN_single, if_pos (by omega)]
theorem rowOne_mass {p n k : Nat} (h1 : 1 ≤ n) : Mass p n (rowOne p n k) 1 := by
  refine ⟨by omega, fun x t _ _ => by unfold rowOne; split <;> omega, fun x _ => ?_⟩
  by_cases e : x = 0
  · have e1 : rowOne p n k x = fun _ => 0 := funext fun t => by simp [rowOne, e]
    rw [e1, sumN_zero]; omega
  · have e1 : rowOne p n k x = fun t => if t = expN p n k x then 1 else 0 := funext fun t => by simp [rowOne, e]
    rw [e1, sumN_single]
    split <;> omega

/-- The model's next rows, counted by the numbers y below m. -/
def nextT (p n k : Nat) (R : Nat → Nat → Int) (m s j : Nat) : Int :=
  sumN m (fun y => if y = 0 then 0 else sumN p (fun x => if (x + y) % p = s then turnZ n (expN p n k y) (R x) j else 0))
/-- .. of which the number m is counted with the numbers x below q. -/
def nextX (p n k y : Nat) (R : Nat → Nat → Int) (q s j : Nat) : Int := sumN q (fun x => if (x + y) % p = s then turnZ n (expN p n k y) (R x) j else 0)
theorem nextX_zero (p n k y : Nat) (R : Nat → Nat → Int) (s j : Nat) : nextX p n k y R 0 s j = 0 := rfl
theorem nextX_succ (p n k y : Nat) (R : Nat → Nat → Int) (q s j : Nat) : nextX p n k y R (q + 1) s j = if (q + y) % p = s then nextX p n k y R q s j + turnZ n (expN p n k y) (R q) j else nextX p n k y R q s j := by
  unfold nextX; simp only [sumN]; split
  · rfl
  · omega
theorem nextT_succ {p n k m : Nat} (h : m ≠ 0) (R : Nat → Nat → Int) (s j : Nat) : nextT p n k R (m + 1) s j = nextT p n k R m s j + nextX p n k m R p s j := by
  unfold nextT nextX; simp only [sumN]; rw [if_neg h]
theorem nextT_one (p n k : Nat) (R : Nat → Nat → Int) (s j : Nat) : nextT p n k R 1 s j = 0 := by
  unfold nextT; simp [sumN]
/-- Both count the same. -/
theorem next_len {p n k s : Nat} (hs : s < p) (R : Nat → Nat → Int) (j : Nat) : nextT p n k R p s j = lenZ p n k R s j := by
  unfold nextT lenZ cntT
  have e1 : (fun y => if y = 0 then 0 else sumN p (fun x => if (x + y) % p = s then turnZ n (expN p n k y) (R x) j else 0)) = fun y => sumN p (fun x => if y = 0 then 0 else if (x + y) % p = s then turnZ n (expN p n k y) (R x) j else 0) := funext fun y => by
    by_cases e : y = 0
    · simp only [if_pos e]; exact (sumN_zero p).symm
    · simp only [if_neg e]
  rw [e1, sumN_swap]
  refine sumN_congr (fun x hx => ?_)
  have hr : restN p ((s : Int) - (x : Int)) < p := (restN_eq p (by omega) _).2.1
  have e2 : ∀ y, y < p → (if y = 0 then 0 else if (x + y) % p = s then turnZ n (expN p n k y) (R x) j else 0) = if y = restN p ((s : Int) - (x : Int)) then (if restN p ((s : Int) - (x : Int)) = 0 then 0 else turnZ n (expN p n k (restN p ((s : Int) - (x : Int)))) (R x) j) else 0 := fun y hy => by
    by_cases q : y = restN p ((s : Int) - (x : Int))
    · rw [if_pos q, if_pos ((restN_back hs hx hy).2 q), ← q]
    · rw [if_neg q, if_neg (fun h => q ((restN_back hs hx hy).1 h))]
      split <;> rfl
  rw [sumN_congr e2, sumN_single, if_pos hr]
/-- Bounds of the model's rows under way. -/
theorem nextX_bd {p n k y : Nat} {R : Nat → Nat → Int} {B : Int} (hB : 0 ≤ B) (s j : Nat) : ∀ q, (∀ x t, x < q → t < n → 0 ≤ R x t ∧ R x t ≤ B) → 0 ≤ nextX p n k y R q s j ∧ nextX p n k y R q s j ≤ (q : Int) * ((n : Int) * B)
  | 0, _ => by simp [nextX, sumN]
  | q + 1, h => by
    have ih := nextX_bd (p := p) (k := k) (y := y) hB s j q (fun x t hx ht => h x t (by omega) ht)
    have h1 := turnT_bd (n := n) (e := expN p n k y) hB j n (fun t ht => h q t (by omega) ht)
    have e1 : ((q + 1 : Nat) : Int) * ((n : Int) * B) = (q : Int) * ((n : Int) * B) + (n : Int) * B := by rw [Int.natCast_add, Int.add_mul]; simp
    have hnB : 0 ≤ (n : Int) * B := Int.mul_nonneg (by omega) hB
    rw [e1, nextX_succ]
    unfold turnZ
    split <;> omega
theorem nextT_bd {p n k : Nat} {R : Nat → Nat → Int} {B : Int} (hB : 0 ≤ B) (s j : Nat) (h : ∀ x t, x < p → t < n → 0 ≤ R x t ∧ R x t ≤ B) : ∀ m, 0 ≤ nextT p n k R m s j ∧ nextT p n k R m s j ≤ (m : Int) * ((p : Int) * ((n : Int) * B))
  | 0 => by simp [nextT, sumN]
  | m + 1 => by
    have ih := nextT_bd (p := p) (n := n) (k := k) hB s j h m
    have hnB : 0 ≤ (p : Int) * ((n : Int) * B) := Int.mul_nonneg (by omega) (Int.mul_nonneg (by omega) hB)
    have e1 : ((m + 1 : Nat) : Int) * ((p : Int) * ((n : Int) * B)) = (m : Int) * ((p : Int) * ((n : Int) * B)) + (p : Int) * ((n : Int) * B) := by rw [Int.natCast_add, Int.add_mul]; simp
    rw [e1]
    by_cases e : m = 0
    · subst e
      rw [nextT_one]
      have := ih.2
      constructor
      · omega
      · simp only [Int.natCast_zero, Int.zero_mul] at *; omega
    · have h1 := nextX_bd (p := p) (k := k) (y := m) hB s j p h
      rw [nextT_succ e]
      omega
/-- The rows of a list of characters: K 0, .., K (m - 1) are their Powers. -/
def rowsL (p n : Nat) (K : Nat → Nat) : Nat → Nat → Nat → Int
  | 0 => rowNone
  | m + 1 => lenZ p n (K m) (rowsL p n K m)
def massB (p : Nat) : Nat → Int
  | 0 => 1
  | m + 1 => (p : Int) * massB p m
theorem rowsL_mass {p n : Nat} (h1 : 1 ≤ n) (K : Nat → Nat) : ∀ m, Mass p n (rowsL p n K m) (massB p m)
  | 0 => rowNone_mass
  | m + 1 => (rowsL_mass h1 K m).len h1
end

section
open Go.RowKit Go.ChangeShapes Go.Sort
set_option linter.unusedVariables false
set_option linter.unusedSimpArgs false

/-- The heads of p rows of n numbers over the table in block T. -/
def heads (T n p : Nat) : List Value := (List.range p).map (fun i => .slice (some ⟨T, i * n, none⟩) n n)
theorem heads_get {T n p i : Nat} (h : i < p) : (heads T n p)[i]? = some (.slice (some ⟨T, i * n, none⟩) n n) := by
  unfold heads
  rw [List.getElem?_map, List.getElem?_range h]; rfl
theorem row_lt {i p n j : Nat} (hi : i < p) (hj : j < n) : i * n + j < p * n := by
  have h : (i + 1) * n ≤ p * n := Nat.mul_le_mul_right _ hi
  rw [Nat.add_mul, Nat.one_mul] at h
  omega
theorem row_div {i n j : Nat} (hj : j < n) : (i * n + j) / n = i ∧ (i * n + j) % n = j := by
  rw [Nat.add_comm, Nat.add_mul_div_right _ _ (by omega), Nat.add_mul_mod_self_right, Nat.div_eq_of_lt hj, Nat.mod_eq_of_lt hj]
  omega
/-- The table in block T, its rows' heads in block R. -/
def Tab (w : World) (T R p n : Nat) (F : Nat → Nat → Int) : Prop :=
  T ≠ R ∧ Sl true w T (T + 1) (.slice (some ⟨T, 0, none⟩) (p * n) (p * n)) (p * n) (fun q => F (q / n) (q % n)) ∧ Box w R (heads T n p)
section
variable {w w' : World} {T R p n : Nat} {F G : Nat → Nat → Int}
theorem Tab.size (h : Tab w T R p n F) : T < w.heap.size ∧ R < w.heap.size := ⟨h.2.1.size, h.2.2.1⟩
theorem Tab.keep (h : Tab w T R p n F) (hb : Below w.heap.size w w') : Tab w' T R p n F := ⟨h.1, h.2.1.keep hb h.2.1.size, h.2.2.keep hb⟩
theorem Tab.keepF {lo hi : Nat} (h : Tab w T R p n F) (hf : Frame lo hi w w') (hT : T < lo ∨ hi ≤ T) (hR : R < lo ∨ hi ≤ R) : Tab w' T R p n F := ⟨h.1, h.2.1.keepF hf (by omega), h.2.2.keepF hf hR⟩
theorem Tab.congr (h : Tab w T R p n F) (hn : 1 ≤ n) (e : ∀ i j, i < p → j < n → G i j = F i j) : Tab w T R p n G := by
  refine ⟨h.1, h.2.1.congr (fun q hq => ?_), h.2.2⟩
  exact e _ _ ((Nat.div_lt_iff_lt_mul (by omega)).2 hq) (Nat.mod_lt _ (by omega))
theorem Tab.head (h : Tab w T R p n F) {i : Nat} (hi : i < p) : w.cell? ⟨R, i, none⟩ = some (.slice (some ⟨T, i * n, none⟩) n n) := h.2.2.2.1 i _ (heads_get hi)
theorem Tab.bd (h : Tab w T R p n F) (hn : 1 ≤ n) {i j : Nat} (hi : i < p) (hj : j < n) : inR (F i j) := by
  have := h.2.1.bd _ (row_lt hi hj)
  rwa [(row_div hj).1, (row_div hj).2] at this
/-- One row. -/
theorem Tab.row (h : Tab w T R p n F) (hn : 1 ≤ n) {i : Nat} (hi : i < p) : Sl true w T (T + 1) (.slice (some ⟨T, i * n, none⟩) n n) n (F i) := by
  have hpn := row_lt hi (show 0 < n by omega)
  obtain ⟨k1, k2, k3, k4, k5⟩ := h.2.1.known (by omega)
  have hl := h.2.1.len
  have hnl : n ≤ p * n := Nat.le_mul_of_pos_left n (by omega)
  refine ⟨h.2.1.size, by omega, fun j hj => h.bd hn hi hj, .inr ⟨T, i * n, n, rfl, Nat.le_refl _, by omega, Nat.le_refl _, by omega, fun j hj => ?_, k5⟩⟩
  have := k4 _ (row_lt hi hj)
  rw [(row_div hj).1, (row_div hj).2, Nat.zero_add] at this
  exact this
/-- One row has turned. -/
theorem Tab.put (h : Tab w T R p n F) (hn : 1 ≤ n) {i : Nat} (hi : i < p) {f : Nat → Int} (hf : Frame T (T + 1) w w') (hs : Sl true w' T (T + 1) (.slice (some ⟨T, i * n, none⟩) n n) n f) (ho : ∀ q, q < p * n → (q < i * n ∨ i * n + n ≤ q) → w'.cell? ⟨T, q, none⟩ = w.cell? ⟨T, q, none⟩) : Tab w' T R p n (fun y => if y = i then f else F y) := by
  have hR := h.2.2.keepF hf (by have := h.1; omega)
  have hpn := row_lt hi (show 0 < n by omega)
  obtain ⟨k1, k2, k3, k4, k5⟩ := h.2.1.known (by omega)
  obtain ⟨m1, m2, m3, m4, m5⟩ := hs.known (by omega)
  have hl := h.2.1.len
  refine ⟨h.1, ⟨hs.size, hl, fun q hq => ?_, .inr ⟨T, 0, p * n, rfl, Nat.le_refl _, by omega, Nat.le_refl _, by omega, fun q hq => ?_, m5⟩⟩, hR⟩
  · dsimp only
    have hd : q / n < p := (Nat.div_lt_iff_lt_mul (by omega)).2 hq
    have hm : q % n < n := Nat.mod_lt _ (by omega)
    by_cases e : q / n = i
    · rw [if_pos e]; exact hs.bd _ hm
    · rw [if_neg e]; exact h.bd hn hd hm
  · dsimp only
    have hm : q % n < n := Nat.mod_lt _ (by omega)
    have hq2 : q = q / n * n + q % n := by rw [Nat.mul_comm]; exact (Nat.div_add_mod q n).symm
    by_cases e : q / n = i
    · rw [if_pos e, Nat.zero_add]
      have := m4 _ hm
      rw [← e, ← hq2] at this
      exact this
    · rw [if_neg e, Nat.zero_add]
      have hout : q < i * n ∨ i * n + n ≤ q := by
        rcases Nat.lt_or_gt_of_ne e with h1 | h1
        · left
          have : (q / n + 1) * n ≤ i * n := Nat.mul_le_mul_right _ h1
          rw [Nat.add_mul, Nat.one_mul] at this
          omega
        · right
          have : (i + 1) * n ≤ q / n * n := Nat.mul_le_mul_right _ h1
          rw [Nat.add_mul, Nat.one_mul] at this
          omega
      rw [ho q hq hout]
      have := k4 q hq
      rwa [Nat.zero_add] at this
/-- One number has turned. -/
theorem Tab.store (h : Tab w T R p n F) (hn : 1 ≤ n) {i j : Nat} (hi : i < p) (hj : j < n) {x : Int} (hx : inR x) : Tab (w.setCell ⟨T, i * n + j, none⟩ (.int .i64 x)) T R p n (fun y t => if y = i ∧ t = j then x else F y t) := by
  have hs := (h.row hn hi).store hj hx
  have := h.put hn hi (w' := w.setCell ⟨T, i * n + j, none⟩ (.int .i64 x)) ((Frame.refl T (T + 1) w).setCell (p := ⟨T, i * n + j, none⟩) (Nat.le_refl T) (Nat.lt_succ_self T) _) hs (fun q hq ho => setCell_ne _ _ _ _ _ (by omega))
  exact this.congr hn (fun y t hy ht => by
    by_cases e : y = i
    · subst e
      simp
    · simp [e])
theorem Tab.frozen (h : Tab w T R p n F) (hp : 0 < p * n) : ∀ k, w.frozen? ⟨T, k, none⟩ = false := (h.2.1.known hp).2.2.2.2 rfl
end
end

section
open Go.RowKit Go.ChangeShapes Go.Sort
set_option linter.unusedVariables false
set_option linter.unusedSimpArgs false

section
variable {o : Bool} {lo hi lo' hi' : Nat} {v v' : Value} {f r : Nat → Int}
set_option maxRecDepth 100000 in
set_option maxHeartbeats 2000000 in
theorem addTurned_any (n e : Nat) (h1 : 1 ≤ n) (h2 : n ≤ 16) (he : e < n) (w : World) (hs : Sl true w lo hi v n f) (ht : Sl o w lo' hi' v' n r) (hd : hi ≤ lo' ∨ hi' ≤ lo)
    (hf : ∀ j, j < n → 0 ≤ f j ∧ f j ≤ 1000000000000) (hr : ∀ j, j < n → 0 ≤ r j ∧ r j ≤ 1000000000000) :
    Calls Try.prog 148 #[v, v', .int .i64 (e : Int)] w fun E w' => E = .returned (.tuple #[]) ∧ Sl true w' lo hi v n (fun j => f j + turnZ n e r j) ∧ Frame lo hi w w' := by
  obtain ⟨g1, off1, c1, rfl, hg1, hg1', _⟩ := hs.at (by omega)
  obtain ⟨g2, off2, c2, rfl, hg2, hg2', _, _, hcell2, _⟩ := ht.at (by omega)
  have HC2 := Lib.hid hcell2; clear hcell2
  have hg2s : g2 < w.heap.size := Nat.lt_of_lt_of_le hg2' ht.size
  have HD := Lib.hid (show g2 < lo ∨ hi ≤ g2 by omega); clear hd
  have HS := Lib.hid hs; clear hs ht
  have HF := Lib.hid hf; clear hf
  have HR := Lib.hid hr; clear hr
  have hn0 : ¬ n = 0 := by omega
  go_enter Try.func148, Try.ntmps148
  go_wp2
  go_loopw [10] (fun s10 wr => ∃ i : Nat, i ≤ n ∧ s10 = .int .i64 i ∧ Sl true wr lo hi (.slice (some ⟨g1, off1, none⟩) n c1) n (fun j => f j + turnT n e r i j) ∧ Frame lo hi w wr) (fun s10 _ => n - (intOf s10).toNat)
  case atStart => exact ⟨0, Nat.zero_le _, rfl, HS.out.congr (fun j hj => by rw [turnT_zero]; omega), Frame.refl _ _ _⟩
  case round =>
    obtain ⟨i, hi', rfl, hown, hfr⟩ := hrel
    have HX := Lib.hid hown; clear hown
    by_cases hlt : i < n
    · have hltI : (i : Int) < (n : Int) := by omega
      obtain ⟨_, _, _, hc, hz⟩ := HX.out.known (by omega)
      obtain ⟨q, hq⟩ : ∃ q, (i + e) % n = q := ⟨_, rfl⟩
      have hqn : q < n := by rw [← hq]; exact Nat.mod_lt _ (by omega)
      have hcq := hc q hqn
      have hzq := hz rfl (off1 + q)
      have hci : wr.cell? ⟨g2, off2 + i, none⟩ = some (.int .i64 (r i)) := by rw [hfr.cell (p := ⟨g2, off2 + i, none⟩) hg2s HD.out]; exact HC2.out i hlt
      have hfq := HF.out q hqn
      have hri := HR.out i hlt
      have htb := turnT_bd (n := n) (e := e) (r := r) (B := 1000000000000) (by omega) q i (fun t ht => HR.out t (by omega))
      have hti : turnT n e r i q ≤ 16000000000000 := by
        have : (i : Int) * 1000000000000 ≤ 16 * 1000000000000 := Int.mul_le_mul_of_nonneg_right (by omega) (by omega)
        omega
      have htm : ((i : Int) + (e : Int)).tmod (n : Int) = (q : Int) := by
        rw [Int.tmod_eq_emod_of_nonneg (by omega), ← hq, Int.natCast_emod, Int.natCast_add]
      have hem : ((i : Int) + (e : Int)) % (n : Int) = (q : Int) := by
        rw [← hq, Int.natCast_emod, Int.natCast_add]
      have HN := Lib.hid (fun j => turnT_succ n e r i j)
      have HQ := Lib.hid hq; clear hq
      clear hc hz
      have htb0 := htb.1
      clear htb
      have HNX := Lib.hid (fun j (hj : j ≠ q) => show turnT n e r (i + 1) j = turnT n e r i j by rw [HN.out, if_neg (fun h => hj (by rw [← h, HQ.out]))])
      have HNQ := Lib.hid (show turnT n e r (i + 1) q = turnT n e r i q + r i by rw [HN.out, if_pos HQ.out])
      clear HN
      have HP := Lib.hid (rfl : turnT n e r i q = turnT n e r i q)
      generalize hpe : turnT n e r i q = P at hcq htb0 hti HNQ
      have HPE := Lib.hid hpe; clear hpe HP
      have hqI : (q : Int) < (n : Int) := by omega
      go_wp2
      go_roundw
      case rel =>
        refine ⟨i + 1, by omega, by go_num, ?_, hfr.setCell hg1 hg1' _⟩
        refine (HX.out.store (i := q) (x := f q + P + r i) hqn (by unfold inR; omega)).congr (fun j hj => ?_)
        by_cases e1 : j = q
        · subst e1; rw [if_pos rfl, HNQ.out]; omega
        · rw [if_neg e1, HNX.out j e1]
      case measure => simp [intOf]; omega
    · obtain rfl : i = n := by omega
      go_wp2
      refine bodyPost_end (results_none rfl _ _ _) rfl ?_
      exact ⟨rfl, HX.out, hfr⟩
end
end

section
open Go.RowKit Go.ChangeShapes Go.Sort
set_option linter.unusedVariables false
set_option linter.unusedSimpArgs false

theorem Try.info_rows24 : (Try.prog.info? 24).map (fun i => (i.zero, i.size, i.bytes)) = some (some (.slice none 0 0), 1, 24) := by kernel_rfl
/-- A block of heads under way. -/
theorem Box.setMap {w : World} {b p i : Nat} {G : Nat → Value} {u : Value} (h : Box w b ((List.range p).map G)) (hi : i < p) : Box (w.setCell ⟨b, i, none⟩ u) b ((List.range p).map (fun x => if x = i then u else G x)) := by
  obtain ⟨h1, h2, h3⟩ := h
  have hg : ∀ (G : Nat → Value) j, j < p → ((List.range p).map G)[j]? = some (G j) := fun G j hj => by rw [List.getElem?_map, List.getElem?_range hj]; rfl
  refine ⟨by simpa using h1, fun j v hj => ?_, fun k => by simpa using h3 k⟩
  rcases Nat.lt_or_ge j p with hl | hl
  · rw [hg _ j hl] at hj
    cases hj
    by_cases e : j = i
    · subst e
      rw [if_pos rfl]
      exact World.cell?_setCell_same _ _ _ (h2 j _ (hg G j hl))
    · rw [if_neg e, setCell_ne _ _ _ _ _ e]
      exact h2 j _ (hg G j hl)
  · rw [List.getElem?_eq_none (by simpa using hl)] at hj
    cases hj
theorem Box.atMap {w : World} {b p i : Nat} {G : Nat → Value} (h : Box w b ((List.range p).map G)) (hi : i < p) : w.cell? ⟨b, i, none⟩ = some (G i) := h.2.1 i _ (by rw [List.getElem?_map, List.getElem?_range hi]; rfl)

set_option maxRecDepth 100000 in
set_option maxHeartbeats 2000000 in
theorem newRows_any (p n : Nat) (hp1 : 1 ≤ p) (hp2 : p ≤ 61) (h1 : 1 ≤ n) (h2 : n ≤ 16) (w : World) :
    Calls Try.prog 207 #[.int .i64 (p : Int), .int .i64 (n : Int)] w fun E w' => E = .returned (.slice (some ⟨w.heap.size + 1, 0, none⟩) p p) ∧ Tab w' w.heap.size (w.heap.size + 1) p n (fun _ _ => 0) ∧ Below w.heap.size w w' := by
  obtain ⟨L, hL⟩ : ∃ L, p * n = L := ⟨_, rfl⟩
  have hLb : L ≤ 976 := by rw [← hL]; exact Nat.le_trans (Nat.mul_le_mul hp2 h2) (by decide)
  have hwm : IntKind.i64.wrap ((p : Int) * (n : Int)) = (L : Int) := by
    rw [← hL, ← Int.natCast_mul]; exact IntWalk.i64_in _ (by rw [hL]; omega)
  have hmk := run_make_row' (P := Try.prog) 24 2 (.int .i64 0) 8 Try.underlying24 Try.info2 rfl .i64 .i64 L (by omega) (by omega)
  have hmk2 := run_make_row' (P := Try.prog) 96 24 (.slice none 0 0) 24 Try.underlying96 Try.info_rows24 rfl .i64 .i64 p (by omega) (by omega)
  have q0 := Sl.made w (madeCells #[.int .i64 0] L) 2 L L (fun _ => 0) (Nat.le_refl _) (by unfold maxLen; omega) (fun j hj => by simp [inR]) (fun j hj => by simp [madeCells_at _ _ _ hj])
  have st0 := ((((St.start w).alloc (.cells (madeCells #[.int .i64 0] L) 2)).addSl ⟨true, w.heap.size, w.heap.size + 1, .slice (some ⟨w.heap.size, 0, none⟩) L L, L, fun _ => 0⟩ q0).alloc (.cells (madeCells #[.slice none 0 0] p) 24))
  have b0 := Box.made (w.alloc (.cells (madeCells #[.int .i64 0] L) 2)) (madeCells #[.slice none 0 0] p) 24 ((List.range p).map (fun _ => .slice none 0 0)) (fun j v h => by
    rcases Nat.lt_or_ge j p with hl | hl
    · rw [List.getElem?_map, List.getElem?_range hl] at h
      cases h
      exact madeCells_at _ _ _ hl
    · rw [List.getElem?_eq_none (by simpa using hl)] at h
      cases h)
  simp only [World.size_alloc] at b0
  have HST := Lib.hid st0; have HB := Lib.hid b0
  have HL := Lib.hid hL
  clear q0 st0 b0 hL
  go_enter Try.func207, Try.ntmps207
  go_wp2
  go_loopw [17] (fun s17 wr => ∃ i : Nat, i ≤ p ∧ s17 = .int .i64 i ∧ Box wr (w.heap.size + 1) ((List.range p).map (fun x => if x < i then .slice (some ⟨w.heap.size, x * n, none⟩) n n else .slice none 0 0)) ∧ St w wr [] [⟨true, w.heap.size, w.heap.size + 1, .slice (some ⟨w.heap.size, 0, none⟩) L L, L, fun _ => 0⟩]) (fun s17 _ => p - (intOf s17).toNat)
  case atStart => exact ⟨0, Nat.zero_le _, rfl, by simpa using HB.out, HST.out⟩
  case round =>
    obtain ⟨i, hi, rfl, hbx, hst⟩ := hrel
    have HBX := Lib.hid hbx; clear hbx
    have HT := Lib.hid hst; clear hst
    by_cases hlt : i < p
    · have hltI : (i : Int) < (p : Int) := by omega
      have hrow := row_lt (p := p) (n := n) hlt (show n - 1 < n by omega)
      rw [HL.out] at hrow
      obtain ⟨Fr, hFr⟩ : ∃ Fr, i * n = Fr := ⟨_, rfl⟩
      rw [hFr] at hrow
      have hw1 : IntKind.i64.wrap ((i : Int) * (n : Int)) = (Fr : Int) := by
        rw [← hFr, ← Int.natCast_mul]; exact IntWalk.i64_in _ (by rw [hFr]; omega)
      have hw2 : IntKind.i64.wrap (((i : Int) + 1) * (n : Int)) = ((Fr + n : Nat) : Int) := by
        have e : ((i : Int) + 1) * (n : Int) = ((Fr + n : Nat) : Int) := by rw [Int.add_mul, Int.one_mul, ← hFr, Int.natCast_add, Int.natCast_mul]
        rw [e]; exact IntWalk.i64_in _ (by omega)
      have hcell := HBX.out.atMap hlt
      rw [if_neg (Nat.lt_irrefl i)] at hcell
      have hfz := HBX.out.2.2 i
      have HFR := Lib.hid hFr; clear hFr
      have hle1 : Fr ≤ Fr + n := by omega
      have hle2 : Fr + n ≤ L := by omega
      go_wp2
      go_roundw
      case rel =>
        refine ⟨i + 1, by omega, by go_num, ?_, HT.out.write (lo := w.heap.size + 1) (hi := w.heap.size + 1 + 1) ((Frame.refl _ _ wr).setCell (by simp) (by simp) _) (by omega) (by intro b hb; cases hb) (by intro s hs'; simp only [List.mem_cons, List.not_mem_nil, or_false] at hs'; rcases hs' with rfl; dsimp only; omega)⟩
        have h := HBX.out.setMap (u := .slice (some ⟨w.heap.size, Fr, none⟩) n n) hlt
        rwa [List.map_congr_left (g := fun x => if x < i + 1 then Value.slice (some ⟨w.heap.size, x * n, none⟩) n n else .slice none 0 0) (fun x hx => by
          by_cases e : x = i
          · subst e; rw [if_pos rfl, if_pos (by omega), HFR.out]
          · rw [if_neg e]
            by_cases e2 : x < i
            · rw [if_pos e2, if_pos (by omega)]
            · rw [if_neg e2, if_neg (by omega)])] at h
      case measure => simp [intOf]; omega
    · obtain rfl : i = p := by omega
      have BB := HT.out.1
      go_wp2
      go_ret
      refine ⟨rfl, ⟨by omega, ?_, ?_⟩, BB⟩
      · rw [HL.out]
        exact (HT.out.sl 0 ⟨true, w.heap.size, w.heap.size + 1, .slice (some ⟨w.heap.size, 0, none⟩) L L, L, fun _ => 0⟩ rfl)
      · have h := HBX.out
        rwa [List.map_congr_left (g := fun x => Value.slice (some ⟨w.heap.size, x * n, none⟩) n n) (fun x hx => by rw [if_pos (List.mem_range.1 hx)])] at h

set_option maxRecDepth 100000 in
set_option maxHeartbeats 4000000 in
theorem valueRows_any (p n k : Nat) (hp : primeN p = true) (h1 : 1 ≤ n) (h2 : n ≤ 16) (w : World) {o : Bool} {lo hi bc be : Nat} {v : Value} {k0 : Int}
    (hbc : Box w bc [.int .i64 (p : Int), .int .i64 (n : Int), .int .i64 (k : Int)]) (hbe : Box w be [v]) (hs : Sl o w lo hi v p (exV p n k)) :
    Calls Try.prog 124 #[.agg #[.int .i64 (p : Int), .int .i64 (n : Int), .int .i64 k0], .func (.func 208) #[] #[.pointer (some ⟨bc, 0, none⟩), .pointer (some ⟨be, 0, none⟩)]] w fun E w' => ∃ T R, E = .returned (.slice (some ⟨R, 0, none⟩) p p) ∧ w.heap.size ≤ T ∧ w.heap.size ≤ R ∧ Tab w' T R p n (rowOne p n k) ∧ Below w.heap.size w w' := by
  have hb := primeN_bd hp
  have HP := Lib.hid hp; clear hp
  have st0 := (((((St.start w).addSl ⟨o, lo, hi, v, p, exV p n k⟩ hs).addBox be [v] hbe).addBox bc [.int .i64 (p : Int), .int .i64 (n : Int), .int .i64 (k : Int)] hbc).alloc (.cells #[.int .i64 (p : Int), .int .i64 (n : Int), .int .i64 k0] 29)).addBox w.heap.size [.int .i64 (p : Int), .int .i64 (n : Int), .int .i64 k0] (Box.made _ _ _ _ (fun j v h => by simpa using h))
  have hbe1 := hbe.1
  have hbc1 := hbc.1
  have hss := hs.size
  clear hs hbe hbc
  obtain ⟨e0, e1, e2⟩ := (st0.box 0 (w.heap.size, [.int .i64 (p : Int), .int .i64 (n : Int), .int .i64 k0]) rfl).cell3
  go_enter Try.func124, Try.ntmps124
  go_wp2_with fail
  refine (newRows_any p n (by omega) hb.2 h1 h2 _).mono ?_
  rintro e w2 ⟨rfl, tab2, b2⟩
  have HT2 := Lib.hid (st0.keep b2)
  have hz2 := b2.size
  simp only [World.size_alloc] at hz2 tab2
  have hzt := tab2.size
  have HB := Lib.hid tab2
  clear st0 b2 tab2 e0 e1 e2
  go_wp2
  go_loopw [17] (fun s17 wr => ∃ x : Nat, x ≤ p ∧ s17 = .int .i64 x ∧ w2.heap.size ≤ wr.heap.size ∧ Tab wr (w.heap.size + 1) (w.heap.size + 1 + 1) p n (fun y t => if y < x then rowOne p n k y t else 0) ∧ St w wr [(w.heap.size, [.int .i64 (p : Int), .int .i64 (n : Int), .int .i64 k0]), (bc, [.int .i64 (p : Int), .int .i64 (n : Int), .int .i64 (k : Int)]), (be, [v])] [⟨o, lo, hi, v, p, exV p n k⟩]) (fun s17 _ => p - (intOf s17).toNat)
  case atStart => exact ⟨0, Nat.zero_le _, rfl, Nat.le_refl _, HB.out.congr h1 (fun y t hy ht => by rw [if_neg (Nat.not_lt_zero _)]), HT2.out⟩
  case round =>
    clear HB HT2
    obtain ⟨x, hx, rfl, hzr, htab, hst⟩ := hrel
    have HB := Lib.hid htab; clear htab
    by_cases hlt : x < p
    · have hltI : (x : Int) < (p : Int) := by omega
      have hcell := HB.out.head hlt
      have bx := hst.box 1 (bc, [.int .i64 (p : Int), .int .i64 (n : Int), .int .i64 (k : Int)]) rfl
      have by_ := hst.box 2 (be, [v]) rfl
      have sl := hst.sl 0 ⟨o, lo, hi, v, p, exV p n k⟩ rfl
      dsimp only at bx by_ sl
      have HST := Lib.hid hst; clear hst
      have HRR := Lib.hid (restN_nat hlt)
      go_wp2_with fail
      refine (value_any p n k (x : Int) bc be _ (by omega) hb.2 (by omega) (by omega) bx by_ sl).mono ?_
      rw [HRR.out]
      by_cases hx0 : x = 0
      · subst hx0
        rintro e w3 ⟨rfl, b3⟩
        have HB3 := Lib.hid (HB.out.keep b3)
        have HT3 := Lib.hid (HST.out.keep b3)
        have hz3 := b3.size
        clear b3 bx by_ sl HB HST
        go_wp2
        go_roundw
        case rel => exact ⟨1, by omega, by go_num, by omega, HB3.out.congr h1 (fun y t hy ht => by
          rw [if_neg (Nat.not_lt_zero _)]
          by_cases e : y < 1
          · rw [if_pos e]; unfold rowOne; rw [if_neg (fun h => h.1 (by omega))]
          · rw [if_neg e]), HT3.out⟩
        case measure => simp [intOf] <;> omega
      · have hne : (((x : Nat) : Int) != 0) = true := by rw [bne_iff_ne]; omega
        have hq := expN_lt (p := p) (k := k) (x := x) h1
        rw [exV_exp hx0]
        have HQ := Lib.hid (rfl : expN p n k x = expN p n k x)
        generalize hqe : expN p n k x = q at hq
        have HQE := Lib.hid hqe; clear HQ
        clear hqe
        rintro e w3 ⟨rfl, b3⟩
        have HB3 := Lib.hid (HB.out.keep b3)
        have st3 := HST.out.keep b3
        have hz3 := b3.size
        have hqI : (q : Int) < (n : Int) := by omega
        have hck := (HB3.out.row h1 hlt).known (by omega)
        have hc1 := hck.2.2.2.1 q hq
        have hfr := hck.2.2.2.2 rfl (x * n + q)
        clear b3 bx by_ sl HB HST hck
        have FR := Lib.hid ((Frame.refl (w.heap.size + 1) (w.heap.size + 1 + 1) w3).setCell (p := ⟨w.heap.size + 1, x * n + q, none⟩) (by simp) (by simp) (.int .i64 1))
        have HST3 := Lib.hid st3; clear st3
        go_wp2
        go_roundw
        case rel =>
          refine ⟨x + 1, by omega, by go_num, by simp; omega, ?_, HST3.out.write FR.out (by omega) (by intro b hb; simp only [List.mem_cons, List.not_mem_nil, or_false] at hb; rcases hb with rfl | rfl | rfl <;> dsimp only <;> omega) (by intro s hs'; simp only [List.mem_cons, List.not_mem_nil, or_false] at hs'; rcases hs' with rfl <;> dsimp only <;> omega)⟩
          refine (HB3.out.store h1 hlt hq (x := 1) (by unfold inR; omega)).congr h1 (fun y t hy ht => ?_)
          by_cases e1 : y = x
          · subst e1
            rw [if_pos (by omega)]
            unfold rowOne
            by_cases e2 : t = q
            · rw [if_pos ⟨hx0, by rw [HQE.out]; exact e2⟩, if_pos ⟨rfl, e2⟩]
            · rw [if_neg (fun h => e2 (by rw [← HQE.out]; exact h.2)), if_neg (fun h => e2 h.2), if_neg (Nat.lt_irrefl _)]
          · rw [if_neg (show ¬ (y = x ∧ t = q) from fun h => e1 h.1)]
            by_cases e2 : y < x
            · rw [if_pos e2, if_pos (by omega)]
            · rw [if_neg e2, if_neg (by omega)]
        case measure => simp [intOf] <;> omega
    · obtain rfl : x = p := by omega
      have BB := hst.1
      have HB2 := Lib.hid (HB.out.congr (G := rowOne x n k) h1 (fun y t hy ht => by rw [if_pos hy]))
      clear hst HB
      go_wp2
      go_ret
      exact ⟨_, _, rfl, by omega, by omega, HB2.out, BB⟩
end

section
open Go.RowKit Go.ChangeShapes Go.Sort
set_option linter.unusedVariables false
set_option linter.unusedSimpArgs false

section
variable {o : Bool} {lo hi lo' hi' bc be T R : Nat} {v u : Value} {f : Nat → Int} {F : Nat → Nat → Int}
theorem cnt_bd {p n k : Nat} {s : Int} {F : Nat → Nat → Int} (hp : p ≤ 61) (hn : n ≤ 16) (hF : ∀ x t, x < p → t < n → 0 ≤ F x t ∧ F x t ≤ 100000000) {x : Nat} (hx : x ≤ p) (j : Nat) : 0 ≤ cntT p n k s F x j ∧ cntT p n k s F x j ≤ 100000000000 := by
  have b := cntT_bd (p := p) (n := n) (k := k) (s := s) (B := 100000000) (by omega) j x (fun y t hy ht => hF y t (by omega) ht)
  have cn : (n : Int) * 100000000 ≤ 16 * 100000000 := Int.mul_le_mul_of_nonneg_right (by omega) (by omega)
  have c2 : (x : Int) * ((n : Int) * 100000000) ≤ 61 * (16 * 100000000) := Int.mul_le_mul (by omega) cn (by omega) (by omega)
  omega
set_option maxRecDepth 100000 in
set_option maxHeartbeats 4000000 in
theorem countSum_any (p n k : Nat) (hp1 : 3 ≤ p) (hp2 : p ≤ 61) (h1 : 1 ≤ n) (h2 : n ≤ 16) (s : Int) (hs1 : -61 ≤ s) (hs2 : s ≤ 122) (w : World)
    (hs : Sl true w lo hi v n f) (ht : Tab w T R p n F) (hbc : Box w bc [.int .i64 (p : Int), .int .i64 (n : Int), .int .i64 (k : Int)]) (hbe : Box w be [u]) (hsu : Sl o w lo' hi' u p (exV p n k))
    (hdT : T < lo ∨ hi ≤ T) (hdR : R < lo ∨ hi ≤ R) (hdc : bc < lo ∨ hi ≤ bc) (hde : be < lo ∨ hi ≤ be) (hdu : hi' ≤ lo ∨ hi ≤ lo')
    (hf : ∀ j, j < n → 0 ≤ f j ∧ f j ≤ 100000000000) (hF : ∀ x t, x < p → t < n → 0 ≤ F x t ∧ F x t ≤ 100000000) :
    Calls Try.prog 123 #[v, .slice (some ⟨R, 0, none⟩) p p, .func (.func 208) #[] #[.pointer (some ⟨bc, 0, none⟩), .pointer (some ⟨be, 0, none⟩)], .int .i64 s] w fun E w' => E = .returned (.tuple #[]) ∧ Sl true w' lo hi v n (fun j => f j + cntT p n k s F p j) ∧ Frame lo hi w w' := by
  obtain ⟨a, cap, rfl⟩ := hs.shape
  have HF := Lib.hid hf; clear hf
  have HFF := Lib.hid hF; clear hF
  have HS := Lib.hid hs; have HT := Lib.hid ht; have HC := Lib.hid hbc; have HE := Lib.hid hbe; have HU := Lib.hid hsu
  have hss := hs.size
  have HDT := Lib.hid hdT; have HDR := Lib.hid hdR; have HDC := Lib.hid hdc; have HDE := Lib.hid hde; have HDU := Lib.hid hdu
  clear hs ht hbc hbe hsu hdT hdR hdc hde hdu
  go_enter Try.func123, Try.ntmps123
  go_wp2
  go_loopw [14] (fun s14 wr => ∃ x : Nat, x ≤ p ∧ s14 = .int .i64 x ∧ Sl true wr lo hi (.slice a n cap) n (fun j => f j + cntT p n k s F x j) ∧ Frame lo hi w wr) (fun s14 _ => p - (intOf s14).toNat)
  case atStart => exact ⟨0, Nat.zero_le _, rfl, HS.out.congr (fun j hj => by rw [cntT_zero]; omega), Frame.refl _ _ _⟩
  case round =>
    obtain ⟨x, hx, rfl, hown, hfr⟩ := hrel
    have HX := Lib.hid hown; clear hown
    by_cases hlt : x < p
    · have hltI : (x : Int) < (p : Int) := by omega
      have TB := Lib.hid (HT.out.keepF hfr HDT.out HDR.out)
      have hcell := TB.out.head hlt
      have bx := HC.out.keepF hfr HDC.out
      have by_ := HE.out.keepF hfr HDE.out
      have sl := HU.out.keepF hfr HDU.out
      go_wp2_with fail
      refine (value_any p n k (s - (x : Int)) bc be _ (by omega) hp2 (by omega) (by omega) bx by_ sl).mono ?_
      by_cases hx0 : restN p (s - (x : Int)) = 0
      · have HN := Lib.hid (fun j => cntT_no (n := n) (k := k) (R := F) hx0 j)
        rw [hx0]
        clear hx0
        rintro e w3 ⟨rfl, b3⟩
        have HX3 := Lib.hid (HX.out.keep b3 HX.out.size)
        have HF3 := Lib.hid (hfr.trans (Frame.of_below (lo := lo) (hi := hi) b3 (Nat.le_refl _)))
        clear b3 bx by_ sl HX TB hfr hcell
        go_wp2
        go_roundw
        case rel => exact ⟨x + 1, by omega, by go_num, HX3.out.congr (fun j hj => by rw [HN.out]), HF3.out⟩
        case measure => simp [intOf] <;> omega
      · have HN := Lib.hid (fun j => cntT_yes (n := n) (k := k) (R := F) hx0 j)
        have hq := expN_lt (p := p) (k := k) (x := restN p (s - (x : Int))) h1
        have hne : (((restN p (s - (x : Int)) : Nat) : Int) != 0) = true := by rw [bne_iff_ne]; omega
        rw [exV_exp hx0]
        generalize restN p (s - (x : Int)) = y at *
        clear hx0
        generalize expN p n k y = q at *
        rintro e w3 ⟨rfl, b3⟩
        have HX3 := Lib.hid (HX.out.keep b3 HX.out.size)
        have HF3 := Lib.hid (hfr.trans (Frame.of_below (lo := lo) (hi := hi) b3 (Nat.le_refl _)))
        have TB3 := Lib.hid (TB.out.keep b3)
        clear b3 bx by_ sl HX TB hfr hcell
        go_wp2_with fail
        refine (addTurned_any n q h1 h2 hq w3 HX3.out (TB3.out.row h1 hlt) (by have := HDT.out; omega) (fun j hj => by have := HF.out j hj; have := cnt_bd (p := p) (n := n) (k := k) (s := s) hp2 h2 HFF.out (show x ≤ p by omega) j; omega) (fun j hj => by have := HFF.out x j hlt hj; omega)).mono ?_
        rintro e w4 ⟨rfl, s4, f4⟩
        have HX4 := Lib.hid s4
        have HF4 := Lib.hid (HF3.out.trans f4)
        clear s4 f4 HX3 HF3 TB3
        go_wp2
        go_roundw
        case rel => exact ⟨x + 1, by omega, by go_num, HX4.out.congr (fun j hj => by rw [HN.out]; omega), HF4.out⟩
        case measure => simp [intOf] <;> omega
    · obtain rfl : x = p := by omega
      go_wp2
      refine bodyPost_end (results_none rfl _ _ _) rfl ?_
      exact ⟨rfl, HX.out, hfr⟩
end
end

section
open Go.RowKit Go.ChangeShapes Go.Sort
set_option linter.unusedVariables false
set_option linter.unusedSimpArgs false

theorem Try.info24 : (Try.prog.info? 24).map (fun i => (i.zero, i.size, i.bytes)) = some (some (.slice none 0 0), 1, 24) := by kernel_rfl
theorem wpList_pushS {w : World} {ops : Array Oper} {rest : List Oper} {o : Oper} {a : Act} {Q : Exit → Act → World → Prop} (hgd : o.guard = none) (s x : Operand)
    (ho : o.op = .call { callee := .builtin .append, args := #[s, x], argTypes := #[96, 96] })
    (hty : o.type = 96) (base g cap n : Nat) (V : Nat → Value) (hs : a.eval s = .slice (some ⟨g, 0, none⟩) n cap) (hown : RowE w base 24 1 g cap n (fun i => [V i])) (B : Nat) (u : Value) (hu : u.oneCell' = true) (hx : a.eval x = .slice (some ⟨B, 0, none⟩) 1 1)
    (hb : w.heap[B]? = some (.cells #[u] 24 (0, 0))) (hn : n + 1 ≤ 1048576)
    (h : ∀ g' cap' w', RowE w' base 24 1 g' cap' (n + 1) (fun i => if i < n then [V i] else [u]) → w.grownBy w' (some g) → (g' = g ∨ g' = w.heap.size) → g' < w'.heap.size → wpList Try.prog ops Q rest (a.put o.dst (.slice (some ⟨g', 0, none⟩) (n + 1) cap')) w') : wpList Try.prog ops Q (o :: rest) a w := by
  obtain ⟨i0, hi, hz0, hz1, hz2⟩ := info_parts Try.info24
  refine wpList_append_lies w hgd s x 96 ho base 24 i0 (.slice none 0 0) 1 24 Try.underlying96 hi hz0 hz1 hz2 rfl (by decide) _ n _ hs hown ⟨B, 0, none⟩ 1 1 [u] hx rfl (World.news_of_block hb) (by intro v hv; simp only [List.mem_cons, List.not_mem_nil, or_false] at hv; rcases hv with rfl; exact hu) (by decide) (by unfold maxLen; omega) (by omega) (Nat.le_trans hown.lt.1 (Nat.le_of_lt hown.lt.2)) _ rfl ?_
  intro g' cap' w' h1 h2 h3 h4
  refine h g' cap' w' ?_ h2 (h3.imp (fun e => (Option.some.inj e).symm) id) h4
  unfold RowE
  rw [List.range_succ, List.flatMap_append]
  have e1 : (List.range n).flatMap (fun i => if i < n then [V i] else [u]) = (List.range n).flatMap (fun i => [V i]) := by
    rw [List.flatMap_def, List.flatMap_def]
    exact congrArg List.flatten (List.map_congr_left (fun j hj => by rw [if_pos (List.mem_range.1 hj)]))
  rw [e1]
  simpa using h1

/-- The head of a row of n numbers that fills block b. -/
abbrev hd (b n : Nat) : Value := .slice (some ⟨b, 0, none⟩) n n
/-- m rows of n numbers, row i in block b i; their heads in block g; all these blocks lie from base on below top. -/
def Mat (w : World) (base top g cap m n : Nat) (b : Nat → Nat) (F : Nat → Nat → Int) : Prop :=
  top ≤ w.heap.size ∧ base ≤ g ∧ g < top ∧ RowE w base 24 1 g cap m (fun i => [hd (b i) n]) ∧
  (∀ i, i < m → base ≤ b i ∧ b i < top ∧ b i ≠ g ∧ Sl true w (b i) (b i + 1) (hd (b i) n) n (F i)) ∧ ∀ i j, i < m → j < m → i ≠ j → b i ≠ b j
section
variable {w w' : World} {base top g cap m n : Nat} {b : Nat → Nat} {F G : Nat → Nat → Int}
theorem Mat.keepF {lo hi : Nat} (h : Mat w base top g cap m n b F) (hf : Frame lo hi w w') (hd : hi ≤ base ∨ top ≤ lo) : Mat w' base top g cap m n b F := by
  obtain ⟨h1, h2, h3, h4, h5, h6⟩ := h
  refine ⟨Nat.le_trans h1 hf.size, h2, h3, h4.keepF hf (by omega), fun i hi => ?_, h6⟩
  obtain ⟨k1, k2, k3, k4⟩ := h5 i hi
  exact ⟨k1, k2, k3, k4.keepF hf (by omega)⟩
theorem Mat.keep (h : Mat w base top g cap m n b F) (hb : Below w.heap.size w w') : Mat w' base top g cap m n b F :=
  h.keepF (Frame.of_below (lo := top) (hi := 0) hb (Nat.le_refl _)) (.inl (Nat.zero_le _))
theorem Mat.congr (h : Mat w base top g cap m n b F) (e : ∀ i j, i < m → j < n → G i j = F i j) : Mat w base top g cap m n b G := by
  obtain ⟨h1, h2, h3, h4, h5, h6⟩ := h
  refine ⟨h1, h2, h3, h4, fun i hi => ?_, h6⟩
  obtain ⟨k1, k2, k3, k4⟩ := h5 i hi
  exact ⟨k1, k2, k3, k4.congr (fun j hj => e i j hi hj)⟩
theorem Mat.head (h : Mat w base top g cap m n b F) {i : Nat} (hi : i < m) : w.cell? ⟨g, i, none⟩ = some (hd (b i) n) := by
  have := h.2.2.2.1.cell (fun _ => rfl) hi (j := 0) (by omega)
  simpa using this
theorem Mat.row (h : Mat w base top g cap m n b F) {i : Nat} (hi : i < m) : Sl true w (b i) (b i + 1) (hd (b i) n) n (F i) := (h.2.2.2.2.1 i hi).2.2.2
theorem Mat.blk (h : Mat w base top g cap m n b F) {i : Nat} (hi : i < m) : base ≤ b i ∧ b i < top := ⟨(h.2.2.2.2.1 i hi).1, (h.2.2.2.2.1 i hi).2.1⟩
theorem Mat.start (w : World) (m n : Nat) (b : Nat → Nat) (F : Nat → Nat → Int) : Mat (w.alloc (.cells #[] 24)) w.heap.size (w.heap.size + 1) w.heap.size 0 0 n b F :=
  ⟨by simp, Nat.le_refl _, Nat.lt_succ_self _, RowE.made w w.heap.size 24 1 _ (Nat.le_refl _), fun i hi => absurd hi (Nat.not_lt_zero _), fun i j hi => absurd hi (Nat.not_lt_zero _)⟩
/-- A number is laid in a row. -/
theorem Mat.store (h : Mat w base top g cap m n b F) {i j : Nat} (hi : i < m) (hj : j < n) {x : Int} (hx : inR x) : Mat (w.setCell ⟨b i, j, none⟩ (.int .i64 x)) base top g cap m n b (fun y t => if y = i ∧ t = j then x else F y t) := by
  obtain ⟨h1, h2, h3, h4, h5, h6⟩ := h
  have k := h5 i hi
  refine ⟨by simpa using h1, h2, h3, h4.keepF ((Frame.refl (b i) (b i + 1) w).setCell (Nat.le_refl _) (Nat.lt_succ_self _) _) (by omega), fun y hy => ?_, h6⟩
  obtain ⟨q1, q2, q3, q4⟩ := h5 y hy
  refine ⟨q1, q2, q3, ?_⟩
  by_cases e : y = i
  · subst e
    exact (q4.store0 hj hx).congr (fun t ht => by simp)
  · have := h6 y i hy hi e
    exact (q4.setOther (by show b i < _ ∨ _ ≤ b i; omega) _).congr (fun t ht => by simp [e])
/-- A new row, made ahead in the last block, is put at the end. -/
theorem Mat.push {B g' cap' : Nat} {f : Nat → Int} {ob : Obj} (h : Mat w base top g cap m n b F) (hB : top ≤ B) (hBs : B < w.heap.size) (hs : Sl true w B (B + 1) (hd B n) n f)
    (hr : RowE w' base 24 1 g' cap' (m + 1) (fun i => if i < m then [hd (b i) n] else [hd B n])) (hg : (w.alloc ob).grownBy w' (some g)) (ho : g' = g ∨ g' = (w.alloc ob).heap.size) (hl : g' < w'.heap.size) :
    Mat w' base w'.heap.size g' cap' (m + 1) n (fun i => if i < m then b i else B) (fun i => if i < m then F i else f) := by
  obtain ⟨h1, h2, h3, h4, h5, h6⟩ := h
  have hz := hg.size
  simp only [World.size_alloc] at hz ho
  have hF := Frame.ofGrown hg
  refine ⟨Nat.le_refl _, by omega, hl, ?_, fun i hi => ?_, fun i j hi hj hne => ?_⟩
  · exact hr.congr (fun j hj => by
      by_cases e : j < m
      · simp only [if_pos e]
      · simp only [if_neg e])
  · by_cases e : i < m
    · obtain ⟨q1, q2, q3, q4⟩ := h5 i e
      simp only [if_pos e]
      exact ⟨q1, by omega, by omega, (q4.alloc ob).keepF hF (by omega)⟩
    · simp only [if_neg e]
      exact ⟨by omega, by omega, by omega, (hs.alloc ob).keepF hF (by omega)⟩
  · by_cases e : i < m
    · have q := (h5 i e).2.1
      by_cases e2 : j < m
      · simp only [if_pos e, if_pos e2]; exact h6 i j e e2 hne
      · simp only [if_pos e, if_neg e2]; omega
    · by_cases e2 : j < m
      · have q := (h5 j e2).2.1
        simp only [if_neg e, if_pos e2]; omega
      · omega
end
end

section
open Go.RowKit Go.ChangeShapes Go.Sort
set_option linter.unusedVariables false
set_option linter.unusedSimpArgs false

/-- The model's next rows under way: numbers below y all, number y with rows below x, and row x up to q. -/
def stT (p n k : Nat) (R : Nat → Nat → Int) (y x s0 q s j : Nat) : Int := nextT p n k R y s j + nextX p n k y R x s j + (if s = s0 then turnT n (expN p n k y) (R x) q j else 0)
theorem stT_next {p n k : Nat} {R : Nat → Nat → Int} {y x s0 q r : Nat} (hr : (q + expN p n k y) % n = r) (s j : Nat) : stT p n k R y x s0 (q + 1) s j = if s = s0 ∧ j = r then stT p n k R y x s0 q s0 r + R x q else stT p n k R y x s0 q s j := by
  unfold stT
  rw [turnT_succ, hr]
  by_cases h1 : s = s0
  · subst h1
    by_cases h2 : j = r
    · subst h2; simp only [and_self, if_true]; omega
    · simp only [h2, and_false, if_false, if_true, if_neg (show ¬ r = j from fun h => h2 h.symm)]
  · rw [if_neg h1, if_neg (fun h => h1 h.1), if_neg h1]
theorem stT_zero {p n k : Nat} {R : Nat → Nat → Int} {y x s0 s j : Nat} : stT p n k R y x s0 0 s j = nextT p n k R y s j + nextX p n k y R x s j := by
  unfold stT; rw [turnT_zero]; split <;> omega
theorem stT_end {p n k : Nat} {R : Nat → Nat → Int} {y x s0 s j : Nat} (h : (x + y) % p = s0) : stT p n k R y x s0 n s j = nextT p n k R y s j + nextX p n k y R (x + 1) s j := by
  unfold stT
  rw [nextX_succ, h]
  unfold turnZ
  by_cases e : s = s0
  · subst e; simp only [if_true]; omega
  · rw [if_neg e, if_neg (fun h => e h.symm)]; omega
theorem mul3 {a b c : Int} {A B C : Int} (ha : a ≤ A) (hb0 : 0 ≤ b) (hb : b ≤ B) (hA : 0 ≤ A) : a * b ≤ A * B := Int.mul_le_mul ha hb hb0 hA
theorem stT_bd {p n k : Nat} {R : Nat → Nat → Int} {y x s0 q : Nat} (hp : p ≤ 61) (hn : n ≤ 16) (hy : y ≤ p) (hx : x < p) (hq : q ≤ n) (hR : ∀ x t, x < p → t < n → 0 ≤ R x t ∧ R x t ≤ 226981) (s j : Nat) : 0 ≤ stT p n k R y x s0 q s j ∧ stT p n k R y x s0 q s j ≤ 20000000000 := by
  have b1 := nextT_bd (k := k) (B := 226981) (by omega) s j hR y
  have b2 := nextX_bd (p := p) (n := n) (k := k) (y := y) (R := R) (B := 226981) (by omega) s j x (fun a t ha ht => hR a t (by omega) ht)
  have b3 := turnT_bd (n := n) (e := expN p n k y) (r := R x) (B := 226981) (by omega) j q (fun t ht => hR x t hx (by omega))
  have c3 : (q : Int) * 226981 ≤ 16 * 226981 := Int.mul_le_mul_of_nonneg_right (by omega) (by omega)
  have cn : (n : Int) * 226981 ≤ 16 * 226981 := Int.mul_le_mul_of_nonneg_right (by omega) (by omega)
  have cn0 : 0 ≤ (n : Int) * 226981 := by omega
  have c2 : (x : Int) * ((n : Int) * 226981) ≤ 61 * (16 * 226981) := Int.mul_le_mul (by omega) cn cn0 (by omega)
  have cp : (p : Int) * ((n : Int) * 226981) ≤ 61 * (16 * 226981) := Int.mul_le_mul (by omega) cn cn0 (by omega)
  have cp0 : 0 ≤ (p : Int) * ((n : Int) * 226981) := Int.mul_nonneg (by omega) cn0
  have c1 : (y : Int) * ((p : Int) * ((n : Int) * 226981)) ≤ 61 * (61 * (16 * 226981)) := Int.mul_le_mul (by omega) cp cp0 (by omega)
  unfold stT
  split <;> omega
theorem massB_le {p : Nat} (hp : p ≤ 61) : ∀ i, i ≤ 3 → massB p i ≤ 226981 := fun i hi => by
  have h1 : massB p 1 ≤ 61 := by simp only [massB]; omega
  have h10 : 0 ≤ massB p 1 := by simp only [massB]; omega
  have h2 : massB p 2 ≤ 61 * 61 := Int.mul_le_mul (by omega) h1 h10 (by omega)
  have h20 : 0 ≤ massB p 2 := Int.mul_nonneg (by omega) h10
  have h3 : massB p 3 ≤ 61 * (61 * 61) := Int.mul_le_mul (by omega) h2 h20 (by omega)
  rcases (show i = 0 ∨ i = 1 ∨ i = 2 ∨ i = 3 by omega) with rfl | rfl | rfl | rfl
  · simp only [massB]; omega
  · omega
  · omega
  · omega
theorem exM_exp {p n k y : Nat} (h1 : 1 ≤ y) (h2 : y < p) : exM p n k (y : Int) = ((expN p n k y : Nat) : Int) := by
  unfold exM
  rw [restN_nat h2, if_neg (by omega)]

section
variable {o : Bool} {lo hi : Nat} {a : Option Addr} {f : Nat → Int}
set_option maxRecDepth 100000 in
set_option maxHeartbeats 8000000 in
theorem l04Sum_any (p n m t cap : Nat) (K : Nat → Nat) (hp : primeN p = true) (h1 : 1 ≤ n) (h2 : n ≤ 16) (hm1 : 1 ≤ m) (hm2 : m ≤ 4) (hK : ∀ i, i < m → K i ≤ 16) (ht : t < p) (w : World)
    (hs : Sl o w lo hi (.slice a (3 * m) (3 * m)) (3 * m) f) (hf : ∀ i, i < m → f (3 * i) = p ∧ f (3 * i + 1) = n ∧ f (3 * i + 2) = K i) :
    Calls Try.prog 128 #[.slice a m cap, .int .i64 (t : Int)] w fun e w' => ∃ a' cap', e = .returned (.agg #[.int .i64 (n : Int), .slice a' (phiN n) cap']) ∧ Sl true w' w.heap.size w'.heap.size (.slice a' (phiN n) cap') (phiN n) (redP n (pad n (rowsL p n K m t))) ∧ Below w.heap.size w w' := by
  have hb := primeN_bd hp
  have HP := Lib.hid hp; clear hp
  obtain ⟨g0, off0, c0, hv, _, hg0, _, _, hc, _⟩ := hs.at (by omega)
  obtain ⟨rfl, _⟩ : a = some ⟨g0, off0, none⟩ ∧ 3 * m = c0 := by cases hv; exact ⟨rfl, rfl⟩
  clear hv
  have hss := hs.size
  have hg0s : g0 < w.heap.size := Nat.lt_of_lt_of_le hg0 hss
  have HC := Lib.hid hc
  have HF := Lib.hid hf
  have HK := Lib.hid hK
  clear hc hf hK hg0
  have hmI : (0 : Int) < (m : Int) := by omega
  have st0 := ((((St.start w).addSl ⟨o, lo, hi, .slice (some ⟨g0, off0, none⟩) (3 * m) (3 * m), 3 * m, f⟩ hs).alloc (.cells #[.int .i64 0, .slice none 0 0] 26)).addBox w.heap.size [.int .i64 0, .slice none 0 0] (Box.made _ _ _ _ (fun j v h => by simpa using h)))
  have m0 := Mat.start (w.alloc (.cells #[.int .i64 0, .slice none 0 0] 26)).drew 0 n (fun _ => 0) (fun _ _ => 0)
  simp only [World.size_alloc, World.size_drew] at m0
  have HST := Lib.hid (st0.drew.alloc (.cells #[] 24)); have HM := Lib.hid m0
  have hu := (st0.sl 0 ⟨o, lo, hi, .slice (some ⟨g0, off0, none⟩) (3 * m) (3 * m), 3 * m, f⟩ rfl).known (by omega)
  have u0 := hu.2.2.2.1 0 (by omega)
  have u1 := hu.2.2.2.1 1 (by omega)
  have e0 := (HF.out 0 (by omega)).1
  have e1 := (HF.out 0 (by omega)).2.1
  simp only [Nat.mul_zero, Nat.zero_add] at e0 e1
  dsimp only at u0 u1
  rw [e0, Nat.add_zero] at u0
  rw [e1] at u1
  clear e0 e1
  clear hs st0 m0 hu
  have hmk := run_make_row' (P := Try.prog) 24 2 (.int .i64 0) 8 Try.underlying24 Try.info2 rfl .i64 .i64 n (by omega) (by omega)
  have HMK := Lib.hid hmk
  go_enter Try.func128, Try.ntmps128
  go_wp2
  go_region
  go_wp2
  go_loopw [7, 8] (fun s7 s8 wr => ∃ (x g cap top : Nat) (b : Nat → Nat), x ≤ p ∧ s7 = .slice (some ⟨g, 0, none⟩) x cap ∧ s8 = .int .i64 x ∧ Mat wr (w.heap.size + 1) top g cap x n b (fun _ _ => 0) ∧ St w wr [(w.heap.size, [.int .i64 0, .slice none 0 0])] [⟨o, lo, hi, .slice (some ⟨g0, off0, none⟩) (3 * m) (3 * m), 3 * m, f⟩]) (fun _ s8 _ => p - (intOf s8).toNat)
  case atStart => exact ⟨0, _, _, _, _, by omega, rfl, rfl, HM.out, HST.out⟩
  case round =>
    clear HM HST u0 u1
    obtain ⟨x, g, cap1, top, b, hx, rfl, rfl, hmat, hst⟩ := hrel
    have HM := Lib.hid hmat; have HST := Lib.hid hst; clear hmat hst
    by_cases hlt : x < p
    · go_wp2_with (
          (at_builtin; refine wpList_pushS rfl (.tmp 32) (.tmp 35) rfl rfl (w.heap.size + 1) g cap1 x (fun i => hd (b i) n) rfl (((HM.out.2.2.2.1).alloc _).alloc _) (wr.heap.size + 1) (hd wr.heap.size n) rfl rfl (by simpa using heap_alloc_new (wr.alloc (.cells (madeCells #[.int .i64 0] n) 2)) (.cells #[hd wr.heap.size n] 24)) (by omega) ?_; intro gA kA wA rowA grA orA ltA
           have q0 := Sl.made wr (madeCells #[.int .i64 0] n) 2 n n (fun _ => 0) (Nat.le_refl _) (by unfold maxLen; omega) (fun j hj => by simp [inR]) (fun j hj => by simp [madeCells_at _ _ _ hj])
           have mA := Mat.push (HM.out.keep ((Below.refl _ _).alloc (Nat.le_refl _) (.cells (madeCells #[.int .i64 0] n) 2))) HM.out.1 (by simp) q0 rowA grA orA ltA
           have stA := ((HST.out.alloc (.cells (madeCells #[.int .i64 0] n) 2)).alloc (.cells #[hd wr.heap.size n] 24)).write (Frame.ofGrown grA) (by have := HM.out.2.1; omega) (by intro b hb; simp only [List.mem_cons, List.not_mem_nil, or_false] at hb; rcases hb with rfl <;> dsimp only <;> have := HM.out.2.1 <;> omega) (by intro s hs'; simp only [List.mem_cons, List.not_mem_nil, or_false] at hs'; rcases hs' with rfl <;> dsimp only <;> have := HM.out.2.1 <;> omega)
           skip
           have MA := Lib.hid mA; have STA := Lib.hid stA
           clear mA stA q0 rowA HM HST))
      go_roundw
      case rel => exact ⟨x + 1, gA, kA, _, _, by omega, rfl, by go_num, MA.out.congr (fun i j hi hj => by split <;> rfl), STA.out⟩
      case measure => simp [intOf]; omega
    · obtain rfl : x = p := by omega
      have c0 := HM.out.head (i := 0) (by omega)
      obtain ⟨_, _, _, hcr, hfz⟩ := (HM.out.row (i := 0) (by omega)).known (by omega)
      have cr := hcr 0 (by omega)
      have fz := hfz rfl 0
      have hpI : (0 : Int) < (x : Int) := by omega
      have hnI : (0 : Int) < (n : Int) := by omega
      obtain ⟨hb1, hb2⟩ := HM.out.blk (i := 0) (by omega)
      have MS := Lib.hid (HM.out.store (i := 0) (j := 0) (by omega) (by omega) (x := 1) (by unfold inR; omega))
      have STS := Lib.hid (HST.out.write (lo := b 0) (hi := b 0 + 1) ((Frame.refl (b 0) (b 0 + 1) wr).setCell (p := ⟨b 0, 0, none⟩) (Nat.le_refl _) (Nat.lt_succ_self _) (.int .i64 1)) (by omega) (by intro b hb; simp only [List.mem_cons, List.not_mem_nil, or_false] at hb; rcases hb with rfl <;> dsimp only <;> omega) (by intro s hs'; simp only [List.mem_cons, List.not_mem_nil, or_false] at hs'; rcases hs' with rfl <;> dsimp only <;> omega))
      have hcl := HM.out.2.1
      clear hcr hfz HM HST
      go_wp2
      go_loopw [7, 10] (fun s7 s10 wr => ∃ (i g cap top base : Nat) (b : Nat → Nat), i ≤ m ∧ s7 = .slice (some ⟨g, 0, none⟩) x cap ∧ s10 = .int .i64 i ∧ w.heap.size + 1 ≤ base ∧ Mat wr base top g cap x n b (rowsL x n K i) ∧ St w wr [(w.heap.size, [.int .i64 0, .slice none 0 0])] [⟨o, lo, hi, .slice (some ⟨g0, off0, none⟩) (3 * m) (3 * m), 3 * m, f⟩]) (fun _ s10 _ => m - (intOf s10).toNat)
      case atStart => exact ⟨0, _, _, _, _, _, by omega, rfl, rfl, Nat.le_refl _, MS.out.congr (fun y u hy hu => rfl), STS.out⟩
      case round =>
        clear MS STS c0 cr fz hb1 hb2 hcl
        obtain ⟨i, g, cap1, top, base, b, hi', rfl, rfl, hbase, hmat, hst⟩ := hrel
        by_cases hltm : i < m
        · have hltI : (i : Int) < (m : Int) := by omega
          have HBD := Lib.hid (fun y u (hy : y < x) (hu : u < n) => (show 0 ≤ rowsL x n K i y u ∧ rowsL x n K i y u ≤ 226981 from by
            have h := (rowsL_mass h1 K i).bd y u hy hu
            have h' := massB_le hb.2 i (by omega)
            omega))
          have HNX := Lib.hid (fun s j (hs : s < x) => (next_len (n := n) (k := K i) hs (rowsL x n K i) j).trans (show lenZ x n (K i) (rowsL x n K i) s j = rowsL x n K (i + 1) s j from rfl))
          generalize rowsL x n K i = R at *
          have hKi := HK.out i hltm
          obtain ⟨B2, hB2⟩ : ∃ B2, wr.heap.size = B2 := ⟨_, rfl⟩
          have HM := Lib.hid (hmat.keep ((Below.refl _ _).alloc (Nat.le_refl _) (.cells #[] 24)))
          have htop : top ≤ B2 := by rw [← hB2]; exact hmat.1
          have HST := Lib.hid (hst.alloc (.cells #[] 24))
          have hn2 := Mat.start wr 0 n (fun _ => 0) (fun _ _ => 0)
          have hzw : w.heap.size ≤ B2 := by rw [← hB2]; exact hst.1.size
          have hgb : base ≤ g ∧ g < top := ⟨hmat.2.1, hmat.2.2.1⟩
          rw [hB2] at hn2
          have HN := Lib.hid hn2
          have HB2 := Lib.hid hB2
          clear hmat hst hn2 hB2
          go_wp2
          go_loopw [11, 12] (fun s11 s12 wq => ∃ (y g2 cap2 top2 : Nat) (b2 : Nat → Nat), y ≤ x ∧ s11 = .slice (some ⟨g2, 0, none⟩) y cap2 ∧ s12 = .int .i64 y ∧ Mat wq B2 top2 g2 cap2 y n b2 (fun _ _ => 0) ∧ Mat wq base top g cap1 x n b R ∧ St w wq [(w.heap.size, [.int .i64 0, .slice none 0 0])] [⟨o, lo, hi, .slice (some ⟨g0, off0, none⟩) (3 * m) (3 * m), 3 * m, f⟩]) (fun _ s12 _ => x - (intOf s12).toNat)
          case atStart => exact ⟨0, _, _, _, _, by omega, by rw [HB2.out], rfl, HN.out, HM.out, HST.out⟩
          case round =>
            clear HM HST HN HB2
            obtain ⟨y, g2, cap2, top2, b2, hy, rfl, rfl, hmat2, hmat, hst⟩ := hrel
            have HM2 := Lib.hid hmat2; have HM := Lib.hid hmat; have HST := Lib.hid hst; clear hmat2 hmat hst
            have hg2 := HM2.out.2.1
            by_cases hlty : y < x
            · go_wp2_with (
                (at_builtin; refine wpList_pushS rfl (.tmp 54) (.tmp 57) rfl rfl B2 g2 cap2 y (fun i => hd (b2 i) n) rfl (((HM2.out.2.2.2.1).alloc _).alloc _) (wr.heap.size + 1) (hd wr.heap.size n) rfl rfl (by simpa using heap_alloc_new (wr.alloc (.cells (madeCells #[.int .i64 0] n) 2)) (.cells #[hd wr.heap.size n] 24)) (by omega) ?_; intro gA kA wA rowA grA orA ltA
                 have q0 := Sl.made wr (madeCells #[.int .i64 0] n) 2 n n (fun _ => 0) (Nat.le_refl _) (by unfold maxLen; omega) (fun j hj => by simp [inR]) (fun j hj => by simp [madeCells_at _ _ _ hj])
                 have mA := Mat.push (HM2.out.keep ((Below.refl _ _).alloc (Nat.le_refl _) (.cells (madeCells #[.int .i64 0] n) 2))) HM2.out.1 (by simp) q0 rowA grA orA ltA
                 have stA := ((HST.out.alloc (.cells (madeCells #[.int .i64 0] n) 2)).alloc (.cells #[hd wr.heap.size n] 24)).write (Frame.ofGrown grA) (by omega) (by intro b hb; simp only [List.mem_cons, List.not_mem_nil, or_false] at hb; rcases hb with rfl <;> dsimp only <;> omega) (by intro s hs'; simp only [List.mem_cons, List.not_mem_nil, or_false] at hs'; rcases hs' with rfl <;> dsimp only <;> omega)
                 have mB := ((HM.out.keep ((Below.refl _ _).alloc (Nat.le_refl _) (.cells (madeCells #[.int .i64 0] n) 2))).keep ((Below.refl _ _).alloc (Nat.le_refl _) (.cells #[hd wr.heap.size n] 24))).keepF (Frame.ofGrown grA) (by omega)
                 have MA := Lib.hid mA; have STA := Lib.hid stA; have MB := Lib.hid mB
                 clear mA stA mB q0 rowA HM HM2 HST))
              go_roundw
              case rel => exact ⟨y + 1, gA, kA, _, _, by omega, rfl, by go_num, MA.out.congr (fun i j hi hj => by split <;> rfl), MB.out, STA.out⟩
              case measure => simp [intOf]; omega
            · obtain rfl : y = x := by omega
              have HM3 := Lib.hid (HM2.out.congr (G := fun s j => nextT y n (K i) R 1 s j) (fun s j _ _ => nextT_one y n (K i) R s j))
              have htop2 := HM2.out.2.2.1
              clear HM2
              go_wp2
              go_loopw [13] (fun s13 wy => ∃ z : Nat, 1 ≤ z ∧ z ≤ y ∧ s13 = .int .i64 z ∧ Mat wy B2 top2 g2 cap2 y n b2 (fun s j => nextT y n (K i) R z s j) ∧ Mat wy base top g cap1 y n b R ∧ St w wy [(w.heap.size, [.int .i64 0, .slice none 0 0])] [⟨o, lo, hi, .slice (some ⟨g0, off0, none⟩) (3 * m) (3 * m), 3 * m, f⟩]) (fun s13 _ => y - (intOf s13).toNat)
              case atStart => exact ⟨1, by omega, by omega, rfl, HM3.out, HM.out, HST.out⟩
              case round =>
                clear HM3 HM HST
                obtain ⟨z, hz1, hz2, rfl, hmat2, hmat, hst⟩ := hrel
                have HM2 := Lib.hid hmat2; have HM := Lib.hid hmat; clear hmat2 hmat
                by_cases hltz : z < y
                · have hu := (hst.sl 0 ⟨o, lo, hi, .slice (some ⟨g0, off0, none⟩) (3 * m) (3 * m), 3 * m, f⟩ rfl).known (by omega)
                  have u0 := hu.2.2.2.1 (i * 3) (by omega)
                  have u1 := hu.2.2.2.1 (i * 3 + 1) (by omega)
                  have u2 := hu.2.2.2.1 (i * 3 + 2) (by omega)
                  obtain ⟨e0, e1, e2⟩ := HF.out i hltm
                  rw [Nat.mul_comm] at e0 e1 e2
                  dsimp only at u0 u1 u2
                  rw [e0] at u0; rw [e1, ← Nat.add_assoc] at u1; rw [e2, ← Nat.add_assoc] at u2
                  have HST := Lib.hid hst
                  clear hu hst e0 e1 e2
                  go_wp2_with fail
                  refine (l03Exponent_any y n (K i) (z : Int) HP.out h1 h2 hKi (by omega) (by omega) _).mono ?_
                  rw [exM_exp hz1 hltz]
                  have he := expN_lt (p := y) (k := K i) (x := z) h1
                  have HXS := Lib.hid (fun q r (hr : (q + expN y n (K i) z) % n = r) x s0 s j => stT_next (R := R) (y := z) (x := x) (s0 := s0) hr s j)
                  generalize hee : expN y n (K i) z = ex at he HXS
                  clear hee
                  rintro e w5 ⟨rfl, b5⟩
                  have HM2a := Lib.hid (HM2.out.keep b5)
                  have HMa := Lib.hid (HM.out.keep b5)
                  have HSTa := Lib.hid (HST.out.keep b5)
                  clear b5 HM2 HM HST u0 u1 u2
                  go_wp2
                  go_loopw [15] (fun s15 wx => ∃ x : Nat, x ≤ y ∧ s15 = .int .i64 x ∧ Mat wx B2 top2 g2 cap2 y n b2 (fun s j => nextT y n (K i) R z s j + nextX y n (K i) z R x s j) ∧ Mat wx base top g cap1 y n b R ∧ St w wx [(w.heap.size, [.int .i64 0, .slice none 0 0])] [⟨o, lo, hi, .slice (some ⟨g0, off0, none⟩) (3 * m) (3 * m), 3 * m, f⟩]) (fun s15 _ => y - (intOf s15).toNat)
                  case atStart => exact ⟨0, by omega, rfl, HM2a.out.congr (fun s j _ _ => by rw [nextX_zero]; omega), HMa.out, HSTa.out⟩
                  case round =>
                    clear HM2a HMa HSTa
                    obtain ⟨x, hx', rfl, hmat2, hmat, hst⟩ := hrel
                    have HM2 := Lib.hid hmat2; have HM := Lib.hid hmat; have HST := Lib.hid hst; clear hmat2 hmat hst
                    by_cases hltx : x < y
                    · obtain ⟨s0, hs0⟩ : ∃ s0, (x + z) % y = s0 := ⟨_, rfl⟩
                      have hs0y : s0 < y := by rw [← hs0]; exact Nat.mod_lt _ (by omega)
                      have htm : ((x : Int) + (z : Int)).tmod (y : Int) = (s0 : Int) := by rw [Int.tmod_eq_emod_of_nonneg (by omega), ← hs0, Int.natCast_emod, Int.natCast_add]
                      have hem : ((x : Int) + (z : Int)) % (y : Int) = (s0 : Int) := by rw [← hs0, Int.natCast_emod, Int.natCast_add]
                      have HS0 := Lib.hid hs0; clear hs0
                      have hy0 : ¬ y = 0 := by omega
                      have hs0I : (s0 : Int) < (y : Int) := by omega
                      have c0 := HM2.out.head hs0y
                      have HST0 := Lib.hid (HM2.out.congr (G := fun s j => stT y n (K i) R z x s0 0 s j) (fun s j _ _ => stT_zero))
                      clear HM2
                      go_wp2
                      go_loopw [17] (fun s17 wj => ∃ q : Nat, q ≤ n ∧ s17 = .int .i64 q ∧ Mat wj B2 top2 g2 cap2 y n b2 (fun s j => stT y n (K i) R z x s0 q s j) ∧ Mat wj base top g cap1 y n b R ∧ St w wj [(w.heap.size, [.int .i64 0, .slice none 0 0])] [⟨o, lo, hi, .slice (some ⟨g0, off0, none⟩) (3 * m) (3 * m), 3 * m, f⟩]) (fun s17 _ => n - (intOf s17).toNat)
                      case atStart => exact ⟨0, by omega, rfl, HST0.out, HM.out, HST.out⟩
                      case round =>
                        clear HST0 HM HST c0
                        obtain ⟨q, hq, rfl, hmat2, hmat, hst⟩ := hrel
                        have HM2 := Lib.hid hmat2; have HM := Lib.hid hmat; have HST := Lib.hid hst; clear hmat2 hmat hst
                        by_cases hltq : q < n
                        · obtain ⟨r, hr⟩ : ∃ r, (q + ex) % n = r := ⟨_, rfl⟩
                          have hrn : r < n := by rw [← hr]; exact Nat.mod_lt _ (by omega)
                          have htm2 : ((q : Int) + (ex : Int)).tmod (n : Int) = (r : Int) := by rw [Int.tmod_eq_emod_of_nonneg (by omega), ← hr, Int.natCast_emod, Int.natCast_add]
                          have hem2 : ((q : Int) + (ex : Int)) % (n : Int) = (r : Int) := by rw [← hr, Int.natCast_emod, Int.natCast_add]
                          have HNXT := Lib.hid (fun s j => HXS.out q r hr x s0 s j)
                          clear hr
                          have hn0 : ¬ n = 0 := by omega
                          have hrI : (r : Int) < (n : Int) := by omega
                          have hqI : (q : Int) < (n : Int) := by omega
                          have hxI : (x : Int) < (y : Int) := by omega
                          obtain ⟨_, _, _, hcr, hfz⟩ := (HM2.out.row hs0y).known (by omega)
                          have cr := hcr r hrn
                          have fz := hfz rfl r
                          have cx := HM.out.head hltx
                          obtain ⟨_, _, _, hcq, _⟩ := (HM.out.row hltx).known (by omega)
                          have cq := hcq q hltq
                          rw [Nat.zero_add] at cr cq
                          have hv1 := stT_bd (k := K i) (R := R) (y := z) (x := x) (s0 := s0) (q := q) hb.2 h2 hz2 hltx hq HBD.out s0 r
                          have hv2 := HBD.out x q hltx hltq
                          obtain ⟨k1, k2⟩ := HM2.out.blk hs0y
                          have HMS := Lib.hid (HM2.out.store hs0y hrn (x := stT y n (K i) R z x s0 q s0 r + R x q) (by unfold inR; omega))
                          have FR := Lib.hid ((Frame.refl (b2 s0) (b2 s0 + 1) wr).setCell (p := ⟨b2 s0, r, none⟩) (Nat.le_refl _) (Nat.lt_succ_self _) (.int .i64 (stT y n (K i) R z x s0 q s0 r + R x q)))
                          clear hcr hfz hcq HM2
                          generalize stT y n (K i) R z x s0 q s0 r = V at *
                          generalize R x q = U at *
                          go_wp2
                          go_region
                          all_goals
                            go_wp2
                            go_roundw
                            case rel => exact ⟨q + 1, by omega, by go_num, (HMS.out.keep (Below.refl _ _).drew).congr (fun s j _ _ => HNXT.out s j), (HM.out.keepF FR.out (.inr (by omega))).keep (Below.refl _ _).drew, (HST.out.write FR.out (by omega) (by intro b hb; simp only [List.mem_cons, List.not_mem_nil, or_false] at hb; rcases hb with rfl <;> dsimp only <;> omega) (by intro s hs'; simp only [List.mem_cons, List.not_mem_nil, or_false] at hs'; rcases hs' with rfl <;> dsimp only <;> omega)).drew⟩
                            case measure => simp [intOf]; omega
                        · obtain rfl : n = q := by omega
                          go_wp2
                          go_roundw
                          case rel => exact ⟨x + 1, by omega, by go_num, HM2.out.congr (fun s j _ _ => (stT_end HS0.out).symm), HM.out, HST.out⟩
                          case measure => simp [intOf]; omega
                    · obtain rfl : y = x := by omega
                      go_wp2
                      go_roundw
                      case rel => exact ⟨z + 1, by omega, by omega, by go_num, HM2.out.congr (fun s j _ _ => nextT_succ (by omega) R s j), HM.out, HST.out⟩
                      case measure => simp [intOf]; omega
                · obtain rfl : y = z := by omega
                  have HST := Lib.hid hst; clear hst
                  go_wp2
                  go_roundw
                  case rel => exact ⟨i + 1, g2, cap2, top2, B2, b2, by omega, rfl, by go_num, by omega, HM2.out.congr (fun s j hs _ => (HNX.out s j hs).symm), HST.out⟩
                  case measure => simp [intOf]; omega
        · obtain rfl : m = i := by omega
          have HM := Lib.hid hmat; clear hmat
          have c0 := HM.out.head ht
          have htI : (t : Int) < (x : Int) := by omega
          have HST := Lib.hid hst; clear hst
          go_wp2_with fail
          refine (l01Reduce_any n h1 (by omega) _ (HM.out.row ht) (by omega)).mono ?_
          rintro e w9 ⟨a9, k9, rfl, s9, b9⟩
          have st9 := HST.out.keep b9
          have hz9 := b9.size
          have hz8 := HST.out.1.size
          obtain ⟨d0, d1⟩ := (st9.box 0 (w.heap.size, [.int .i64 0, .slice none 0 0]) rfl).cell2
          have dz := (st9.box 0 (w.heap.size, [.int .i64 0, .slice none 0 0]) rfl).2.2
          dsimp only at dz
          have hbx := (HST.out.box 0 (w.heap.size, [.int .i64 0, .slice none 0 0]) rfl).1
          dsimp only at hbx
          have BB := st9.1
          have S9 := Lib.hid s9
          clear s9 b9 st9 HM HST c0
          go_wp2
          refine bodyPost_ret (v := .agg #[.int .i64 (n : Int), .slice a9 (phiN n) k9]) (by simp [results, Try.results128, go_sem, d0, d1]) rfl ?_
          exact ⟨_, _, rfl, (((S9.out.setOther (.inl (by show w.heap.size < _; omega)) _).setOther (.inl (by show w.heap.size < _; omega)) _).wide (by omega) (by simp) (Nat.le_refl _)), by go_grown⟩
end
end

section
open Go.RowKit Go.ChangeShapes Go.Sort
set_option linter.unusedVariables false
set_option linter.unusedSimpArgs false

/-- Two Powers. -/
def two (k l : Nat) : Nat → Nat := fun i => if i = 0 then k else l
/-- The rows of a Jacobi sum's numbers, unreduced, and its Parts. -/
def jacR (p n k l : Nat) : Nat → Int := pad n (rowsL p n (two k l) 2 1)
def jacP (p n k l : Nat) : Nat → Int := redP n (jacR p n k l)
theorem pad_congr {n : Nat} {f g : Nat → Int} (h : ∀ j, j < n → f j = g j) : pad n f = pad n g := funext fun j => by
  unfold pad
  split
  · exact h j (by assumption)
  · rfl
theorem jac_rows {p n k l : Nat} (hp : 3 ≤ p) (h1 : 1 ≤ n) (j : Nat) : cntT p n l 1 (rowOne p n k) p j = rowsL p n (two k l) 2 1 j := by
  show _ = cntT p n (two k l 1) ((1 : Nat) : Int) (lenZ p n (two k l 0) rowNone) p j
  exact cntT_congr (fun x t hx ht => (len_none h1 hx t).symm) j
theorem jac_bd {p n k l : Nat} (hp : p ≤ 61) (hp3 : 3 ≤ p) (h1 : 1 ≤ n) {j : Nat} (hj : j < n) : 0 ≤ rowsL p n (two k l) 2 1 j ∧ rowsL p n (two k l) 2 1 j ≤ 3721 := by
  have h := (rowsL_mass (p := p) h1 (two k l) 2).bd 1 j (by omega) hj
  have h1' : massB p 1 ≤ 61 := by simp only [massB]; omega
  have h10 : 0 ≤ massB p 1 := by simp only [massB]; omega
  have h2 : massB p 2 ≤ 61 * 61 := Int.mul_le_mul (by omega) h1' h10 (by omega)
  omega
/-- Reduced rows of small numbers are small. -/
theorem red_small {n : Nat} {f : Nat → Int} {B : Int} (hn : n < 17) (h1 : 1 ≤ n) (hB : 0 ≤ B) (hB' : B ≤ 20000000) (h : ∀ j, j < n → -B ≤ f j ∧ f j ≤ B) {j : Nat} (hj : j < phiN n) : -(48 * B) ≤ redP n (pad n f) j ∧ redP n (pad n f) j ≤ 48 * B := by
  have hp := phi_le12 n (by omega) h1
  have hP : ∀ k, k < 24 → -B ≤ pad n f k ∧ pad n f k ≤ B := fun k _ => by
    unfold pad
    split
    · exact h k (by assumption)
    · omega
  have hz := redZ_within hn h1 hP hj
  rw [redP_exact hn h1 (P' := pad n f) (fun k hk => (wrap_inR (by have := hP k hk; unfold inR; omega)).symm) (by omega) (by unfold inR; omega)]
  exact hz
theorem jacP_bd {p n k l : Nat} (hp : p ≤ 61) (hp3 : 3 ≤ p) (hn : n < 17) (h1 : 1 ≤ n) {j : Nat} (hj : j < phiN n) : -178608 ≤ jacP p n k l j ∧ jacP p n k l j ≤ 178608 := by
  have := red_small (f := rowsL p n (two k l) 2 1) (B := 3721) hn h1 (by omega) (by omega) (fun j hj => by have := jac_bd (k := k) (l := l) hp hp3 h1 hj; omega) hj
  unfold jacP jacR
  omega

set_option maxRecDepth 100000 in
set_option maxHeartbeats 8000000 in
theorem JacobiSum_impl_ok (p n k l : Nat) (hp : primeN p = true) (h1 : 1 ≤ n) (h2 : n ≤ 16) (hd : (p - 1) % n = 0) (hk : k < n) (hl : l < n) (w : World) :
    Calls Try.prog 18 #[.agg #[.int .i64 (p : Int), .int .i64 (n : Int), .int .i64 (k : Int)], .agg #[.int .i64 (p : Int), .int .i64 (n : Int), .int .i64 (l : Int)]] w fun e w' => ∃ a cap, e = .returned (.tuple #[.agg #[.int .i64 (n : Int), .slice a (phiN n) cap], .int .i64 0]) ∧ Sl true w' w.heap.size w'.heap.size (.slice a (phiN n) cap) (phiN n) (jacP p n k l) ∧ Below w.heap.size w w' := by
  have hb := primeN_bd hp
  have HCK := Lib.hid (characterPairCode_ok (p : Int) (n : Int) (k : Int) (l : Int) (ChP.mk hp h1 h2 hd hk) (ChP.mk hp h1 h2 hd hl))
  have HP := Lib.hid hp; clear hp hd
  have hphi := phi_le12 n h2 h1
  have st0 := (((St.start w).boxNew3 (.int .i64 (p : Int)) (.int .i64 (n : Int)) (.int .i64 (k : Int)) 29).boxNew3 (.int .i64 (p : Int)) (.int .i64 (n : Int)) (.int .i64 (l : Int)) 29).boxNew (.int .i64 0) (.slice none 0 0) 26
  simp only [World.size_alloc] at st0
  have hmk := run_make_row' (P := Try.prog) 24 2 (.int .i64 0) 8 Try.underlying24 Try.info2 rfl .i64 .i64 n (by omega) (by omega)
  obtain ⟨f0, f1, f2⟩ := (st0.box 2 (w.heap.size, [.int .i64 (p : Int), .int .i64 (n : Int), .int .i64 (k : Int)]) rfl).cell3
  obtain ⟨e0, e1, e2⟩ := (st0.box 1 (w.heap.size + 1, [.int .i64 (p : Int), .int .i64 (n : Int), .int .i64 (l : Int)]) rfl).cell3
  go_enter Try.func18, Try.ntmps18
  go_wp2_with fail
  refine (HCK.out _).mono ?_
  rintro e w3 ⟨rfl, b3⟩
  have st3 := st0.keep b3
  have hz3 := b3.size
  simp only [World.size_alloc] at hz3
  have q0 := Sl.made w3 (madeCells #[.int .i64 0] n) 2 n n (fun _ => 0) (Nat.le_refl _) (by unfold maxLen; omega) (fun j hj => by simp [inR]) (fun j hj => by simp [madeCells_at _ _ _ hj])
  have st4 := (st3.alloc (.cells (madeCells #[.int .i64 0] n) 2)).addSl ⟨true, w3.heap.size, w3.heap.size + 1, .slice (some ⟨w3.heap.size, 0, none⟩) n n, n, fun _ => 0⟩ q0
  clear st0 b3 q0 f0 f1 f2 e0 e1 e2
  obtain ⟨f0, f1, f2⟩ := (st4.box 2 (w.heap.size, [.int .i64 (p : Int), .int .i64 (n : Int), .int .i64 (k : Int)]) rfl).cell3
  obtain ⟨e0, e1, e2⟩ := (st4.box 1 (w.heap.size + 1, [.int .i64 (p : Int), .int .i64 (n : Int), .int .i64 (l : Int)]) rfl).cell3
  have f1' := (st3.box 2 (w.heap.size, [.int .i64 (p : Int), .int .i64 (n : Int), .int .i64 (k : Int)]) rfl).cell3.2.1
  clear st3
  go_wp2_with fail
  clear hmk f1'
  go_region_held3 (fun w' => w'.cell? ⟨w.heap.size, 0, none⟩ = some (.int .i64 (p : Int)) ∧ w'.cell? ⟨w.heap.size, 1, none⟩ = some (.int .i64 (n : Int)) ∧ w'.cell? ⟨w.heap.size, 2, none⟩ = some (.int .i64 (k : Int)) ∧ w'.cell? ⟨w.heap.size + 1, 0, none⟩ = some (.int .i64 (p : Int)) ∧ w'.cell? ⟨w.heap.size + 1, 1, none⟩ = some (.int .i64 (n : Int)) ∧ w'.cell? ⟨w.heap.size + 1, 2, none⟩ = some (.int .i64 (l : Int)))
    (first
      | exact ⟨f0, f1, f2, e0, e1, e2⟩
      | (have q0 := (st8.box 2 (w.heap.size, [.int .i64 (p : Int), .int .i64 (n : Int), .int .i64 (k : Int)]) rfl).cell3; have q1 := (st8.box 1 (w.heap.size + 1, [.int .i64 (p : Int), .int .i64 (n : Int), .int .i64 (l : Int)]) rfl).cell3; with_reducible exact ⟨q0.1, q0.2.1, q0.2.2, q1.1, q1.2.1, q1.2.2⟩)
      | (have q0 := (st7.box 2 (w.heap.size, [.int .i64 (p : Int), .int .i64 (n : Int), .int .i64 (k : Int)]) rfl).cell3; have q1 := (st7.box 1 (w.heap.size + 1, [.int .i64 (p : Int), .int .i64 (n : Int), .int .i64 (l : Int)]) rfl).cell3; with_reducible exact ⟨q0.1, q0.2.1, q0.2.2, q1.1, q1.2.1, q1.2.2⟩)
      | (have q0 := (st6.box 2 (w.heap.size, [.int .i64 (p : Int), .int .i64 (n : Int), .int .i64 (k : Int)]) rfl).cell3; have q1 := (st6.box 1 (w.heap.size + 1, [.int .i64 (p : Int), .int .i64 (n : Int), .int .i64 (l : Int)]) rfl).cell3; with_reducible exact ⟨q0.1, q0.2.1, q0.2.2, q1.1, q1.2.1, q1.2.2⟩)
      | (have q0 := (st5.box 2 (w.heap.size, [.int .i64 (p : Int), .int .i64 (n : Int), .int .i64 (k : Int)]) rfl).cell3; have q1 := (st5.box 1 (w.heap.size + 1, [.int .i64 (p : Int), .int .i64 (n : Int), .int .i64 (l : Int)]) rfl).cell3; with_reducible exact ⟨q0.1, q0.2.1, q0.2.2, q1.1, q1.2.1, q1.2.2⟩))
    (first
      | (go_at_call 123; have _g := b7; refine (countSum_any (lo := w3.heap.size) (hi := w3.heap.size + 1) (f := fun _ => 0) (F := rowOne p n k) p n l hb.1 hb.2 h1 h2 1 (by omega) (by omega) _ (st7.sl 0 ⟨true, w3.heap.size, w3.heap.size + 1, .slice (some ⟨w3.heap.size, 0, none⟩) n n, n, fun _ => 0⟩ rfl) tab7 bx7 by7 sl7 (by omega) (by omega) (by omega) (by omega) (by omega) (fun j _ => by omega) (fun x t hx ht => by have := (rowOne_mass (p := p) (k := k) h1).bd x t hx ht; omega)).mono ?_; rintro e w8 ⟨rfl, s8, f8⟩
         have st8 := (St.tail st7).write f8 (by omega) (by intro b hb; simp only [List.mem_cons, List.not_mem_nil, or_false] at hb; rcases hb with rfl | rfl | rfl <;> dsimp only <;> omega) (by intro s hs'; cases hs')
         have hz8 := f8.size)
      | (go_at_call 125; have _g := b6; refine (valuesOf_any p n l HP.out h1 h2 (by omega) _).mono ?_; rintro e w7 ⟨rfl, b7, hz7, bx7, by7, sl7⟩
         have st7 := st6.keep b7
         have tab7 := tab6.keep b7)
      | (go_at_call 124; have _g := b5; refine (valueRows_any p n k HP.out h1 h2 _ bx5 by5 sl5).mono ?_; rintro e w6 ⟨T, R, rfl, hT, hR, tab6, b6⟩
         have st6 := st5.keep b6
         have hz6 := b6.size
         have htz := tab6.size)
      | (go_at_call 125; refine (valuesOf_any p n k HP.out h1 h2 (by omega) _).mono ?_; rintro e w5 ⟨rfl, b5, hz5, bx5, by5, sl5⟩
         have st5 := st4.drew.keep b5
         simp only [World.size_drew, World.size_alloc] at hz5 bx5 by5 sl5))
  all_goals
    have S8 := Lib.hid (s8.congr (f' := rowsL p n (two k l) 2 1) (fun j hj => by rw [← jac_rows (k := k) (l := l) hb.1 h1 j]; exact (Int.zero_add _).symm))
    have f1' := (st8.box 2 (w.heap.size, [.int .i64 (p : Int), .int .i64 (n : Int), .int .i64 (k : Int)]) rfl).cell3.2.1
    have HST8 := Lib.hid st8
    clear st8 s8 f8 st7 tab7 bx7 by7 sl7 b7 st6 tab6 b6 st5 bx5 by5 sl5 b5 st4 f0 f1 f2 e0 e1 e2
    go_wp2_with fail
    refine (CycloOf_impl_ok n _ S8.out ⟨by omega, by omega, by omega, fun j hj => by have := jac_bd (k := k) (l := l) hb.2 hb.1 h1 hj; omega⟩ (fun j hj => by have := jacP_bd (p := p) (k := k) (l := l) hb.2 hb.1 (show n < 17 by omega) h1 hj; unfold jacP jacR at this; omega)).mono ?_
    rintro e w9 ⟨a9, k9, rfl, s9, b9⟩
    have st9 := HST8.out.keep b9
    have hz9 := b9.size
    obtain ⟨d0, d1⟩ := (st9.box 0 (w.heap.size + 1 + 1, [.int .i64 0, .slice none 0 0]) rfl).cell2
    have dz := (st9.box 0 (w.heap.size + 1 + 1, [.int .i64 0, .slice none 0 0]) rfl).2.2
    dsimp only at dz
    have BB := st9.1
    have S9 := Lib.hid s9
    clear s9 b9 st9 HST8 f1'
    go_wp2
    refine bodyPost_ret (v := .tuple #[.agg #[.int .i64 (n : Int), .slice a9 (phiN n) k9], .int .i64 0]) (by simp [results, Try.results18, go_sem, d0, d1]) rfl ?_
    exact ⟨_, _, rfl, (((S9.out.setOther (.inl (by show w.heap.size + 1 + 1 < _; omega)) _).setOther (.inl (by show w.heap.size + 1 + 1 < _; omega)) _).wide (by omega) (by simp) (Nat.le_refl _)), by go_grown⟩

set_option maxRecDepth 100000 in
set_option maxHeartbeats 1000000 in
theorem JacobiSum_impl_bad (p n k q m l c : Int) (h : pcC p n k q m l c) (hc : c ≠ 0) (w : World) :
    Calls Try.prog 18 #[.agg #[.int .i64 p, .int .i64 n, .int .i64 k], .agg #[.int .i64 q, .int .i64 m, .int .i64 l]] w fun e w' => e = .returned (failV c) ∧ Below w.heap.size w w' := by
  have H := Lib.hid h; clear h
  have hcb : (c != 0) = true := by rw [bne_iff_ne]; exact hc
  have st0 := St.start w
  replace st0 := (st0.alloc (.cells #[.int .i64 p, .int .i64 n, .int .i64 k] 29)).addBox _ [.int .i64 p, .int .i64 n, .int .i64 k] (Box.made _ _ _ _ (fun j v h => by simpa using h))
  replace st0 := (st0.alloc (.cells #[.int .i64 q, .int .i64 m, .int .i64 l] 29)).addBox _ [.int .i64 q, .int .i64 m, .int .i64 l] (Box.made _ _ _ _ (fun j v h => by simpa using h))
  replace st0 := (st0.alloc (.cells #[.int .i64 0, .slice none 0 0] 26)).addBox _ [.int .i64 0, .slice none 0 0] (Box.made _ _ _ _ (fun j v h => by simpa using h))
  simp only [World.size_alloc] at st0
  go_enter Try.func18, Try.ntmps18
  go_wp2_with fail
  refine (characterPairCode_any p n k q m l c H.out _).mono ?_
  rintro e w1 ⟨rfl, b1⟩
  have st1 := st0.keep b1
  have hz1 := b1.size
  try simp only [World.size_alloc] at hz1
  clear st0 b1
  obtain ⟨d0, d1⟩ := (st1.box 0 (w.heap.size + 1 + 1, [.int .i64 0, .slice none 0 0]) rfl).cell2
  have dz := (st1.box 0 (w.heap.size + 1 + 1, [.int .i64 0, .slice none 0 0]) rfl).2.2
  have BB := st1.1
  dsimp only at dz
  go_wp2
  refine bodyPost_ret (v := failV c) (by simp [results, Try.results18, go_sem, failV, d0, d1]) rfl ?_
  exact ⟨rfl, by go_grown⟩

set_option maxRecDepth 100000 in
set_option maxHeartbeats 1000000 in
theorem JacobiSum_spec_bad (p n k q m l c : Int) (h : pcC p n k q m l c) (hc : c ≠ 0) (w : World) :
    Calls Try.prog 16 #[.agg #[.int .i64 p, .int .i64 n, .int .i64 k], .agg #[.int .i64 q, .int .i64 m, .int .i64 l]] w fun e w' => e = .returned (failV c) ∧ Below w.heap.size w w' := by
  have H := Lib.hid h; clear h
  have hcb : (c != 0) = true := by rw [bne_iff_ne]; exact hc
  have st0 := St.start w
  replace st0 := (st0.alloc (.cells #[.int .i64 p, .int .i64 n, .int .i64 k] 29)).addBox _ [.int .i64 p, .int .i64 n, .int .i64 k] (Box.made _ _ _ _ (fun j v h => by simpa using h))
  replace st0 := (st0.alloc (.cells #[.int .i64 q, .int .i64 m, .int .i64 l] 29)).addBox _ [.int .i64 q, .int .i64 m, .int .i64 l] (Box.made _ _ _ _ (fun j v h => by simpa using h))
  replace st0 := (st0.alloc (.cells #[.int .i64 0, .slice none 0 0] 26)).addBox _ [.int .i64 0, .slice none 0 0] (Box.made _ _ _ _ (fun j v h => by simpa using h))
  simp only [World.size_alloc] at st0
  go_enter Try.func16, Try.ntmps16
  go_wp2_with fail
  refine (l03Like_any p n k q m l c H.out _).mono ?_
  rintro e w1 ⟨rfl, b1⟩
  have st1 := st0.keep b1
  have hz1 := b1.size
  try simp only [World.size_alloc] at hz1
  clear st0 b1
  obtain ⟨d0, d1⟩ := (st1.box 0 (w.heap.size + 1 + 1, [.int .i64 0, .slice none 0 0]) rfl).cell2
  have dz := (st1.box 0 (w.heap.size + 1 + 1, [.int .i64 0, .slice none 0 0]) rfl).2.2
  have BB := st1.1
  dsimp only at dz
  go_wp2
  refine bodyPost_ret (v := failV c) (by simp [results, Try.results16, go_sem, failV, d0, d1]) rfl ?_
  exact ⟨rfl, by go_grown⟩

/-- Two characters, told as numbers. -/
def twoF (p n k l : Nat) : Nat → Int := fun j => if j = 0 ∨ j = 3 then p else if j = 1 ∨ j = 4 then n else if j = 2 then k else l
set_option maxRecDepth 100000 in
set_option maxHeartbeats 2000000 in
theorem l04Jacobi_any (p n k l : Nat) (hp : primeN p = true) (h1 : 1 ≤ n) (h2 : n ≤ 16) (hk : k < n) (hl : l < n) (w : World) :
    Calls Try.prog 121 #[.agg #[.int .i64 (p : Int), .int .i64 (n : Int), .int .i64 (k : Int)], .agg #[.int .i64 (p : Int), .int .i64 (n : Int), .int .i64 (l : Int)]] w fun e w' => ∃ a cap, e = .returned (.agg #[.int .i64 (n : Int), .slice a (phiN n) cap]) ∧ Sl true w' w.heap.size w'.heap.size (.slice a (phiN n) cap) (phiN n) (jacP p n k l) ∧ Below w.heap.size w w' := by
  have hb := primeN_bd hp
  have HP := Lib.hid hp; clear hp
  have st0 := (((St.start w).boxNew3 (.int .i64 (p : Int)) (.int .i64 (n : Int)) (.int .i64 (k : Int)) 29).boxNew3 (.int .i64 (p : Int)) (.int .i64 (n : Int)) (.int .i64 (l : Int)) 29).boxNew (.int .i64 0) (.slice none 0 0) 26
  simp only [World.size_alloc] at st0
  have q0 := Sl.made (((w.alloc (.cells #[.int .i64 (p : Int), .int .i64 (n : Int), .int .i64 (k : Int)] 29)).alloc (.cells #[.int .i64 (p : Int), .int .i64 (n : Int), .int .i64 (l : Int)] 29)).alloc (.cells #[.int .i64 0, .slice none 0 0] 26)) #[.int .i64 (p : Int), .int .i64 (n : Int), .int .i64 (k : Int), .int .i64 (p : Int), .int .i64 (n : Int), .int .i64 (l : Int)] 29 6 6 (twoF p n k l) (Nat.le_refl _) (by decide) (fun j hj => by unfold twoF inR; split <;> (try split) <;> (try split) <;> omega) (fun j hj => by
    rcases (show j = 0 ∨ j = 1 ∨ j = 2 ∨ j = 3 ∨ j = 4 ∨ j = 5 by omega) with rfl | rfl | rfl | rfl | rfl | rfl <;> rfl)
  simp only [World.size_alloc] at q0
  have HQ := Lib.hid q0
  have HST := Lib.hid (st0.alloc (.cells #[.int .i64 (p : Int), .int .i64 (n : Int), .int .i64 (k : Int), .int .i64 (p : Int), .int .i64 (n : Int), .int .i64 (l : Int)] 29))
  clear q0 st0
  go_enter Try.func121, Try.ntmps121
  go_wp2_with fail
  refine (l04Sum_any p n 2 1 2 (two k l) HP.out h1 h2 (by omega) (by omega) (fun i hi => by unfold two; split <;> omega) (by omega) _ HQ.out (fun i hi => by
    rcases (show i = 0 ∨ i = 1 by omega) with rfl | rfl <;> exact ⟨rfl, rfl, rfl⟩)).mono ?_
  rintro e w9 ⟨a9, k9, rfl, s9, b9⟩
  have st9 := HST.out.keep b9
  have hz9 := b9.size
  simp only [World.size_alloc] at hz9 s9
  obtain ⟨d0, d1⟩ := (st9.box 0 (w.heap.size + 1 + 1, [.int .i64 0, .slice none 0 0]) rfl).cell2
  have dz := (st9.box 0 (w.heap.size + 1 + 1, [.int .i64 0, .slice none 0 0]) rfl).2.2
  dsimp only at dz
  have BB := st9.1
  have S9 := Lib.hid s9
  clear s9 b9 st9 HST HQ
  go_wp2
  refine bodyPost_ret (v := .agg #[.int .i64 (n : Int), .slice a9 (phiN n) k9]) (by simp [results, Try.results121, go_sem, d0, d1]) rfl ?_
  exact ⟨_, _, rfl, (((S9.out.setOther (.inl (by show w.heap.size + 1 + 1 < _; omega)) _).setOther (.inl (by show w.heap.size + 1 + 1 < _; omega)) _).wide (by omega) (by simp) (Nat.le_refl _)), by go_grown⟩

set_option maxRecDepth 100000 in
set_option maxHeartbeats 2000000 in
theorem JacobiSum_spec_ok (p n k l : Nat) (hp : primeN p = true) (h1 : 1 ≤ n) (h2 : n ≤ 16) (hd : (p - 1) % n = 0) (hk : k < n) (hl : l < n) (w : World) :
    Calls Try.prog 16 #[.agg #[.int .i64 (p : Int), .int .i64 (n : Int), .int .i64 (k : Int)], .agg #[.int .i64 (p : Int), .int .i64 (n : Int), .int .i64 (l : Int)]] w fun e w' => ∃ a cap, e = .returned (.tuple #[.agg #[.int .i64 (n : Int), .slice a (phiN n) cap], .int .i64 0]) ∧ Sl true w' w.heap.size w'.heap.size (.slice a (phiN n) cap) (phiN n) (jacP p n k l) ∧ Below w.heap.size w w' := by
  have HCK := Lib.hid (l03Like_ok (p : Int) (n : Int) (k : Int) (l : Int) (ChP.mk hp h1 h2 hd hk) (ChP.mk hp h1 h2 hd hl))
  have HP := Lib.hid hp; clear hp hd
  have st0 := (((St.start w).boxNew3 (.int .i64 (p : Int)) (.int .i64 (n : Int)) (.int .i64 (k : Int)) 29).boxNew3 (.int .i64 (p : Int)) (.int .i64 (n : Int)) (.int .i64 (l : Int)) 29).boxNew (.int .i64 0) (.slice none 0 0) 26
  simp only [World.size_alloc] at st0
  obtain ⟨f0, f1, f2⟩ := (st0.box 2 (w.heap.size, [.int .i64 (p : Int), .int .i64 (n : Int), .int .i64 (k : Int)]) rfl).cell3
  obtain ⟨e0, e1, e2⟩ := (st0.box 1 (w.heap.size + 1, [.int .i64 (p : Int), .int .i64 (n : Int), .int .i64 (l : Int)]) rfl).cell3
  go_enter Try.func16, Try.ntmps16
  go_wp2_with fail
  refine (HCK.out _).mono ?_
  rintro e w3 ⟨rfl, b3⟩
  have st3 := st0.keep b3
  have hz3 := b3.size
  simp only [World.size_alloc] at hz3
  clear st0 b3 f0 f1 f2 e0 e1 e2
  obtain ⟨f0, f1, f2⟩ := (st3.box 2 (w.heap.size, [.int .i64 (p : Int), .int .i64 (n : Int), .int .i64 (k : Int)]) rfl).cell3
  obtain ⟨e0, e1, e2⟩ := (st3.box 1 (w.heap.size + 1, [.int .i64 (p : Int), .int .i64 (n : Int), .int .i64 (l : Int)]) rfl).cell3
  go_wp2_with fail
  refine (l04Jacobi_any p n k l HP.out h1 h2 hk hl _).mono ?_
  rintro e w9 ⟨a9, k9, rfl, s9, b9⟩
  have st9 := st3.keep b9
  have hz9 := b9.size
  obtain ⟨d0, d1⟩ := (st9.box 0 (w.heap.size + 1 + 1, [.int .i64 0, .slice none 0 0]) rfl).cell2
  have dz := (st9.box 0 (w.heap.size + 1 + 1, [.int .i64 0, .slice none 0 0]) rfl).2.2
  dsimp only at dz
  have BB := st9.1
  have S9 := Lib.hid s9
  clear s9 b9 st9 st3 f0 f1 f2 e0 e1 e2
  go_wp2
  refine bodyPost_ret (v := .tuple #[.agg #[.int .i64 (n : Int), .slice a9 (phiN n) k9], .int .i64 0]) (by simp [results, Try.results16, go_sem, d0, d1]) rfl ?_
  exact ⟨_, _, rfl, (((S9.out.setOther (.inl (by show w.heap.size + 1 + 1 < _; omega)) _).setOther (.inl (by show w.heap.size + 1 + 1 < _; omega)) _).wide (by omega) (by simp) (Nat.le_refl _)), by go_grown⟩
end
end Go.Proofs.Ytloalhcloifgjaa
