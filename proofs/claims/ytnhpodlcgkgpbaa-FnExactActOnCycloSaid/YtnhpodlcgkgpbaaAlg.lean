/- Numbers as sums of powers: products do not depend on the order, and images of products are products of images. -/
import Derived.Test.YtnhpodlcgkgpbaaConv
import Derived.Test.YtnhpodlcgkgpbaaImg
namespace Go.Proofs.Ytnhpodlcgkgpbaa
open Go.RowKit Go.ChangeShapes Go.Sort
set_option linter.unusedVariables false
set_option linter.unusedSimpArgs false

/-- F 0 + .. + F (m - 1). -/
def sumN : Nat → (Nat → Int) → Int
  | 0, _ => 0
  | m + 1, F => sumN m F + F m
theorem sumN_congr {F G : Nat → Int} : ∀ {m}, (∀ i, i < m → F i = G i) → sumN m F = sumN m G
  | 0, _ => rfl
  | m + 1, h => by simp only [sumN]; rw [sumN_congr (fun i hi => h i (Nat.lt_succ_of_lt hi)), h m (Nat.lt_succ_self m)]
theorem sumN_add (F G : Nat → Int) : ∀ m, sumN m (fun i => F i + G i) = sumN m F + sumN m G
  | 0 => rfl
  | m + 1 => by simp only [sumN]; rw [sumN_add F G m]; omega
theorem sumN_mul (a : Int) (F : Nat → Int) : ∀ m, sumN m (fun i => a * F i) = a * sumN m F
  | 0 => by simp [sumN]
  | m + 1 => by simp only [sumN]; rw [sumN_mul a F m, Int.mul_add]
theorem sumN_mulr (a : Int) (F : Nat → Int) (m : Nat) : sumN m (fun i => F i * a) = sumN m F * a := by
  rw [Int.mul_comm, ← sumN_mul]
  exact sumN_congr (fun i _ => Int.mul_comm _ _)
theorem sumN_zero : ∀ m, sumN m (fun _ => 0) = 0
  | 0 => rfl
  | m + 1 => by simp only [sumN]; rw [sumN_zero m]; rfl
theorem sumN_swap (F : Nat → Nat → Int) (m : Nat) : ∀ n, sumN m (fun i => sumN n (fun j => F i j)) = sumN n (fun j => sumN m (fun i => F i j))
  | 0 => by simp only [sumN]; exact sumN_zero m
  | n + 1 => by
    simp only [sumN]
    rw [sumN_add, sumN_swap F m n]
theorem sumN_single {m k : Nat} (a : Int) : sumN m (fun i => if i = k then a else 0) = if k < m then a else 0 := by
  induction m with
  | zero => simp [sumN]
  | succ m ih =>
    simp only [sumN]
    rw [ih]
    by_cases h : k < m
    · rw [if_pos h, if_neg (by omega), if_pos (by omega)]; omega
    · by_cases e : m = k
      · rw [if_neg h, if_pos e, if_pos (by omega)]; omega
      · rw [if_neg h, if_neg e, if_neg (by omega)]; rfl
theorem sumN_ite {m k : Nat} (F : Nat → Int) : sumN m (fun i => if i = k then F i else 0) = if k < m then F k else 0 := by
  rw [← sumN_single (F k)]
  exact sumN_congr (fun i _ => by by_cases e : i = k <;> simp [e])

/-- A product's list, as a sum. -/
theorem convZ_sum (f g : Nat → Int) (L : Nat) : ∀ i j, convZ f g L i j = sumN i (fun p => sumN L (fun q => if p + q = j then f p * g q else 0))
  | 0, j => rfl
  | i + 1, j => by
    simp only [convZ, sumN]
    rw [← convZ_sum f g L i j]
    unfold addRow
    by_cases h : i ≤ j ∧ j < i + L
    · rw [if_pos h]
      congr 1
      have e : sumN L (fun q => if i + q = j then f i * g q else 0) = sumN L (fun q => if q = j - i then f i * g q else 0) :=
        sumN_congr (fun q _ => by by_cases e : q = j - i
                                  · rw [if_pos e, if_pos (by omega)]
                                  · rw [if_neg e, if_neg (by omega)])
      rw [e, sumN_ite (fun q => f i * g q), if_pos (by omega)]
    · rw [if_neg h]
      have e : sumN L (fun q => if i + q = j then f i * g q else 0) = sumN L (fun _ => 0) := sumN_congr (fun q hq => if_neg (by omega))
      rw [e, sumN_zero]; omega
theorem convZ_comm (f g : Nat → Int) (L : Nat) : convZ f g L L = convZ g f L L := by
  funext j
  rw [convZ_sum, convZ_sum, sumN_swap]
  exact sumN_congr (fun p _ => sumN_congr (fun q _ => by rw [Nat.add_comm q p, Int.mul_comm]))
/-- Products do not depend on the order. -/
theorem prodZ_comm (n L : Nat) (f g : Nat → Int) : prodZ n L f g = prodZ n L g f := by
  unfold prodZ; rw [convZ_comm]

/-- Reduction, as a sum over powers. -/
theorem redZ_sum {n : Nat} (hn : n < 17) (h1 : 1 ≤ n) (P : Nat → Int) {j : Nat} (hj : j < 24) : redZ n P j = sumN 24 (fun k => P k * redZ n (unit k) j) := by
  rw [redZ_all hn h1 P hj]
  have key : ∀ m, redZ n (upto P m) j = sumN m (fun k => P k * redZ n (unit k) j) := by
    intro m
    induction m with
    | zero =>
      have e : upto P 0 = fun _ => 0 := by funext _; unfold upto; simp
      rw [e, redZ_zero]; rfl
    | succ m ih => rw [redZ_upto, ih]; rfl
  exact key 24
/-- The Parts of a product, as a sum over the Parts of both. -/
theorem prodZ_sum {n L : Nat} (hn : n < 17) (h1 : 1 ≤ n) (hL : L ≤ 12) (f g : Nat → Int) {j : Nat} (hj : j < 24) :
    prodZ n L f g j = sumN L (fun p => sumN L (fun q => f p * g q * redZ n (unit (p + q)) j)) := by
  unfold prodZ
  rw [redZ_sum hn h1 _ hj]
  have e1 : sumN 24 (fun k => convZ f g L L k * redZ n (unit k) j) = sumN 24 (fun k => sumN L (fun p => sumN L (fun q => if p + q = k then f p * g q * redZ n (unit k) j else 0))) :=
    sumN_congr (fun k _ => by
      rw [convZ_sum, ← sumN_mulr]
      refine sumN_congr (fun p _ => ?_)
      rw [← sumN_mulr]
      refine sumN_congr (fun q _ => ?_)
      by_cases e : p + q = k <;> simp [e])
  rw [e1, sumN_swap]
  refine sumN_congr (fun p hp => ?_)
  rw [sumN_swap]
  refine sumN_congr (fun q hq => ?_)
  have e2 : sumN 24 (fun k => if p + q = k then f p * g q * redZ n (unit k) j else 0) = sumN 24 (fun k => if k = p + q then f p * g q * redZ n (unit k) j else 0) :=
    sumN_congr (fun k _ => by by_cases e : k = p + q
                              · rw [if_pos e, if_pos e.symm]
                              · rw [if_neg e, if_neg (fun h => e h.symm)])
  rw [e2, sumN_ite (fun k => f p * g q * redZ n (unit k) j), if_pos (by omega)]
end Go.Proofs.Ytnhpodlcgkgpbaa
