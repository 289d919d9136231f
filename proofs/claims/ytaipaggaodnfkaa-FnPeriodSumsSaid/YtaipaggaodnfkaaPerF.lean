/- Classes of residues, cyclotomic numbers, products of sums of periods. Plain facts, no walk. -/
import Derived.Test.YtaipaggaodnfkaaChr
import Derived.Test.YtaipaggaodnfkaaAlg
namespace Go.Proofs.Ytaipaggaodnfkaa
open Go.RowKit Go.ChangeShapes Go.Sort
set_option linter.unusedVariables false
set_option linter.unusedSimpArgs false

/-- There are e classes of p. -/
def HcP (p e : Int) : Prop := PrP p ∧ OrP p e ∧ e ≤ 12
theorem HcP.nat {p e : Int} (h : HcP p e) : ∃ P E : Nat, p = P ∧ e = E ∧ primeN P = true ∧ 1 ≤ E ∧ E ≤ 12 ∧ (P - 1) % E = 0 := by
  obtain ⟨⟨hp0, hp⟩, ⟨h1, h2, h3⟩, h4⟩ := h
  obtain ⟨P, rfl⟩ := Int.eq_ofNat_of_zero_le hp0
  obtain ⟨E, rfl⟩ := Int.eq_ofNat_of_zero_le (show 0 ≤ e by omega)
  rw [Int.toNat_natCast] at hp
  have hb := primeN_bd hp
  refine ⟨P, E, rfl, rfl, hp, by omega, by omega, ?_⟩
  have e : ((P : Int) - 1) = ((P - 1 : Nat) : Int) := by omega
  rw [e, ← Int.natCast_emod] at h3
  omega
theorem HcP.of {P E : Nat} (hp : primeN P = true) (h1 : 1 ≤ E) (h2 : E ≤ 12) (hd : (P - 1) % E = 0) : HcP P E := by
  have hb := primeN_bd hp
  refine ⟨⟨by omega, by rw [Int.toNat_natCast]; exact hp⟩, ⟨by omega, by omega, ?_⟩, by omega⟩
  rw [show ((P : Int) - 1) = ((P - 1 : Nat) : Int) by omega, ← Int.natCast_emod, hd]; rfl
theorem HcP.le {P E : Nat} (hp : primeN P = true) (h1 : 1 ≤ E) (hd : (P - 1) % E = 0) : E ≤ P - 1 := by
  have hb := primeN_bd hp
  rcases Nat.lt_or_ge (P - 1) E with h | h
  · rw [Nat.mod_eq_of_lt h] at hd; omega
  · exact h

/-- The class of x. -/
def clsN (p e x : Nat) : Nat := idxN p x % e
theorem cls_lt {p e x : Nat} (h : 1 ≤ e) : clsN p e x < e := Nat.mod_lt _ h
/-- The numbers ahead of X of the class i whose followers are of the class j. -/
def cntN (p e : Nat) : Nat → Nat → Nat → Int
  | 0, _, _ => 0
  | X + 1, i, j => cntN p e X i j + if 1 ≤ X ∧ i = clsN p e X ∧ j = clsN p e (X + 1) then 1 else 0
theorem cnt_bd (p e : Nat) : ∀ X i j, 0 ≤ cntN p e X i j ∧ cntN p e X i j ≤ X
  | 0, _, _ => by simp [cntN]
  | X + 1, i, j => by
    have := cnt_bd p e X i j
    simp only [cntN]
    split <;> omega
/-- The cyclotomic number of i and j. -/
def tabN (p e : Nat) (i j : Nat) : Int := cntN p e (p - 1) i j
/-- The rows of classes, with what counts as last. -/
def rowN (p e : Nat) (last : Int) (i j : Nat) : Int := tabN p e i j + if i = clsN p e (p - 1) then last else 0

/-- Sums of bounded numbers. -/
theorem sumN_abs {F : Nat → Int} {C : Int} : ∀ {m : Nat}, (∀ i, i < m → -C ≤ F i ∧ F i ≤ C) → -((m : Int) * C) ≤ sumN m F ∧ sumN m F ≤ (m : Int) * C
  | 0, _ => by simp [sumN]
  | m + 1, h => by
    have h1 := sumN_abs (fun i hi => h i (Nat.lt_succ_of_lt hi))
    have h2 := h m (Nat.lt_succ_self m)
    have e : ((m + 1 : Nat) : Int) * C = (m : Int) * C + C := by rw [Int.natCast_add, Int.add_mul]; simp
    simp only [sumN]
    rw [e]; omega

/-- One term of a product of sums of periods, at t. -/
def prTm (e : Nat) (R : Nat → Nat → Int) (a b : Nat → Int) (t i k m : Nat) : Int := if (i + m) % e = t then a i * b ((i + k) % e) * R k m else 0
def prRow (e : Nat) (R : Nat → Nat → Int) (a b : Nat → Int) (t i k : Nat) : Int := sumN e (prTm e R a b t i k)
def prBlk (e : Nat) (R : Nat → Nat → Int) (a b : Nat → Int) (t i : Nat) : Int := sumN e (prRow e R a b t i)
/-- A product of sums of periods: its number at t. -/
def prT (e : Nat) (R : Nat → Nat → Int) (a b : Nat → Int) (t : Nat) : Int := sumN e (prBlk e R a b t)
/-- What stands at t when i blocks, k rows and m terms have come. -/
def prP (e : Nat) (R : Nat → Nat → Int) (a b : Nat → Int) (i k m t : Nat) : Int := sumN i (prBlk e R a b t) + sumN k (prRow e R a b t i) + sumN m (prTm e R a b t i k)
section
variable {e : Nat} {R : Nat → Nat → Int} {a b : Nat → Int}
theorem prP_start (t : Nat) : prP e R a b 0 0 0 t = 0 := rfl
theorem prP_step (i k m t : Nat) : prP e R a b i k (m + 1) t = if t = (i + m) % e then prP e R a b i k m t + a i * b ((i + k) % e) * R k m else prP e R a b i k m t := by
  have h : prP e R a b i k (m + 1) t = prP e R a b i k m t + prTm e R a b t i k m := by unfold prP; simp only [sumN]; omega
  rw [h]; unfold prTm
  by_cases ht : t = (i + m) % e
  · rw [if_pos ht.symm, if_pos ht]
  · rw [if_neg (fun h => ht h.symm), if_neg ht]; omega
theorem prP_row (i k t : Nat) : prP e R a b i k e t = prP e R a b i (k + 1) 0 t := by
  unfold prP; simp only [sumN]; unfold prRow; omega
theorem prP_blk (i t : Nat) : prP e R a b i e 0 t = prP e R a b (i + 1) 0 0 t := by
  unfold prP; simp only [sumN]; unfold prBlk; omega
theorem prP_all (t : Nat) : prP e R a b e 0 0 t = prT e R a b t := by
  unfold prP prT; simp only [sumN]; omega
theorem prTm_bd {C : Int} (hC : 0 ≤ C) {i k m t : Nat} (h : -C ≤ a i * b ((i + k) % e) * R k m ∧ a i * b ((i + k) % e) * R k m ≤ C) : -C ≤ prTm e R a b t i k m ∧ prTm e R a b t i k m ≤ C := by
  unfold prTm; split
  · exact h
  · omega
theorem nat_le_mul {C : Int} (hC : 0 ≤ C) {i j : Nat} (h : i ≤ j) : (i : Int) * C ≤ (j : Int) * C := Int.mul_le_mul_of_nonneg_right (by omega) hC
theorem prP_bd {C : Int} (hC : 0 ≤ C) (he : e ≤ 12) (h : ∀ i k m, i < e → k < e → m < e → -C ≤ a i * b ((i + k) % e) * R k m ∧ a i * b ((i + k) % e) * R k m ≤ C) {i k m : Nat} (hi : i ≤ e) (hk : k ≤ e) (hm : m ≤ e) (hi' : i < e ∨ (k = 0 ∧ m = 0)) (hk' : k < e ∨ m = 0) (t : Nat) :
    -(3000 * C) ≤ prP e R a b i k m t ∧ prP e R a b i k m t ≤ 3000 * C := by
  have hrow : ∀ i' k', i' < e → k' < e → -(12 * C) ≤ prRow e R a b t i' k' ∧ prRow e R a b t i' k' ≤ 12 * C := fun i' k' h1 h2 => by
    have h3 := sumN_abs (F := prTm e R a b t i' k') (m := e) (fun m' (hm' : m' < e) => prTm_bd (t := t) hC (h i' k' m' h1 h2 hm'))
    have h4 := nat_le_mul hC he
    unfold prRow
    omega
  have hblk : ∀ i', i' < e → -(144 * C) ≤ prBlk e R a b t i' ∧ prBlk e R a b t i' ≤ 144 * C := fun i' h1 => by
    have h3 := sumN_abs (F := prRow e R a b t i') (m := e) (fun k' (hk' : k' < e) => hrow i' k' h1 hk')
    have h4 := nat_le_mul (C := 12 * C) (by omega) he
    unfold prBlk
    omega
  have s1 := sumN_abs (F := prBlk e R a b t) (m := i) (fun i' (h' : i' < i) => hblk i' (by omega))
  have t1 := nat_le_mul (C := 144 * C) (by omega) (show i ≤ 12 by omega)
  have s2 : -(144 * C) ≤ sumN k (prRow e R a b t i) ∧ sumN k (prRow e R a b t i) ≤ 144 * C := by
    rcases hi' with hi' | ⟨rfl, _⟩
    · have s2 := sumN_abs (F := prRow e R a b t i) (m := k) (fun k' (h' : k' < k) => hrow i k' hi' (by omega))
      have t2 := nat_le_mul (C := 12 * C) (by omega) (show k ≤ 12 by omega)
      omega
    · simp only [sumN]; omega
  have s3 : -(12 * C) ≤ sumN m (prTm e R a b t i k) ∧ sumN m (prTm e R a b t i k) ≤ 12 * C := by
    rcases Nat.eq_zero_or_pos m with rfl | hm0
    · simp only [sumN]; omega
    · have s3 := sumN_abs (F := prTm e R a b t i k) (m := m) (fun m' (h' : m' < m) => prTm_bd (t := t) hC (h i k m' (by omega) (by omega) (by omega)))
      have t3 := nat_le_mul hC (show m ≤ 12 by omega)
      omega
  unfold prP
  omega
theorem prT_congr {a' b' : Nat → Int} {R' : Nat → Nat → Int} (ha : ∀ i, i < e → a' i = a i) (hb : ∀ i, i < e → b' i = b i) (hR : ∀ i j, i < e → j < e → R' i j = R i j) (t : Nat) : prT e R' a' b' t = prT e R a b t := by
  unfold prT
  refine sumN_congr (fun i hi => ?_)
  unfold prBlk
  refine sumN_congr (fun k hk => ?_)
  unfold prRow
  refine sumN_congr (fun m hm => ?_)
  unfold prTm
  rw [ha i hi, hb _ (Nat.mod_lt _ (by omega)), hR k m hk hm]
end
end Go.Proofs.Ytaipaggaodnfkaa
