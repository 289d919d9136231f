/- Chapter 7: the model's numbers with given residues, by reckoning: the same as the program's. Plain facts. -/
import Derived.Test.YthookppmclimkaaPlcN
namespace Go.Proofs.Ythookppmclimkaa
set_option linter.unusedVariables false

theorem tmL_len (l r : Nat) (P : List Nat) : (tmL l r P).length = P.length + 1 := by unfold tmL; simp
theorem tmL_bd {l r : Nat} (hl : 1 ≤ l) (P : List Nat) (j : Nat) : 0 ≤ nF (tmL l r P) j ∧ nF (tmL l r P) j < l := by
  unfold nF
  rcases Nat.lt_or_ge j (tmL l r P).length with h | h
  · rw [List.getD_eq_getElem?_getD, List.getElem?_eq_getElem h]
    have hm := List.getElem_mem h
    generalize (tmL l r P)[j] = y at *
    unfold tmL at hm
    obtain ⟨t, _, rfl⟩ := List.mem_map.1 hm
    have := Nat.mod_lt ((if t = 0 then 0 else P.getD (t - 1) 0) + (l - r) * P.getD t 0) (show 0 < l by omega)
    simp only [Option.getD_some]
    omega
  · rw [List.getD_eq_getElem?_getD, List.getElem?_eq_none h]
    simp; omega
theorem lgP_len (l : Nat) (R : List Nat) (i : Nat) : ∀ k, (lgP l R i k).length = if k ≤ i then k + 1 else k
  | 0 => by simp [lgP]
  | k + 1 => by
    have ih := lgP_len l R i k
    simp only [lgP]
    by_cases e : k = i
    · subst e; rw [if_pos rfl, ih, if_pos (Nat.le_refl _), if_neg (by omega)]
    · rw [if_neg e, tmL_len, ih]
      by_cases h : k ≤ i
      · rw [if_pos h, if_pos (by omega)]
      · rw [if_neg h, if_neg (by omega)]
theorem lgP_bd {l : Nat} (hl : 2 ≤ l) (R : List Nat) (i : Nat) : ∀ k j, 0 ≤ nF (lgP l R i k) j ∧ nF (lgP l R i k) j < l
  | 0, j => by
    unfold nF lgP
    match j with
    | 0 => simp; omega
    | j + 1 => simp; omega
  | k + 1, j => by
    simp only [lgP]
    split
    · exact lgP_bd hl R i k j
    · exact tmL_bd (by omega) _ j
theorem tmL_at {l r : Nat} {P : List Nat} {j : Nat} (hr : r ≤ l) (hj : j < P.length) : nF (tmL l r P) j = ((if j = 0 then 0 else nF P (j - 1)) + nF P j * ((l : Int) - r)) % l := by
  have e : nF (tmL l r P) j = (((if j = 0 then 0 else P.getD (j - 1) 0) + (l - r) * P.getD j 0) % l : Nat) := by
    unfold nF tmL
    rw [List.getD_eq_getElem?_getD, List.getElem?_map, List.getElem?_range (by omega)]
    rfl
  rw [e, Int.natCast_emod, Int.natCast_add, Int.natCast_mul, Int.mul_comm]
  have e2 : (((if j = 0 then 0 else P.getD (j - 1) 0 : Nat)) : Int) = if j = 0 then 0 else nF P (j - 1) := by split <;> rfl
  have e3 : ((l - r : Nat) : Int) = (l : Int) - r := by omega
  rw [e2, e3]
  rfl
theorem tmL_last {l r : Nat} {P : List Nat} (hP : ∀ j, 0 ≤ nF P j ∧ nF P j < l) (h1 : 1 ≤ P.length) : nF (tmL l r P) P.length = nF P (P.length - 1) := by
  have e : nF (tmL l r P) P.length = (((if P.length = 0 then 0 else P.getD (P.length - 1) 0) + (l - r) * P.getD P.length 0) % l : Nat) := by
    unfold nF tmL
    rw [List.getD_eq_getElem?_getD, List.getElem?_map, List.getElem?_range (by omega)]
    rfl
  have e2 : P.getD P.length 0 = 0 := by rw [List.getD_eq_getElem?_getD, List.getElem?_eq_none (Nat.le_refl _)]; rfl
  rw [e, e2, Nat.mul_zero, Nat.add_zero, if_neg (by omega), Int.natCast_emod]
  have := hP (P.length - 1)
  exact Int.emod_eq_of_lt this.1 this.2
/-- After j rounds of the product. -/
def nxG (l r : Nat) (P : List Nat) (j t : Nat) : Int := if t < j then nF (tmL l r P) t else if t = j then (if j = 0 then 0 else nF P (j - 1)) else 0
theorem nxG_end {l r : Nat} {P : List Nat} (hP : ∀ j, 0 ≤ nF P j ∧ nF P j < l) (h1 : 1 ≤ P.length) (t : Nat) (ht : t < P.length + 1) : nxG l r P P.length t = nF (tmL l r P) t := by
  unfold nxG
  by_cases h : t < P.length
  · rw [if_pos h]
  · obtain rfl : t = P.length := by omega
    rw [if_neg h, if_pos rfl, if_neg (by omega), tmL_last hP h1]
/-- The Parts after i roots. -/
def ouF (l : Nat) (R : List Nat) (v : Nat → Int) : Nat → Nat → Int
  | 0 => fun _ => 0
  | i + 1 => fun j => (ouF l R v i j + (lgC l R i (v i).toNat R.length : Nat) * nF (lgP l R i R.length) j) % l
theorem ouF_bd {l : Nat} (hl : 1 ≤ l) (R : List Nat) (v : Nat → Int) : ∀ i j, 0 ≤ ouF l R v i j ∧ ouF l R v i j < l
  | 0, j => by simp [ouF]; omega
  | i + 1, j => ⟨Int.emod_nonneg _ (by omega), Int.emod_lt_of_pos _ (by omega)⟩
theorem ouF_sum {l : Nat} (hl : 1 ≤ l) (R : List Nat) (v : Nat → Int) (hv : ∀ i, i < R.length → 0 ≤ v i ∧ v i < l) (j : Nat) : ∀ i, i ≤ R.length → ouF l R v i j = sumN i (fun i => lgT l R i j * v i) % l
  | 0, _ => by simp [ouF, sumN]
  | i + 1, hi => by
    have ih := ouF_sum hl R v hv j i (by omega)
    have hvi := hv i (by omega)
    show (ouF l R v i j + _) % l = (sumN i _ + lgT l R i j * v i) % l
    rw [ih, Int.add_emod, Int.emod_emod, Int.add_emod (sumN i _)]
    congr 2
    have e1 : ((lgC l R i (v i).toNat R.length : Nat) : Int) % l = ((v i) * (lgC l R i 1 R.length : Nat)) % l := by
      have := lgC_mul l R i (v i).toNat R.length
      have h2 : (((lgC l R i (v i).toNat R.length % l : Nat)) : Int) = (((v i).toNat * lgC l R i 1 R.length % l : Nat) : Int) := by rw [this]
      rw [Int.natCast_emod, Int.natCast_emod, Int.natCast_mul, Int.toNat_of_nonneg hvi.1] at h2
      exact h2
    rw [Int.mul_emod, e1, ← Int.mul_emod]
    unfold lgT
    rw [Int.natCast_emod, Int.natCast_mul]
    show _ = (((lgC l R i 1 R.length : Nat) : Int) * nF (lgP l R i R.length) j % (l : Int) * v i) % l
    rw [Int.mul_emod (_ % (l : Int)), Int.emod_emod, ← Int.mul_emod]
    congr 1
    rw [Int.mul_comm (v i), Int.mul_assoc, Int.mul_assoc, Int.mul_comm (v i)]
/-- Both are the same. -/
theorem nw_ou {l n : Nat} (hl : primeN l = true) (h1 : 1 ≤ n) (h2 : n ≤ 16) (hf : fullN l n = true) (v : Nat → Int) (hv : ∀ i, i < (roots n l).length → 0 ≤ v i ∧ v i < l) (j : Nat) (hj : j < (roots n l).length) :
    nwF l (roots n l).length (roots n l) v (roots n l).length j = ouF l (roots n l) v (roots n l).length j := by
  have hb := primeN_bd hl
  rw [lg_one hl h1 h2 hf (nwF l (roots n l).length (roots n l) v (roots n l).length) v (fun j _ => nwF_bd (by omega) _ _ _ j) (nwF_val hl h1 h2 hf v hv _ (Nat.le_refl _)) j hj,
    ouF_sum (by omega) _ v hv j _ (Nat.le_refl _)]
end Go.Proofs.Ythookppmclimkaa
