/- Images in whole numbers: what the programs reckon is exact; residues of an order. Plain facts. -/
import Derived.Test.YtnhpodlcgkgpbaaAlg2
import Derived.Test.YtnhpodlcgkgpbaaImg
namespace Go.Proofs.Ytnhpodlcgkgpbaa
open Go.RowKit Go.ChangeShapes Go.Sort
set_option linter.unusedVariables false

theorem tab_one : ∀ n, n < 17 → 1 ≤ n → ∀ k, k < n → ∀ j, j < phiN n → -1 ≤ tb n k j ∧ tb n k j ≤ 1 := by decide +kernel
/-- The numbers f added at the places ix, in whole numbers. -/
def foldZ (ix : Nat → Nat) (f : Nat → Int) (m : Nat) : Nat → Int := fun j => sumN m (fun i => if ix i = j then f i else 0)
theorem foldP_wrap (ix : Nat → Nat) (f : Nat → Int) : ∀ m j, foldP ix f m j = wrap64 (foldZ ix f m j)
  | 0, j => by simp [foldP, foldZ, sumN, wrap64]
  | m + 1, j => by
    show (if j = ix m then wrap64 (foldP ix f m j + f m) else foldP ix f m j) = wrap64 (foldZ ix f m j + (if ix m = j then f m else 0))
    by_cases e : j = ix m
    · rw [if_pos e, if_pos e.symm, foldP_wrap ix f m j]
      unfold wrap64; omega
    · rw [if_neg e, if_neg (fun h => e h.symm), foldP_wrap ix f m j, Int.add_zero]
theorem one_bd {a b B : Int} (hB : 0 ≤ B) (h1 : -B ≤ a) (h2 : a ≤ B) (h3 : -1 ≤ b) (h4 : b ≤ 1) : -B ≤ a * b ∧ a * b ≤ B := by
  have : b = -1 ∨ b = 0 ∨ b = 1 := by omega
  rcases this with rfl | rfl | rfl <;> omega
theorem sumN_bd {F : Nat → Int} {B : Int} (hB : 0 ≤ B) : ∀ m, (∀ i, i < m → -B ≤ F i ∧ F i ≤ B) → -((m : Int) * B) ≤ sumN m F ∧ sumN m F ≤ (m : Int) * B
  | 0, _ => by simp [sumN]
  | m + 1, h => by
    have ih := sumN_bd hB m (fun i hi => h i (by omega))
    have h1 := h m (by omega)
    have e : (((m + 1 : Nat) : Int)) * B = (m : Int) * B + B := by rw [Int.natCast_add, Int.add_mul]; simp
    rw [e]
    show -((m : Int) * B + B) ≤ sumN m F + F m ∧ sumN m F + F m ≤ (m : Int) * B + B
    omega
theorem galZ_bd {n a L : Nat} {f : Nat → Int} {B : Int} (hn : n < 17) (h1 : 1 ≤ n) (hB : 0 ≤ B) (hf : ∀ j, j < L → -B ≤ f j ∧ f j ≤ B) (hL : L ≤ 12) {j : Nat} (hj : j < phiN n) :
    -(12 * B) ≤ galZ n a L f j ∧ galZ n a L f j ≤ 12 * B := by
  have h := sumN_bd (F := fun p => f p * tb n (p * a % n) j) hB L (fun i hi => by
    have h2 := tab_one n hn h1 (i * a % n) (Nat.mod_lt _ h1) j hj
    exact one_bd hB (hf i hi).1 (hf i hi).2 h2.1 h2.2)
  have h3 : (L : Int) * B ≤ 12 * B := Int.mul_le_mul_of_nonneg_right (by omega) hB
  unfold galZ
  omega
theorem redZ_fold {n a L : Nat} {f : Nat → Int} (hn : n < 17) (h1 : 1 ≤ n) {j : Nat} (hj : j < phiN n) : redZ n (foldZ (ixI n a) f L) j = galZ n a L f j := by
  have hp := phi_le12 n (by omega) h1
  rw [redZ_sum hn h1 _ (by omega)]
  unfold foldZ galZ
  have e : ∀ k, k < 24 → sumN L (fun i => if ixI n a i = k then f i else 0) * redZ n (unit k) j = sumN L (fun i => if k = ixI n a i then f i * tb n k j else 0) := fun k hk => by
    rw [← sumN_mulr, tb_eq hn h1 hk hj]
    refine sumN_congr (fun i _ => ?_)
    by_cases e : ixI n a i = k
    · rw [if_pos e, if_pos e.symm]
    · rw [if_neg e, if_neg (fun h => e h.symm), Int.zero_mul]
  rw [sumN_congr e, sumN_swap]
  refine sumN_congr (fun i _ => ?_)
  have := sumN_ite (m := 24) (k := ixI n a i) (fun k => f i * tb n k j)
  rw [this, if_pos (by have := ixI_lt n a i h1; omega)]
  rfl
/-- The image that the programs reckon is exact. -/
theorem imgP_gal {n a L : Nat} {f : Nat → Int} (hn : n < 17) (h1 : 1 ≤ n) (hf : ∀ j, j < L → -12000000000 ≤ f j ∧ f j ≤ 12000000000) (hL : L ≤ 12) {j : Nat} (hj : j < phiN n) : imgP n a L f j = galZ n a L f j := by
  have hp := phi_le12 n (by omega) h1
  have hb := galZ_bd (a := a) hn h1 (by omega : (0 : Int) ≤ 12000000000) hf hL hj
  unfold imgP
  rw [redP_exact hn h1 (fun k _ => foldP_wrap _ _ _ k) (by omega) (by rw [redZ_fold hn h1 hj]; unfold inR; omega), redZ_fold hn h1 hj]
theorem img_big {n a L : Nat} {f : Nat → Int} (hn : n < 17) (h1 : 1 ≤ n) (hf : Within f L 1000000000) (hL : L ≤ 12) : Within (imgP n a L f) (phiN n) 12000000000 := fun j hj => by
  rw [imgP_gal hn h1 (fun j hj => by have := hf j hj; omega) hL hj]
  exact galZ_bd hn h1 (by omega) hf hL hj

/-- The residues of n, ascending; how many are at most k: phiTo. -/
def resL (n : Nat) : List Nat := ((List.range n).map (· + 1)).filter (fun a => Nat.gcd a n == 1)
def res (n k : Nat) : Nat := (resL n).getD k 0
theorem res_at : ∀ n, n < 17 → 1 ≤ n → ∀ k, k < n → gcdI (((k : Nat) : Int) + 1) n = 1 → res n (phiTo n k) = k + 1 := by decide +kernel
theorem res_ok : ∀ n, n < 17 → 1 ≤ n → ∀ k, k < phiN n → 1 ≤ res n k ∧ res n k ≤ n ∧ Nat.gcd (res n k) n = 1 := by decide +kernel
theorem res_zero : ∀ n, n < 17 → 1 ≤ n → res n 0 = 1 := by decide +kernel
theorem phiTo_lt : ∀ n, n < 17 → 1 ≤ n → ∀ k, k < n → gcdI (((k : Nat) : Int) + 1) n = 1 → phiTo n k < phiN n := by decide +kernel
theorem phiTo_all (n : Nat) : phiTo n n = phiN n := by unfold phiN phiI; rw [Int.toNat_natCast]
/-- The image at the place k. -/
def im (n L : Nat) (f : Nat → Int) (k : Nat) : Nat → Int := imgP n (res n k) L f
theorem im_big {n L : Nat} {f : Nat → Int} (hn : n < 17) (h1 : 1 ≤ n) (hf : Within f L 1000000000) (hL : L ≤ 12) (k : Nat) : Within (im n L f k) (phiN n) 12000000000 := img_big hn h1 hf hL
end Go.Proofs.Ytnhpodlcgkgpbaa
