/- Norms of products are products of norms. Plain facts, no walk. -/
import Derived.Test.YtnhpodlcgkgpbaaNormZ
namespace Go.Proofs.Ytnhpodlcgkgpbaa
open Go.RowKit Go.ChangeShapes Go.Sort
set_option linter.unusedVariables false
set_option linter.unusedSimpArgs false

section
variable {n : Nat}
theorem pz_four (hn : n < 17) (h1 : 1 ≤ n) (a b c d : Nat → Int) {j : Nat} (hj : j < phiN n) :
    prodZ n (phiN n) (prodZ n (phiN n) a b) (prodZ n (phiN n) c d) j = prodZ n (phiN n) (prodZ n (phiN n) a c) (prodZ n (phiN n) b d) j := by
  rw [pz_assoc hn h1 a b _ hj, pz_assoc hn h1 a c _ hj]
  exact congrFun (pz_congr (fun _ _ => rfl) (fun i hi => by rw [← pz_assoc hn h1 b c d hi, ← pz_assoc hn h1 c b d hi, prodZ_comm n (phiN n) b c])) j
theorem im_congr (hn : n < 17) (h1 : 1 ≤ n) {f g : Nat → Int} (hf : Within f (phiN n) 1000000000) (hg : Within g (phiN n) 1000000000) (h : ∀ j, j < phiN n → f j = g j) (k : Nat) {j : Nat} (hj : j < phiN n) : im n (phiN n) f k j = im n (phiN n) g k j := by
  rw [im_gal hn h1 hf k hj, im_gal hn h1 hg k hj, galZ_congr h]
theorem prI_congr (hn : n < 17) (h1 : 1 ≤ n) {f g : Nat → Int} (hf : Within f (phiN n) 1000000000) (hg : Within g (phiN n) 1000000000) (h : ∀ j, j < phiN n → f j = g j) (s : Nat) : ∀ k j, j < phiN n → prI n (phiN n) f s k j = prI n (phiN n) g s k j
  | 0, _, _ => rfl
  | k + 1, j, hj => by
    show prodZ n (phiN n) (prI n (phiN n) f s k) (im n (phiN n) f (s + k)) j = prodZ n (phiN n) (prI n (phiN n) g s k) (im n (phiN n) g (s + k)) j
    rw [pz_congr (prI_congr hn h1 hf hg h s k) (fun j hj => im_congr hn h1 hf hg h (s + k) hj)]
theorem prI_mul (hn : n < 17) (h1 : 1 ≤ n) {f g : Nat → Int} (hf : Within f (phiN n) 1000000000) (hg : Within g (phiN n) 1000000000) (hh : Within (prodZ n (phiN n) f g) (phiN n) 1000000000) : ∀ k, k ≤ phiN n → ∀ j, j < phiN n →
    prI n (phiN n) (prodZ n (phiN n) f g) 0 k j = prodZ n (phiN n) (prI n (phiN n) f 0 k) (prI n (phiN n) g 0 k) j
  | 0, _, j, hj => by
    show one0 j = prodZ n (phiN n) one0 one0 j
    rw [pz_one hn h1 one0 hj]
  | k + 1, hk, j, hj => by
    have hr := res_ok n hn h1 (0 + k) (by omega)
    show prodZ n (phiN n) (prI n (phiN n) (prodZ n (phiN n) f g) 0 k) (im n (phiN n) (prodZ n (phiN n) f g) (0 + k)) j = prodZ n (phiN n) (prodZ n (phiN n) (prI n (phiN n) f 0 k) (im n (phiN n) f (0 + k))) (prodZ n (phiN n) (prI n (phiN n) g 0 k) (im n (phiN n) g (0 + k))) j
    rw [pz_congr (prI_mul hn h1 hf hg hh k (by omega)) (fun i hi => show _ = prodZ n (phiN n) (im n (phiN n) f (0 + k)) (im n (phiN n) g (0 + k)) i by
      rw [im_gal hn h1 hh _ hi, gal_prod hn h1 hr.2.1 hr.2.2 f g hi]
      rw [pz_congr (fun j hj => (im_gal hn h1 hf (0 + k) hj).symm) (fun j hj => (im_gal hn h1 hg (0 + k) hj).symm)])]
    exact pz_four hn h1 _ _ _ _ hj
theorem norm_one0 (hn : n < 17) (h1 : 1 ≤ n) {f : Nat → Int} (hf : Within f (phiN n) 1000000000) : ∀ j, j < phiN n → prI n (phiN n) f 0 (phiN n) j = prI n (phiN n) f 0 (phiN n) 0 * one0 j := fun j hj => by
  unfold one0
  by_cases h0 : j = 0
  · subst h0; rw [if_pos rfl, Int.mul_one]
  · rw [if_neg h0, Int.mul_zero, norm_flat hn h1 hf hj (by omega)]
/-- The norm of a product is the product of the norms. -/
theorem norm_mul (hn : n < 17) (h1 : 1 ≤ n) {f g : Nat → Int} (hf : Within f (phiN n) 1000000000) (hg : Within g (phiN n) 1000000000) (hh : Within (prodZ n (phiN n) f g) (phiN n) 1000000000) :
    prI n (phiN n) (prodZ n (phiN n) f g) 0 (phiN n) 0 = prI n (phiN n) f 0 (phiN n) 0 * prI n (phiN n) g 0 (phiN n) 0 := by
  have hp := phi_pos n hn h1
  rw [prI_mul hn h1 hf hg hh (phiN n) (Nat.le_refl _) 0 hp, pz_congr (norm_one0 hn h1 hf) (norm_one0 hn h1 hg), pz_smul, pz_smull, pz_one hn h1 one0 hp]
  generalize prI n (phiN n) f 0 (phiN n) 0 = A
  generalize prI n (phiN n) g 0 (phiN n) 0 = B
  show B * (A * (if 0 = 0 then 1 else 0)) = A * B
  rw [if_pos rfl, Int.mul_one, Int.mul_comm]
end
end Go.Proofs.Ytnhpodlcgkgpbaa
