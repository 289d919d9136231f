/- Cyclotomic units have the norm 1. -/
import Derived.Test.YtnhpodlcgkgpbaaNm
import Derived.Test.YtnhpodlcgkgpbaaRgCu
namespace Go.Proofs.Ytnhpodlcgkgpbaa
open Go.RowKit Go.ChangeShapes Go.Sort
set_option linter.unusedVariables false
theorem gal_fold2 {n : Nat} (hn : n < 17) (h1 : 1 ≤ n) {f : Nat → Int} (hf : Within f (phiN n) 1000000000) {b : Nat} (hb : b < n + 1) (hg : Nat.gcd b n = 1) (hgf : Within (galZ n b (phiN n) f) (phiN n) 1000000000) : ∀ (l : List Nat) (acc acc' : Nat → Int), (∀ k ∈ l, k < phiN n) →
    (∀ j, j < phiN n → acc j = acc' j) → ∀ j, j < phiN n → l.foldl (stI n (galZ n b (phiN n) f)) acc j = (l.map (pmx n b)).foldl (stI n f) acc' j
  | [], acc, acc', _, h, j, hj => h j hj
  | k :: l, acc, acc', hl, h, j, hj => by
    refine gal_fold2 hn h1 hf hb hg hgf l (stI n (galZ n b (phiN n) f) acc k) (stI n f acc' (pmx n b k)) (fun i hi => hl i (List.mem_cons_of_mem _ hi)) (fun i hi => ?_) j hj
    have hk := hl k List.mem_cons_self
    have hp := pmx_ok n hn h1 b hb hg k hk
    have hr := res_ok n hn h1 k hk
    unfold stI
    rw [if_pos hi, if_pos hi]
    refine congrFun (pz_congr h (fun q hq => ?_)) i
    rw [im_gal hn h1 hgf k hq, im_gal hn h1 hf _ hq, gal_gal hn h1 _ _ (by omega) hr.2.2 f hq]
    exact congrFun (galZ_mod _ _ _ _ (by rw [Nat.mul_comm]; exact hp.2.symm)) q
theorem img_norm {n : Nat} (hn : n < 17) (h1 : 1 ≤ n) {f : Nat → Int} (hf : Within f (phiN n) 1000000000) {b : Nat} (hb : b < n + 1) (hg : Nat.gcd b n = 1) (hgf : Within (galZ n b (phiN n) f) (phiN n) 1000000000) :
    prI n (phiN n) (galZ n b (phiN n) f) 0 (phiN n) 0 = prI n (phiN n) f 0 (phiN n) 0 := by
  have h0 := phi_pos n hn h1
  rw [prI_fold hn h1 _ _ 0 h0, prI_fold hn h1 f _ 0 h0, gal_fold2 hn h1 hf hb hg hgf (List.range (phiN n)) one0 one0 (fun k hk => List.mem_range.1 hk) (fun _ _ => rfl) 0 h0]
  rw [stI_perm hn h1 f (List.isPerm_iff.1 (pmx_perm n hn h1 b hb hg))]
/-- 1 - z^a. -/
def omz (n a : Nat) : Nat → Int := fun j => tb n 0 j - tb n a j
theorem sumN_subC (F G : Nat → Int) : ∀ m, sumN m (fun i => F i - G i) = sumN m F - sumN m G
  | 0 => rfl
  | m + 1 => by simp only [sumN]; rw [sumN_subC F G m]; omega
theorem omz_gal {n a : Nat} (hn : n < 17) (h2 : 2 ≤ n) (ha : a < n) (hg : Nat.gcd a n = 1) {j : Nat} (hj : j < phiN n) : galZ n a (phiN n) (omz n 1) j = omz n a j := by
  have t := tab_gal n hn (by omega) a (by omega) hg
  unfold galZ omz
  rw [show sumN (phiN n) (fun p => (tb n 0 p - tb n 1 p) * tb n (p * a % n) j) = sumN (phiN n) (fun p => tb n 0 p * tb n (p * a % n) j - tb n 1 p * tb n (p * a % n) j) from sumN_congr (fun p _ => Int.sub_mul _ _ _)]
  rw [sumN_subC, t 0 (by omega) j hj, t 1 (by omega) j hj, Nat.zero_mul, Nat.zero_mod, Nat.one_mul, Nat.mod_eq_of_lt ha]
theorem omz_tb {n a : Nat} (hn : n < 17) (h2 : 2 ≤ n) (ha : a < n) {j : Nat} (hj : j < phiN n) : prodZ n (phiN n) (omz n 1) (fun i => tb n a i) j = tb n a j - tb n ((a + 1) % n) j := by
  have h1 : 1 ≤ n := by omega
  have t := fun s => tab_shift hn h1 ha s j hj
  have t0 := tab_shift hn h1 (k := 0) (by omega) a j hj
  have t1 := tab_shift hn h1 (k := 1) (by omega) a j hj
  rw [prodZ_tab hn h1 (Nat.le_refl _) _ _ hj]
  rw [show sumN (phiN n) (fun p => sumN (phiN n) (fun q => omz n 1 p * tb n a q * tb n ((p + q) % n) j)) = sumN (phiN n) (fun p => tb n 0 p * tb n ((p + a) % n) j - tb n 1 p * tb n ((p + a) % n) j) from sumN_congr (fun p _ => by
    have e : sumN (phiN n) (fun q => omz n 1 p * tb n a q * tb n ((p + q) % n) j) = omz n 1 p * tb n ((a + p) % n) j := by
      rw [← t p, ← sumN_mul]
      exact sumN_congr (fun q _ => by rw [Int.mul_assoc, Nat.add_comm p q])
    rw [e, Nat.add_comm a p]
    exact Int.sub_mul _ _ _)]
  rw [sumN_subC, t0, t1, Nat.zero_add, Nat.mod_eq_of_lt ha, Nat.add_comm 1 a]
theorem cu_omz {n : Nat} (hn : n < 17) (h2 : 2 ≤ n) {j : Nat} (hj : j < phiN n) : ∀ a, a < n → prodZ n (phiN n) (omz n 1) (cuF n a) j = omz n a j
  | 0, _ => by
    rw [show cuF n 0 = (fun _ => (0 : Int)) from rfl, pz_zero]
    unfold omz; omega
  | a + 1, ha => by
    have ih := cu_omz hn h2 hj a (by omega)
    rw [show cuF n (a + 1) = (fun i => 1 * cuF n a i + 1 * (fun i => tb n a i) i) from funext (fun i => by rw [Int.one_mul, Int.one_mul]; rfl)]
    rw [prodZ_lin, ih, omz_tb hn h2 (by omega) hj, Nat.mod_eq_of_lt ha]
    unfold omz
    omega
theorem omz_bd {n a : Nat} (hn : n < 17) (h2 : 2 ≤ n) (ha : a < n) : Within (omz n a) (phiN n) 1000000000 := fun j hj => by
  have e1 := tab_one n hn (by omega) 0 (by omega) j hj
  have e2 := tab_one n hn (by omega) a ha j hj
  unfold omz
  omega
def omzC (n : Nat) : Bool := (List.range (phiN n)).any (fun j => tb n 0 j - tb n 1 j != 0)
theorem omz_ne0 : ∀ n, n < 17 → 2 ≤ n → omzC n = true := by decide +kernel
theorem omz_ne {n : Nat} (hn : n < 17) (h2 : 2 ≤ n) : ∃ j, j < phiN n ∧ omz n 1 j ≠ 0 := by
  have h := omz_ne0 n hn h2
  unfold omzC at h
  obtain ⟨j, hj, hne⟩ := List.any_eq_true.1 h
  exact ⟨j, List.mem_range.1 hj, by simpa [omz] using hne⟩
/-- The norm of a cyclotomic unit is 1. -/
theorem cu_norm {n a : Nat} (hn : n < 17) (h2 : 2 ≤ n) (ha : a < n) (hg : Nat.gcd a n = 1) : prI n (phiN n) (cuF n a) 0 (phiN n) 0 = 1 := by
  have h1 : 1 ≤ n := by omega
  have h0 := phi_pos n hn h1
  have hO := omz_bd hn h2 (show 1 < n by omega)
  have hA := omz_bd hn h2 ha
  have hC := cu_within (n := n) (a := a) hn h1 (by omega)
  have hP : Within (prodZ n (phiN n) (omz n 1) (cuF n a)) (phiN n) 1000000000 := fun j hj => by rw [cu_omz hn h2 hj a ha]; exact hA j hj
  have hG : Within (galZ n a (phiN n) (omz n 1)) (phiN n) 1000000000 := fun j hj => by rw [omz_gal hn h2 ha hg hj]; exact hA j hj
  have e1 := norm_mul hn h1 hO hC hP
  have e2 := prI_congr hn h1 hP hA (fun j hj => cu_omz hn h2 hj a ha) 0 (phiN n) 0 h0
  have e3 := prI_congr hn h1 hG hA (fun j hj => omz_gal hn h2 ha hg hj) 0 (phiN n) 0 h0
  have e4 := img_norm hn h1 hO (by omega) hg hG
  have hne := norm_ne hn h1 hO (omz_ne hn h2)
  have e5 : prI n (phiN n) (omz n 1) 0 (phiN n) 0 * prI n (phiN n) (cuF n a) 0 (phiN n) 0 = prI n (phiN n) (omz n 1) 0 (phiN n) 0 * 1 := by
    rw [← e1, e2, ← e3, e4, Int.mul_one]
  exact Int.eq_of_mul_eq_mul_left hne e5
end Go.Proofs.Ytnhpodlcgkgpbaa
